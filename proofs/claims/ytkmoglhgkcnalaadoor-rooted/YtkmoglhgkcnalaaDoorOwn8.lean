/- A part of what the last text of the claim imports: texts laid together, and made small, by a program. -/
import Derived.Laws.Tables
import Derived.Deep.MidRow
import Derived.Test.YtkmoglhgkcnalaaDoorProg
import Derived.Conc.WalkWords
import Derived.KernelRfl
import Derived.Laws.Slices
import Derived.Conc.EventLaws2
import Derived.RowKit
import Derived.Test.YtkmoglhgkcnalaaDoorRows
import Derived.WalkKit
import Derived.WalkSpells
import Derived.WalkLawsBesides
import Derived.Deep.QuietTactic
import Derived.BigQuiet
import Derived.Deep.OwnRows
import Derived.Deep.RegionHeld3
import Derived.Great.BuildSlice
import Derived.Shelf.Strings.Builder1
import Derived.Shelf.Strings.Builder2
import Derived.Shelf.Strings.BuilderF
import Derived.Shelf.Strings.BuilderK
import Derived.Shelf.Strings.Prefix
import Derived.Shelf.Bits.Mul64
import Derived.Shelf.Strings.Repeat
import Derived.Test.YtkmoglhgkcnalaaDoorOwn7
set_option maxHeartbeats 16000000
set_option maxRecDepth 100000
namespace Go.Proofs.YtkmoglhgkcnalaaDoor
open Go Go.Conc Go.RowKit
def ua(P:Program)(ops:Array Oper)(a:Act)(o:Oper)(w:World)(R:Value->World->Prop):Prop:=(Region.wanted o (yielded ops a.tmps)=true/\uY P a o w R)\/(Region.wanted o (yielded ops a.tmps)=false/\R undef w)
def zE(ops:Array Oper)(ds:List Nat)(fx:List Nat)(N:Nat):Bool:=
 uM ops&&decide (ds.length<=ops.size)&&((List.range ds.length).all λn=>((ops[n]?).map λo=>o.dst==ds[n]?&&qY o.op).getD false)&&decide ds.Nodup&&(ds.all λd=>decide (d<N)&& !fx.contains d)&&
 ((List.range ops.size).all λn=>decide (n<ds.length)||((List.range n).all λk=>zq ops ops.size n k))
section
variable{P:Program}{Goal:Goroutine->World->Prop}{b:Frame}{k:List Item}{cs:List Frame}
theorem Rn.skips{a:Act}{w:World}{ops:Array Oper}{n:Nat}{rest:List Nat}{o:Oper}(ho:ops[n]?=some o)(hw:Region.wanted o (yielded ops a.tmps)=false)(h:Rn P Goal (b.atR (a.put o.dst undef) (.inRegion ops rest::k)) cs w):Rn P Goal (b.atR a (.inRegion ops (n::rest)::k)) cs w:=by
 refine Rn.exec rfl (im (fr:=b.atR a (.inRegion ops (n::rest)::k)) rfl (by rw[ho];exact hw)) ?_
 rw[Frame.finish_atR,ho]
 exact h
theorem Rn.doesG{a:Act}{w:World}{ops:Array Oper}{n:Nat}{rest:List Nat}{o:Oper}{R:Value->World->Prop}(ho:ops[n]?=some o)(hnd:∀c,o.op≠ .defer c)(h:ua P ops a o w R)(next:∀v w',R v w'->Rn P Goal (b.atR (a.put o.dst v) (.inRegion ops rest::k)) cs w'):Rn P Goal (b.atR a (.inRegion ops (n::rest)::k)) cs w:=by
 rcases h with⟨hw,h⟩|⟨hw,h⟩
 ·exact Rn.does ho hw hnd h next
 ·exact Rn.skips ho hw (next undef w h)
theorem Rn.growsG{id:Nat}{ops:Array Oper}{df:List Deferred}{fx:List (Nat×Value)}{ds:List Nat}{G:Nat->Value->World->Prop}{N:Nat}{w:World}{a:Act}(hmix:P.follows .mixedOrders=true)(hchk:zE ops ds (fx.map (·.1)) N=true)(hmono:∀n v w w',G n v w->Below w.heap.size w w'->G n v w')
 (hop:∀n o a w',n<ds.length->ops[n]?=some o->Below w.heap.size w w'->N<=a.tmps.size->(∀p∈fx,a.tmps[p.1]?=some p.2)->(∀m d,ds[m]?=some d->jN ops n m=true->∃v,a.tmps[d]?=some v/\G m v w')->ua P ops a o w' λv w''=>G n v w''/\Below w'.heap.size w' w'')
 (Stage:Nat->Act->World->Prop) (hs0:∀a w',tZ df fx ds G N w a w' (λ_=>True)->Stage ds.length a w')
 (hst:∀n o a w' rest,ds.length<=n->ops[n]?=some o->Stage n a w'->(∀a' w'',Stage (n+1) a' w''->Rn P Goal (b.atR a' (.inRegion ops rest::k)) cs w'')->Rn P Goal (b.atR a (.inRegion ops (n::rest)::k)) cs w')
 (hend:∀a w',Stage ops.size a w'->Rn P Goal (b.atR a k) cs w') (hdf:a.defers=df) (hN:N<=a.tmps.size) (hfx:∀p∈fx,a.tmps[p.1]?=some p.2):Rn P Goal (b.atR a (.code (.region id ops true)::k)) cs w:=by
 simp only[zE,Bool.and_eq_true,decide_eq_true_eq,List.all_eq_true,List.mem_range,Bool.or_eq_true]at hchk
 obtain⟨⟨⟨⟨⟨c1,c3⟩,c4⟩,c5⟩,c6⟩,c7⟩:=hchk
 refine Rn.draw λt=> ?_
 have hsch:Region.schedule (P.follows .mixedOrders) ops t=Region.linearise .any ops t:=by
  unfold Region.schedule
  rw[hmix]
  simp
 rw[hsch]
 have tail:∀{listed:Array Bool} {m:Nat} {o:Oper},kX ops listed->ds.length<=m->ops[m]?=some o->(∀e∈o.after,Region.binds .any e=true->listed[e.on]?=some true)->∀n,n<m->listed[n]?=some true:=λ{listed m o} hcl hm ho hdep n hn=>by
  have hlt:m<ops.size:=(gA ho).1
  exact hcl.reach ops.size m n o ho hdep (((c7 m hlt).resolve_left (by omega)) n hn)
 refine Rn.orderly (ou c1) (λlisted a w'=>kX ops listed/\(((∀n,ds.length<=n->n<ops.size->listed[n]?=some false)/\tZ df fx ds G N w a w' λn=>listed[n]?=some true)\/∃j,ds.length<j/\j<=ops.size/\(∀n,n<j->listed[n]?=some true)/\(∀n,j<=n->n<ops.size->listed[n]?=some false)/\Stage j a w'))
  (λlisted a w' hall h=> ?_) (λlisted a w' m o rest hsz ho hm hdep h hgo=> ?_) t a _ ⟨λn o _ hl=> ?_, .inl ⟨λn _ hn=>by simp[hn],hdf,hN,hfx,iM w,λn d hd hl=> ?_⟩⟩
 ·refine Rn.p rfl (hend a w' ?_)
  obtain⟨hcl,h⟩:=h
  rcases h with⟨h1,h2⟩|⟨j,h1,h2,h3,h4,h5⟩
  ·have hK:ds.length=ops.size:=by
    refine Nat.le_antisymm c3 (Nat.le_of_not_lt λhlt=> ?_)
    have:=h1 ds.length (Nat.le_refl _) hlt
    rw[hall _ hlt]at this
    cases this
   rw[←hK]
   exact hs0 a w' ⟨h2.defers,h2.size,h2.fixed,h2.old,λn d hd _=>h2.come n d hd (hall n (by have:=(List.getElem?_eq_some_iff.1 hd).1;omega))⟩
  ·have hj:j=ops.size:=by
    refine Nat.le_antisymm h2 (Nat.le_of_not_lt λhlt=> ?_)
    have:=h4 j (Nat.le_refl _) hlt
    rw[hall _ hlt]at this
    cases this
   rw[←hj]
   exact h5
 ·have hmlt:m<ops.size:=(gA ho).1
  obtain⟨hcl,h⟩:=h
  have hgo:=λa' w'' x=>hgo a' w'' ⟨hcl.set ho hdep,x⟩
  by_cases hmK:m<ds.length
  ·rcases h with⟨h1,h2⟩|⟨j,h1,h2,h3,h4,h5⟩
   ·have hc:=c4 m hmK
    rw[ho]at hc
    simp only[Option.map_some,Option.getD_some,Bool.and_eq_true,beq_iff_eq]at hc
    obtain⟨e1,e3⟩:=hc
    have hdm:ds[m]?=some ds[m]:=List.getElem?_eq_getElem hmK
    refine Rn.doesG ho (λc e=>by rw[e]at e3;cases e3) (hop m o a w' hmK ho h2.old h2.size h2.fixed λn d hd hn=>h2.come n d hd (aZ hn ho hdep)) λv w'' hv=> ?_
    rw[e1,hdm]
    have hd6:=c6 ds[m] (List.getElem_mem hmK)
    refine hgo _ _ (.inl ⟨λn hn hlt=> ?_,h2.defers,by simpa[Act.put]using h2.size,λp hp=> ?_,ah h2.old h2.old.size hv.2,λn d hd hl=> ?_⟩)
    ·rw[sN (by omega)]
     exact h1 n hn hlt
    ·show(a.tmps.setIfInBounds ds[m] v)[p.1]?=_
     rw[sN (λe=>by
      have h6:ds[m]∉fx.map (·.1):=by simpa using hd6.2
      exact h6 (by rw[e];exact List.mem_map_of_mem hp))]
     exact h2.fixed p hp
    ·by_cases hnm:n=m
     ·subst hnm
      rw[hdm]at hd
      cases hd
      refine⟨v, ?_,hv.1⟩
      show(a.tmps.setIfInBounds ds[n] v)[ds[n]]?=_
      exact Array.getElem?_setIfInBounds_self_of_lt (Nat.lt_of_lt_of_le hd6.1 h2.size)
     ·rw[sN (Ne.symm hnm)]at hl
      obtain⟨u,hu1,hu2⟩:=h2.come n d hd hl
      refine⟨u, ?_,hmono n u w' w'' hu2 hv.2⟩
      show(a.tmps.setIfInBounds ds[m] v)[d]?=_
      rw[sN (λe=>by
       obtain⟨hn,rfl⟩:=List.getElem?_eq_some_iff.1 hd
       exact hnm ((List.getElem_inj c5).1 e).symm)]
      exact hu1
   ·have:=h3 m (by omega)
    rw[hm]at this
    cases this
  ·have hprev:=tail hcl (by omega) ho hdep
   have hset:∀n,n<m+1->(listed.setIfInBounds m true)[n]?=some true:=λn hn=>by
    by_cases e:m=n
    ·subst e
     exact Array.getElem?_setIfInBounds_self_of_lt (by omega)
    ·rw[sN e]
     exact hprev n (by omega)
   rcases h with⟨h1,h2⟩|⟨j,h1,h2,h3,h4,h5⟩
   ·have hmK2:m=ds.length:=by
     refine Nat.le_antisymm (Nat.le_of_not_lt λhlt=> ?_) (by omega)
     have:=h1 ds.length (Nat.le_refl _) (by omega)
     rw[hprev _ hlt]at this
     cases this
    have hS:Stage m a w':=by
     rw[hmK2]
     exact hs0 a w' ⟨h2.defers,h2.size,h2.fixed,h2.old,λn d hd _=>h2.come n d hd (hprev n (by have:=(List.getElem?_eq_some_iff.1 hd).1;omega))⟩
    refine hst m o a w' rest (by omega) ho hS λa' w'' hS'=>hgo a' w'' (.inr ⟨m+1,by omega,by omega,hset,λn hn hlt=> ?_,hS'⟩)
    rw[sN (by omega)]
    exact h1 n (by omega) hlt
   ·have hmj:m=j:=by
     refine Nat.le_antisymm (Nat.le_of_not_lt λhlt=> ?_) (Nat.le_of_not_lt λhlt=> ?_)
     ·have:=h4 j (Nat.le_refl _) (by omega)
      rw[hprev _ hlt]at this
      cases this
     ·have:=h3 m hlt
      rw[hm]at this
      cases this
    subst hmj
    refine hst m o a w' rest (by omega) ho h5 λa' w'' hS'=>hgo a' w'' (.inr ⟨m+1,by omega,by omega,hset,λn hn hlt=> ?_,hS'⟩)
    rw[sN (by omega)]
    exact h4 n (by omega) hlt
 ·rw[Array.getElem?_replicate]at hl
  split at hl
  ·cases hl
  ·cases hl
 ·rw[Array.getElem?_replicate]at hl
  split at hl
  ·cases hl
  ·cases hl
theorem jG{ev:Operand->Value}{o:Oper}{x y z:Operand}{w:World}{q:Bool}(hop:o.op= .pick x y z)(hx:ev x= .bool q):(execOp ev o).run P w= .ok (.value (if q then ev y else ev z)) w:=by
 cases q<;>simp[execOp,hop,hx,go_sem]
theorem fg{ev:Operand->Value}{o:Oper}{x:Operand}{w:World}{vs:Array Value}{i:Nat}{v:Value}(hop:o.op= .extract x i)(hx:ev x= .tuple vs)(hv:vs[i]?=some v):(execOp ev o).run P w= .ok (.value v) w:=by
 simp[execOp,hop,hx,Instr.extract,hv]
theorem cr{ev:Operand->Value}{o:Oper}{x y:Operand}{w:World}{ty t:TypeId}{g:Nat}{cells old:Array Value}(hop:o.op= .store ty x y)(hx:ev x= .pointer (some ⟨g,0,none⟩))(hy:ev y= .agg cells)(hg:w.heap[g]?=some (.cells old t))(hi:(P.info? ty).map (·.size)=some cells.size)(ho:old.size=cells.size)(h1:cells.all (·.oneCell')=true):
 (execOp ev o).run P w= .ok .skip (w.setRow g cells):=by
 have h:=run_storeVar_row (P:=P) w g t ty old cells hg hi ho h1
 simp[execOp,hop,hx,hy,Instr.storeAt,Instr.sureAddr,h]
theorem cx(w:World)(g:Nat)(cs:Array Value){N:Nat}(h:N<=g):Below N w (w.setRow g cs):=⟨rfl,rfl,rfl,by simp[World.setRow],λk hk=>setRow_other w g k cs (by omega)⟩
theorem kK{f:FuncId}{fn:Func}{args:Array Value}{R:Ending->World->Prop}{t u:Tmp}{ty:TypeId}{d:TypeDesc}{n:Nat}{w:World}(hf:P.funcs[f]?=some fn)(hres:fn.results=#[.cell t ty, .tmp u])(hu:P.underlying ty=some d)(hd:d.isRow=true)(hi:(P.info? ty).map (·.size)=some n)
 (h:∀cs,Rn P (λg w'=>∃(a:Act) (k:List Item) (bk:Nat) (cells:Array Value) (tt:TypeId) (v:Value),g=hU {(base f).atR a k with mode:= .returning} cs/\a.defers=[]/\a.tmps[t]?=some (.pointer (some ⟨bk,0,none⟩))/\w'.heap[bk]?=some (.cells cells tt)/\cells.size=n/\a.tmps[u]?=some v/\R (.returned (.tuple #[.agg cells,v])) w') (Frame.enter P f args .normal) cs w):Calls P f args w R:=λcs=>by
 obtain⟨g',w',h1,a,k,bk,cells,tt,v,rfl,h2,h3,h4,h5,h6,h7⟩:=h cs
 refine⟨.returned (.tuple #[.agg cells,v]),w',{(base f).atR a k with mode:= .returning},h7,StepsIn.steps h1,rfl,rfl,h2,rfl,fn,hf, ?_⟩
 have hp:a.tmps[t]?.getD undef= .pointer (some ⟨bk,0,none⟩):=by rw[h3];rfl
 have hv:a.tmps[u]?.getD undef=v:=by rw[h6];rfl
 have hr:w'.rangeAt bk 0 cells.toList:=λj x hx=>by
  rw[Nat.zero_add]
  have:w'.cell? ⟨bk,j,none⟩=cells[j]?:=by simp[World.cell?,h4]
  rw[this,←hx,Array.getElem?_toList]
 have hl:=run_loadVar_mid (P:=P) w' bk 0 ty cells.toList d hr hu hd (by rw[hi];simp[h5])
 show(results fn a.tmps).run P w'=_
 simp[results,hres,hp,hv,asAddr,hl]
end
def A7(P:Program)(ops:Array Oper)(a:Act)(o:Oper)(w:World)(R:Value->World->Prop):Prop:=ua P ops a o w R\/(Region.wanted o (yielded ops a.tmps)=true/\∃w',(execOp a.eval o).run P w= .ok .skip w'/\R undef w')
structure ED (df:List Deferred) (fx:List (Nat×Value)) (ds:List (Option Nat)) (G:Nat->Value->World->Prop) (N:Nat) (Rel:World->World->Prop) (w0:World) (a:Act) (w:World) (L:Nat->Prop):Prop where
 defers:a.defers=df
 size:N<=a.tmps.size
 fixed:∀p∈fx,a.tmps[p.1]?=some p.2
 old:Rel w0 w
 come:∀n x,ds[n]?=some x->L n->∃v,(∀d,x=some d->a.tmps[d]?=some v)/\G n v w
def zD(ops:Array Oper)(ds:List (Option Nat))(fx:List Nat)(N:Nat):Bool:=
 uM ops&&decide (ds.length=ops.size)&&((List.range ds.length).all λn=>((ops[n]?).map λo=>some o.dst==ds[n]?&&qY o.op).getD false)&&((List.range ds.length).all λn=>(List.range ds.length).all λm=>n==m||ds[n]?==some none||ds[n]? !=ds[m]?)&&(ds.all λx=>(x.map λd=>decide (d<N)&& !fx.contains d).getD true)
section
variable{P:Program}{Goal:Goroutine->World->Prop}{b:Frame}{k:List Item}{cs:List Frame}
theorem Rn.doesX{a:Act}{w:World}{ops:Array Oper}{n:Nat}{rest:List Nat}{o:Oper}{R:Value->World->Prop}(ho:ops[n]?=some o)(hnd:∀c,o.op≠ .defer c)(h:A7 P ops a o w R)(next:∀v w',R v w'->Rn P Goal (b.atR (a.put o.dst v) (.inRegion ops rest::k)) cs w'):Rn P Goal (b.atR a (.inRegion ops (n::rest)::k)) cs w:=by
 rcases h with h|⟨hw,w',h1,h2⟩
 ·exact Rn.doesG ho hnd h next
 ·exact Rn.did ho hw hnd h1 (next undef w' h2)
theorem Rn.growsX{id:Nat}{ops:Array Oper}{df:List Deferred}{fx:List (Nat×Value)}{ds:List (Option Nat)}{G:Nat->Value->World->Prop}{N:Nat}{Rel:World->World->Prop}{w:World}{a:Act}(hmix:P.follows .mixedOrders=true)(hchk:zD ops ds (fx.map (·.1)) N=true)(hdrew:Rel w {w with drawn:=w.drawn+1})(htrans:∀w w' w'',Rel w w'->Rel w' w''->Rel w w'')(hmono:∀n v w w',G n v w->Rel w w'->G n v w')
 (hop:∀n o a w',n<ds.length->ops[n]?=some o->Rel w w'->N<=a.tmps.size->(∀p∈fx,a.tmps[p.1]?=some p.2)->(∀m x,ds[m]?=some x->jN ops n m=true->∃v,(∀d,x=some d->a.tmps[d]?=some v)/\G m v w')->A7 P ops a o w' λv w''=>G n v w''/\Rel w' w'')
 (hend:∀a w',ED df fx ds G N Rel w a w' (λ_=>True)->Rn P Goal (b.atR a k) cs w') (hdf:a.defers=df) (hN:N<=a.tmps.size) (hfx:∀p∈fx,a.tmps[p.1]?=some p.2):Rn P Goal (b.atR a (.code (.region id ops true)::k)) cs w:=by
 simp only[zD,Bool.and_eq_true,decide_eq_true_eq,List.all_eq_true,List.mem_range,Bool.or_eq_true]at hchk
 obtain⟨⟨⟨⟨c1,c3⟩,c4⟩,c5⟩,c6⟩:=hchk
 refine Rn.draw λt=> ?_
 have hsch:Region.schedule (P.follows .mixedOrders) ops t=Region.linearise .any ops t:=by
  unfold Region.schedule
  rw[hmix]
  simp
 rw[hsch]
 refine Rn.orderly (ou c1) (λlisted a w'=>ED df fx ds G N Rel w a w' λn=>listed[n]?=some true)
  (λlisted a w' hall h=> ?_) (λlisted a w' m o rest hsz ho hm hdep h2 hgo=> ?_) t a _ ⟨hdf,hN,hfx,hdrew,λn x hd hl=> ?_⟩
 ·exact Rn.p rfl (hend a w' ⟨h.defers,h.size,h.fixed,h.old,λn x hd _=>h.come n x hd (hall n (by have:=(List.getElem?_eq_some_iff.1 hd).1;omega))⟩)
 ·have hmlt:m<ops.size:=(gA ho).1
  have hmK:m<ds.length:=by omega
  have hc:=c4 m hmK
  rw[ho]at hc
  simp only[Option.map_some,Option.getD_some,Bool.and_eq_true,beq_iff_eq]at hc
  obtain⟨e1,e3⟩:=hc
  refine Rn.doesX ho (λc e=>by rw[e]at e3;cases e3) (hop m o a w' hmK ho h2.old h2.size h2.fixed λn x hd hn=>h2.come n x hd (aZ hn ho hdep)) λv w'' hv=> ?_
  have hold:=htrans _ _ _ h2.old hv.2
  have hne:∀n x d,ds[n]?=some x->x=some d->n≠m->o.dst≠some d:=λn x d hx hxd hnm e=>by
   have hn:n<ds.length:=(List.getElem?_eq_some_iff.1 hx).1
   rcases c5 n hn m hmK with(h|h)|h
   ·exact hnm (by simpa using h)
   ·rw[hx,hxd]at h
    simp at h
   ·rw[hx,hxd,←e1,e]at h
    simp at h
  cases hdst:o.dst with
  |none=>
   refine hgo _ _ ⟨h2.defers,h2.size,h2.fixed,hold,λn x hd hl=> ?_⟩
   by_cases hnm:n=m
   ·subst hnm
    rw[←e1,hdst]at hd
    cases hd
    exact⟨v,λd hd=>(by cases hd),hv.1⟩
   ·rw[sN (Ne.symm hnm)]at hl
    obtain⟨u,hu1,hu2⟩:=h2.come n x hd hl
    exact⟨u,hu1,hmono n u w' w'' hu2 hv.2⟩
  |some dm=>
   have hd6:=c6 (some dm) (by rw[←hdst];exact mG e1.symm)
   simp only[Option.map_some,Option.getD_some,Bool.and_eq_true,decide_eq_true_eq]at hd6
   refine hgo _ _ ⟨h2.defers,by simpa[Act.put]using h2.size,λp hp=> ?_,hold,λn x hd hl=> ?_⟩
   ·show(a.tmps.setIfInBounds dm v)[p.1]?=_
    rw[sN (λe=>by
     have h6:dm∉fx.map (·.1):=by simpa using hd6.2
     exact h6 (by rw[e];exact List.mem_map_of_mem hp))]
    exact h2.fixed p hp
   ·by_cases hnm:n=m
    ·subst hnm
     rw[←e1,hdst]at hd
     cases hd
     refine⟨v,λd hd=> ?_,hv.1⟩
     cases hd
     show(a.tmps.setIfInBounds dm v)[dm]?=_
     exact Array.getElem?_setIfInBounds_self_of_lt (Nat.lt_of_lt_of_le hd6.1 h2.size)
    ·rw[sN (Ne.symm hnm)]at hl
     obtain⟨u,hu1,hu2⟩:=h2.come n x hd hl
     refine⟨u,λd hxd=> ?_,hmono n u w' w'' hu2 hv.2⟩
     show(a.tmps.setIfInBounds dm v)[d]?=_
     rw[sN (λe=>hne n x d hd hxd hnm (by rw[hdst,e]))]
     exact hu1 d hxd
 ·rw[Array.getElem?_replicate]at hl
  split at hl
  ·cases hl
  ·cases hl
theorem fZ{ops:Array Oper}{a:Act}{o:Oper}{w w':World}{v:Value}{R:Value->World->Prop}(hw:∀y,Region.wanted o y=true)(h:(execOp a.eval o).run P w= .ok (.value v) w')(hR:R v w'):A7 P ops a o w R:= .inl (.inl ⟨hw _,af h hR⟩)
end
structure cq where
 tree:ByteArray
 chains:ByteArray
 id:ByteArray
 root:ByteArray
 height:Int
 width:Int
 count:Nat
 shift:Int
 q:Int
 salt:ByteArray
 links:ByteArray
 path:ByteArray
def cq.cells(s:cq):Array Value:=#[.string s.tree, .string s.chains, .string s.id, .string s.root, .int .i64 s.height, .int .i64 s.width, .int .i64 s.count, .int .i64 s.shift, .int .i64 s.q, .string s.salt, .string s.links, .string s.path]
def Yl(P:Program)(ev:Operand->Value)(o:Oper)(w:World)(v:Value)(es:Array Event):Prop:=(execOp ev o).run P w= .ok (.value v) w/\(execOp ev o).events P w #[]=es
section
variable{w:World}{b:Nat}{s:cq}{ev:Operand->Value}{o:Oper}{x y z:Operand}
theorem am{cs:Array Value}{t:TypeId}(h:w.heap[b]?=some (.cells cs t))(k:Nat):w.cell? ⟨b,k,none⟩=cs[k]?:=by
 unfold World.cell?
 simp[h]
theorem bz(P:Program)(hop:o.op= .move x\/o.op= .assign x):Yl P ev o w (ev x) #[]:=by
 rcases hop with h|h<;>constructor<;>simp[execOp,h]
theorem j5(P:Program){f:Fn}{cap:Array Operand}(hop:o.op= .makeFunc f #[] cap):Yl P ev o w (.func f #[] (cap.map ev)) #[]:=by
 constructor<;>simp[execOp,hop,Instr.makeFunc]
def GK(P:Program)(t:TypeId):Prop:=∀w:World,(isAgg t).run P w= .ok false w/\(isAgg t).events P w #[]=#[]
theorem aQ:GK Tryd.prog 3:=λw=>⟨by kernel_rfl,by kernel_rfl⟩
theorem bC:GK Tryd.prog 9:=λw=>⟨by kernel_rfl,by kernel_rfl⟩
theorem nI:GK Tryd.prog 22:=λw=>⟨by kernel_rfl,by kernel_rfl⟩
theorem pn:GK Tryd.prog 70:=λw=>⟨by kernel_rfl,by kernel_rfl⟩
theorem ay{t:TypeId}{v:Value}{ad:Addr}(ht:GK Tryd.prog t)(hop:o.op= .load t x)(hx:ev x= .pointer (some ad))(h:w.cell? ad=some v):Yl Tryd.prog ev o w v #[⟨.cell ad,false,false⟩]:=by
 obtain⟨h1,h2⟩:=ht w
 constructor
 ·simp[execOp,hop,hx,Instr.loadAt,loadVar,h1,h,go_sem]
 ·simp[execOp,hop,hx,Instr.loadAt,loadVar,h1,h2,h,go_sem]
def kt(b:Nat):Array Event:=#[⟨.cell ⟨b,0,none⟩,false,false⟩,⟨.cell ⟨b,1,none⟩,false,false⟩,⟨.cell ⟨b,2,none⟩,false,false⟩,⟨.cell ⟨b,3,none⟩,false,false⟩,⟨.cell ⟨b,4,none⟩,false,false⟩,⟨.cell ⟨b,5,none⟩,false,false⟩,
 ⟨.cell ⟨b,6,none⟩,false,false⟩,⟨.cell ⟨b,7,none⟩,false,false⟩,⟨.cell ⟨b,8,none⟩,false,false⟩,⟨.cell ⟨b,9,none⟩,false,false⟩,⟨.cell ⟨b,10,none⟩,false,false⟩,⟨.cell ⟨b,11,none⟩,false,false⟩]
theorem xQ{b:Nat}{e:Event}(h:e∈kt b):∃k,e=⟨.cell ⟨b,k,none⟩,false,false⟩:=by
 simp only[kt,List.mem_toArray,List.mem_cons,List.not_mem_nil,or_false]at h
 rcases h with rfl|rfl|rfl|rfl|rfl|rfl|rfl|rfl|rfl|rfl|rfl|rfl<;>exact⟨_,rfl⟩
theorem jy{ex:Array Value}(hop:o.op= .load 82 x)(hx:ev x= .pointer (some ⟨b,0,none⟩))(h:w.heap[b]?=some (.cells (s.cells++ex) 82)):Yl Tryd.prog ev o w (.agg s.cells) (kt b):=by
 have h1:(isAgg 82).run Tryd.prog w= .ok true w:=by kernel_rfl
 have h2:(isAgg 82).events Tryd.prog w #[]=#[]:=by kernel_rfl
 have hc:∀k,k<12->w.cell? ⟨b,k,none⟩=s.cells[k]?:=λk hk=>(am h k).trans (Array.getElem?_append_left hk)
 have q0:w.cell? ⟨b,0,none⟩=some (.string s.tree):=hc 0 (by decide)
 have q1:w.cell? ⟨b,1,none⟩=some (.string s.chains):=hc 1 (by decide)
 have q2:w.cell? ⟨b,2,none⟩=some (.string s.id):=hc 2 (by decide)
 have q3:w.cell? ⟨b,3,none⟩=some (.string s.root):=hc 3 (by decide)
 have q4:w.cell? ⟨b,4,none⟩=some (.int .i64 s.height):=hc 4 (by decide)
 have q5:w.cell? ⟨b,5,none⟩=some (.int .i64 s.width):=hc 5 (by decide)
 have q6:w.cell? ⟨b,6,none⟩=some (.int .i64 s.count):=hc 6 (by decide)
 have q7:w.cell? ⟨b,7,none⟩=some (.int .i64 s.shift):=hc 7 (by decide)
 have q8:w.cell? ⟨b,8,none⟩=some (.int .i64 s.q):=hc 8 (by decide)
 have q9:w.cell? ⟨b,9,none⟩=some (.string s.salt):=hc 9 (by decide)
 have q10:w.cell? ⟨b,10,none⟩=some (.string s.links):=hc 10 (by decide)
 have q11:w.cell? ⟨b,11,none⟩=some (.string s.path):=hc 11 (by decide)
 constructor
 ·simp[execOp,hop,hx,Instr.loadAt,loadVar,h1,loadCells,loadCellsFrom,Addr.add,q0,q1,q2,q3,q4,q5,q6,q7,q8,q9,q10,q11,cq.cells,go_sem]
 ·simp[execOp,hop,hx,Instr.loadAt,loadVar,h1,h2,loadCells,loadCellsFrom,Addr.add,q0,q1,q2,q3,q4,q5,q6,q7,q8,q9,q10,q11,kt,go_sem]
theorem Lr(hop:o.op= .fieldAddr 82 x 0){k:Nat}(hx:ev x= .pointer (some ⟨b,k,none⟩)):Yl Tryd.prog ev o w (.pointer (some ⟨b,k,none⟩)) #[]:=by
 have e:execOp ev o=(do pure (.value (←Instr.fieldAt 82 (.pointer (some ⟨b,k,none⟩)) 0))):=by simp only[execOp,hop,hx]
 unfold Yl
 rw[e]
 constructor<;>kernel_rfl
theorem vd(hop:o.op= .fieldAddr 78 x 6)(hx:ev x= .pointer (some ⟨b,0,none⟩)):Yl Tryd.prog ev o w (.pointer (some ⟨b,6,none⟩)) #[]:=by
 have e:execOp ev o=(do pure (.value (←Instr.fieldAt 78 (.pointer (some ⟨b,0,none⟩)) 6))):=by simp only[execOp,hop,hx]
 unfold Yl
 rw[e]
 constructor<;>kernel_rfl
theorem C6(hop:o.op= .fieldAddr 82 x 3)(hx:ev x= .pointer (some ⟨b,0,none⟩)):Yl Tryd.prog ev o w (.pointer (some ⟨b,10,none⟩)) #[]:=by
 have e:execOp ev o=(do pure (.value (←Instr.fieldAt 82 (.pointer (some ⟨b,0,none⟩)) 3))):=by simp only[execOp,hop,hx]
 unfold Yl
 rw[e]
 constructor<;>kernel_rfl
theorem cQ{u:TypeId}{m n:Int}(hop:o.op= .binOp .lss 3 x y u)(hx:ev x= .int .i64 m)(hy:ev y= .int .i64 n):Yl Tryd.prog ev o w (.bool (decide (m<n))) #[]:=by
 constructor<;>simp[execOp,hop,hx,hy,go_sem]
theorem lc{u:TypeId}{m n:Int}(hop:o.op= .binOp .add 3 x y u)(hx:ev x= .int .i64 m)(hy:ev y= .int .i64 n)(h: -9223372036854775808<=m+n/\m+n<9223372036854775808):Yl Tryd.prog ev o w (.int .i64 (m+n)) #[]:=by
 have e:IntKind.i64.wrap (m+n)=m+n:=by rw[IntKind.wrap_i64];omega
 constructor<;>simp[execOp,hop,hx,hy,go_sem,e]
theorem dA{u:TypeId}{m n:Int}(hop:o.op= .binOp .mul 3 x y u)(hx:ev x= .int .i64 m)(hy:ev y= .int .i64 n)(h: -9223372036854775808<=m*n/\m*n<9223372036854775808):Yl Tryd.prog ev o w (.int .i64 (m*n)) #[]:=by
 have e:IntKind.i64.wrap (m*n)=m*n:=by rw[IntKind.wrap_i64];omega
 constructor<;>simp[execOp,hop,hx,hy,go_sem,e]
theorem lb{q:Bool}{t:TypeId}(hop:o.op= .unOp .not t x)(hx:ev x= .bool q):Yl Tryd.prog ev o w (.bool (!q)) #[]:=by
 constructor<;>simp[execOp,hop,hx,go_sem,Op.unary]
theorem cN{t:ByteArray}{m n:Nat}(hop:o.op= .slice 9 x (some y) (some z) none)(hx:ev x= .string t)(hy:ev y= .int .i64 m)(hz:ev z= .int .i64 n)(h:m<=n)(h':n<=t.size):Yl Tryd.prog ev o w (.string (t.extract m n)) #[]:=by
 have hu:Tryd.prog.underlying 9=some .string:=by kernel_rfl
 constructor
 ·simp[execOp,hop,hx,hy,hz,Instr.sliceAt,Instr.slice,Instr.sliceBounds,run_underlying hu,Instr.sliceBound,asIntOf,h,h']
 ·simp[execOp,hop,hx,hy,hz,Instr.sliceAt,Instr.slice,Instr.sliceBounds,run_underlying hu,Instr.sliceBound,asIntOf,h,h',go_sem]
theorem gp{t e:TypeId}{a:Addr}{len cap n:Nat}(ht:Tryd.prog.underlying t=some (.slice e))(he:∀w:World,(sizeOf e).run Tryd.prog w= .ok 1 w)(hop:o.op= .indexAddr t x y)(hx:ev x= .slice (some a) len cap)(hy:ev y= .int .i64 n)(hn:n<len):
 Yl Tryd.prog ev o w (.pointer (some (a.add n))) #[]:=by
 have h1:=he w
 constructor<;>simp[execOp,hop,hx,hy,go_sem,ht,h1,hn]
def Mk(P:Program)(ev:Operand->Value)(o:Oper)(w:World)(cs:Array Value)(t:TypeId):Prop:=(execOp ev o).run P w= .ok (.value (.pointer (some ⟨w.heap.size,0,none⟩))) (w.alloc (.cells cs t))/\(execOp ev o).events P w #[]=#[]
theorem lx(P:Program){t:TypeId}(hop:o.op= .box t x):Mk P ev o w (ev x).cells t:=by
 constructor<;>simp[execOp,hop,Instr.box,newVar,newRow,go_sem]
theorem gZ(hop:o.op= .alloc 3):Mk Tryd.prog ev o w #[.int .i64 0] 3:=by
 have e:execOp ev o=(do pure (.value (←Instr.alloc 3 true (.tuple #[])))):=by simp only[execOp,hop]
 unfold Mk
 rw[e]
 constructor<;>kernel_rfl
theorem jO(hop:o.op= .alloc 70):Mk Tryd.prog ev o w #[.slice none 0 0] 70:=by
 have e:execOp ev o=(do pure (.value (←Instr.alloc 70 true (.tuple #[])))):=by simp only[execOp,hop]
 unfold Mk
 rw[e]
 constructor<;>kernel_rfl
theorem eX{t:TypeId}{b k:Nat}{v v0:Value}(hv:v.cells=#[v])(hv1:v.oneCell'=true)(ht:(sizeOf t).run Tryd.prog w= .ok 1 w)(hop:o.op= .store t x y)(hx:ev x= .pointer (some ⟨b,k,none⟩))(hy:ev y=v)(h:w.cell? ⟨b,k,none⟩=some v0)(hf:w.frozen? ⟨b,k,none⟩=false):
 (execOp ev o).run Tryd.prog w= .ok .skip (w.setCell ⟨b,k,none⟩ v)/\(execOp ev o).events Tryd.prog w #[]=#[⟨.cell ⟨b,k,none⟩,true,false⟩]:=by
 have e:execOp ev o=(do Instr.storeAt t (.pointer (some ⟨b,k,none⟩)) v;pure .skip):=by simp only[execOp,hop,hx,hy]
 rw[e]
 simp only[Instr.storeAt,storeVar,hv]
 constructor
 ·simp[ht,storeCells,Addr.add,run_store _ _ _ _ _ hv1,h,hf,go_sem]
 ·simp[ht,storeCells,Addr.add,events_store (hv:=hv1),h,hf,go_sem]
end
end Go.Proofs.YtkmoglhgkcnalaaDoor
namespace Go.Proofs.YtkmoglhgkcnalaaDoor
open Go
def dU(d:Option Tmp)(p:Op):Oper:={dst:=d,op:=p,type:=0,pos:= "",after:=#[],guard:=none}
def gX(x:Nat):Op:= .call {callee:= .builtin .len,args:=#[.tmp x],argTypes:=#[9]}
def fh(x:Nat)(n:Int):Op:= .binOp .lss 3 (.tmp x) (.const (.int .i64 n)) 3
def skA:Array Oper:=#[dU (some 6) (.field 82 (.tmp 0) 4),dU (some 2) (.box 82 (.tmp 0)),dU (some 3) (.load 82 (.tmp 2)),dU (some 5) (.field 82 (.tmp 3) 0),
 dU (some 6) (.field 78 (.tmp 5) 0),dU (some 7) (gX 6),dU (some 6) (.field 78 (.tmp 5) 1),dU (some 7) (gX 6),dU (some 8) (.field 78 (.tmp 5) 2),dU (some 9) (gX 8),dU (some 6) (.field 78 (.tmp 5) 3),dU (some 7) (gX 6),
 dU (some 6) (.field 78 (.tmp 5) 4),dU (some 7) (fh 6 0),dU (some 11) (.field 78 (.tmp 5) 5),dU (some 16) (fh 11 0),dU (some 10) (.field 78 (.tmp 5) 6),dU (some 15) (fh 10 65537),dU (some 6) (.field 78 (.tmp 5) 7),dU (some 7) (fh 6 0),
 dU (some 12) (.field 82 (.tmp 3) 1),dU (some 18) (fh 12 0),dU (some 6) (.field 82 (.tmp 3) 2),dU (some 7) (gX 6),dU (some 13) (.field 82 (.tmp 3) 3),dU (some 7) (gX 13),dU (some 6) (.field 82 (.tmp 3) 4),dU (some 7) (gX 6),
 dU (some 14) (fh 10 1),dU (some 17) (fh 11 9),dU (some 19) (fh 12 4294967296),dU (some 20) (fh 9 65536)]
def Kz:Array Oper:=#[dU (some 21) (.binOp .mul 3 (.tmp 10) (.const (.int .i64 32)) 3),dU (some 22) (.slice 9 (.tmp 13) none (some (.tmp 21)) none),dU (some 23) (.makeSlice 70 (.tmp 10) (.tmp 10)),dU (some 24) (.move (.const (.int .i64 0)))]
def skC:Array Oper:=#[dU (some 25) (.binOp .lss 3 (.tmp 24) (.tmp 10) 3)]
def skD:Array Oper:=#[dU (some 26) (.indexAddr 22 (.tmp 1) (.tmp 24)),dU (some 27) (.load 3 (.tmp 26)),dU (some 28) (fh 27 0),dU (some 29) (fh 27 256)]
def skE:Array Oper:=#[dU (some 30) (.binOp .mul 3 (.tmp 24) (.const (.int .i64 32)) 3),dU (some 31) (.binOp .add 3 (.tmp 24) (.const (.int .i64 1)) 3),dU (some 32) (.binOp .mul 3 (.tmp 31) (.const (.int .i64 32)) 3),
 dU (some 33) (.slice 9 (.tmp 13) (some (.tmp 30)) (some (.tmp 32)) none),dU (some 34) (.call {callee:= .value (.func 84),args:=#[.tmp 3, .tmp 24, .tmp 27, .tmp 33],argTypes:=#[82,3,3,9]}),
 dU (some 35) (.indexAddr 70 (.tmp 23) (.tmp 24)),dU none (.store 9 (.tmp 35) (.tmp 34)),dU (some 24) (.move (.tmp 31))]
def Ky:Array Oper:=#[dU (some 4) (.move (.tmp 23))]
def mF:Code:= .seq (.seq (.region 2 skC false) (.cond (.tmp 25) .skip (.exit 0))) (.seq (.region 3 skD false) (.seq (.cond (.tmp 28) (.refuse "") .skip) (.seq (.cond (.tmp 29) .skip (.refuse "")) (.region 4 skE false))))
def ll:Code:= .seq (.region 0 skA false) (.seq (.cond (.tmp 14) (.refuse "") .skip) (.seq (.cond (.tmp 15) .skip (.refuse "")) (.seq (.cond (.tmp 16) (.refuse "") .skip) (.seq (.cond (.tmp 17) .skip (.refuse "")) (.seq (.cond (.tmp 18) (.refuse "") .skip) (.seq (.cond (.tmp 19) .skip (.refuse "")) (.seq (.cond (.tmp 20) .skip (.refuse ""))
 (.seq (.region 1 Kz false) (.seq (.block 0 (.loop mF)) (.seq (.region 5 Ky false) .ret))))))))))
def qC:Func:={name:= "left",origin:= "",params:=#[82,22],resultTypes:=#[70],nfree:=0,ntmps:=36,results:=#[.tmp 4],body:=some ll,norace:=false,file:= "",endLine:=0,tmpNames:=#[]}
def rp(i:FuncId):Bool:=i==87||i==88
def ac(q:Bool)(P:Program):Program:=eP P (if q then 68 else 26) (if q then qC else(P.funcs[26]?).getD qC) rp
section
variable{q:Bool}{P:Program}
theorem qh(f:Nat):(ac q P).funcs[f]?=(P.funcs[f]?).map (px (if q then 68 else 26) (if q then qC else(P.funcs[26]?).getD qC) rp f):=rh f
end
theorem EL:(Tryd.prog.types.all λi=>(i.zero.map aI).getD true)=true:=by kernel_rfl
theorem Db:(Tryd.prog.funcs.all λf=>f.name != "runtime.NumGoroutine")=true:=by kernel_rfl
theorem I3(i:FuncId)(fn:Func)(hi:rp i=true)(hf:Tryd.prog.funcs[i]?=some fn):fn.body=none/\Extern.findNext fn=none/\∃e,Extern.find fn=some e/\∀(ρ:Nat->Nat) (PL PM:Program),aH PL PM->∀args,ag ρ PL PM (aa ρ) (e args) (e (args.map (aa ρ))):=by
 have h2:i=87\/i=88:=by simpa[rp]using hi
 rcases h2 with rfl|rfl
 ·rw[Tryd.func87]at hf
  cases hf
  exact⟨rfl,by kernel_rfl,Extern.AbiNoEscape.same,by kernel_rfl,λρ PL PM _ args=>xg args⟩
 ·rw[Tryd.func88]at hf
  cases hf
  exact⟨rfl,by kernel_rfl,Extern.BytealgMakeNoZero.makeNoZero Tryd.f88.params Tryd.f88.resultTypes,by kernel_rfl,λρ PL PM hS args=>su hS _ _ args⟩
theorem zG{K:FuncId}{sk fn:Func}{c:Code}(hk:Tryd.prog.funcs[K]?=some fn)(hb:fn.body.isSome=true)(hr:sk.results=fn.results)(hc:sk.body=some c)(ho:eM false c=true)(hn:sk.name≠ "runtime.NumGoroutine")(hK:K≠aV):rJ Tryd.prog K sk rp 2 where
 zero:=λi hi z hz=>by
  have:=Array.all_eq_true'.1 EL i hi
  rw[hz]at this
  simpa using this
 glob:=by kernel_rfl
 tab:=by decide
 names:=λf hf=>by simpa using Array.all_eq_true'.1 Db f hf
 ty:=⟨.int .u32,by kernel_rfl,by simp,by simp⟩
 ex:=of_decide_eq_true (by kernel_rfl)
 exr:=λfn h=>by
  rw[show aV=46 from rfl,Tryd.func46]at h
  cases h
  kernel_rfl
 kex:=hK
 kfn:=⟨fn,hk,hb,hr⟩
 kbody:=⟨c,hc,ho⟩
 kname:=hn
 ext:=I3
theorem zH:rJ Tryd.prog 68 qC rp 2:=zG Tryd.func68 rfl rfl (c:=ll) rfl (by kernel_rfl) (by decide) (by decide)
theorem zI:∃c,rJ Tryd.prog 26 Tryd.f26 rp 2/\Tryd.f26.body=some c:=
 ⟨_,zG Tryd.func26 rfl rfl (c:=(Tryd.f26.body).getD .skip) rfl (by kernel_rfl) (by decide) (by decide),rfl⟩
theorem FW:ac true Tryd.prog=eP Tryd.prog 68 qC rp:=rfl
theorem FX:ac false Tryd.prog=eP Tryd.prog 26 Tryd.f26 rp:=by
 unfold ac
 simp only[Bool.false_eq_true,↓reduceIte,Tryd.func26,Option.getD_some]
theorem uG:j4 (ac true Tryd.prog) Tryd.prog 2:=by rw[FW];exact wA zH
theorem KH:j4 (ac false Tryd.prog) Tryd.prog 2:=by rw[FX];obtain⟨c,h,_⟩:=zI;exact wA h
theorem qI:j4 (ac true Tryd.prog) (ac true Tryd.prog) 2:=by rw[FW];exact wy zH
theorem JC:j4 (ac false Tryd.prog) (ac false Tryd.prog) 2:=by rw[FX];obtain⟨c,h,_⟩:=zI;exact wy h
theorem aB{q:Bool}{f:FuncId}{fn:Func}{c:Code}(hf:Tryd.prog.funcs[f]?=some fn)(h1:f≠68)(hx:rp f=false)(hb:fn.body=some c)(ho:eM (f==aV) c=true):(ac q Tryd.prog).funcs[f]?=some fn:=by
 rw[qh,hf]
 cases q with
 |true=>
  simp only[Option.map_some,px,↓reduceIte,if_neg h1,hx,Bool.false_eq_true,hb,ho]
 |false=>
  by_cases h2:f=26
  ·subst h2
   rw[Tryd.func26]at hf
   cases hf
   simp only[Option.map_some,px,Bool.false_eq_true,↓reduceIte,Tryd.func26,Option.getD_some]
  ·simp only[Option.map_some,px,Bool.false_eq_true,↓reduceIte,if_neg h2,hx,hb,ho]
theorem py:(ac true Tryd.prog).funcs[68]?=some qC:=by
 rw[qh,Tryd.func68]
 simp[px]
section
variable{q:Bool}{P:Program}{w:World}
@[simp] theorem Dp(t:TypeId):(ac q P).info? t=P.info? t:=dR P _ t
@[simp] theorem bj(t:TypeId):(ac q P).underlying t=P.underlying t:=ce P _ t
@[simp] theorem nP(t:TypeId):(typeInfo t).run (ac q P) w=(typeInfo t).run P w:=by
 simp only[typeInfo,Sem.run_bind,run_program,Result.andThen_ok,Dp]
 cases P.info? t<;>simp
@[simp] theorem HU(t:TypeId):(sizeOf t).run (ac q P) w=(sizeOf t).run P w:=by
 simp only[sizeOf,Sem.run_bind,nP]
 cases (typeInfo t).run P w<;>simp
@[simp] theorem uy(t:TypeId):(underlying t).run (ac q P) w=(underlying t).run P w:=by
 simp only[underlying,Sem.run_bind,run_program,Result.andThen_ok,bj]
 cases P.underlying t<;>simp
@[simp] theorem Jj(t:TypeId):(isAgg t).run (ac q P) w=(isAgg t).run P w:=by
 simp only[isAgg,Sem.run_bind,uy]
 cases (underlying t).run P w with
 |ok d w1=>cases d<;>simp
 |halt x w1=>simp
@[simp] theorem JO(t:TypeId):(zeroValue t).run (ac q P) w=(zeroValue t).run P w:=by
 simp only[zeroValue,Sem.run_bind,nP]
 cases (typeInfo t).run P w with
 |ok i w1=>simp only[Result.andThen_ok];cases i.zero<;>simp
 |halt x w1=>simp
end
theorem cG{P:Program}{f:FuncId}{fn:Func}(hf:P.funcs[f]?=some fn)(hn:(fn.name== "runtime.NumGoroutine")=false)(hb:fn.body.isNone=false)(args:Array Value)(w:World):(callFunc f args).run P w= .ok (.enter f args) w:=by
 have h1:¬fn.name= "runtime.NumGoroutine" :=by simpa using hn
 have h2:¬fn.body=none:=λe=>by rw[e]at hb;simp at hb
 simp[callFunc,hf,h1,h2]
section
variable{q:Bool}
@[simp] theorem Lf.func30:(ac q Tryd.prog).funcs[30]?=some Tryd.f30:=aB Tryd.func30 (by decide) rfl rfl (by kernel_rfl)
@[simp] theorem Lf.call30(args:Array Value)(w:World):(callFunc 30 args).run (ac q Tryd.prog) w= .ok (.enter 30 args) w:=cG Lf.func30 (by kernel_rfl) rfl args w
@[simp] theorem Lf.func31:(ac q Tryd.prog).funcs[31]?=some Tryd.f31:=aB Tryd.func31 (by decide) rfl rfl (by kernel_rfl)
@[simp] theorem Lf.call31(args:Array Value)(w:World):(callFunc 31 args).run (ac q Tryd.prog) w= .ok (.enter 31 args) w:=cG Lf.func31 (by kernel_rfl) rfl args w
@[simp] theorem Lf.func29:(ac q Tryd.prog).funcs[29]?=some Tryd.f29:=aB Tryd.func29 (by decide) rfl rfl (by kernel_rfl)
@[simp] theorem Lf.call29(args:Array Value)(w:World):(callFunc 29 args).run (ac q Tryd.prog) w= .ok (.enter 29 args) w:=cG Lf.func29 (by kernel_rfl) rfl args w
@[simp] theorem Lf.func26:(ac q Tryd.prog).funcs[26]?=some Tryd.f26:=aB Tryd.func26 (by decide) rfl rfl (by kernel_rfl)
@[simp] theorem Lf.func46:(ac q Tryd.prog).funcs[46]?=some Tryd.f46:=aB Tryd.func46 (by decide) rfl rfl (by kernel_rfl)
@[simp] theorem Lf.call46(args:Array Value)(w:World):(callFunc 46 args).run (ac q Tryd.prog) w= .ok (.enter 46 args) w:=cG Lf.func46 (by kernel_rfl) rfl args w
@[simp] theorem Lf.func54:(ac q Tryd.prog).funcs[54]?=some Tryd.f54:=aB Tryd.func54 (by decide) rfl rfl (by kernel_rfl)
@[simp] theorem Lf.call54(args:Array Value)(w:World):(callFunc 54 args).run (ac q Tryd.prog) w= .ok (.enter 54 args) w:=cG Lf.func54 (by kernel_rfl) rfl args w
@[simp] theorem Lf.func70:(ac q Tryd.prog).funcs[70]?=some Tryd.f70:=aB Tryd.func70 (by decide) rfl rfl (by kernel_rfl)
@[simp] theorem Lf.call70(args:Array Value)(w:World):(callFunc 70 args).run (ac q Tryd.prog) w= .ok (.enter 70 args) w:=cG Lf.func70 (by kernel_rfl) rfl args w
@[simp] theorem Lf.func55:(ac q Tryd.prog).funcs[55]?=some Tryd.f55:=aB Tryd.func55 (by decide) rfl rfl (by kernel_rfl)
@[simp] theorem Lf.call55(args:Array Value)(w:World):(callFunc 55 args).run (ac q Tryd.prog) w= .ok (.enter 55 args) w:=cG Lf.func55 (by kernel_rfl) rfl args w
@[simp] theorem Lf.func63:(ac q Tryd.prog).funcs[63]?=some Tryd.f63:=aB Tryd.func63 (by decide) rfl rfl (by kernel_rfl)
@[simp] theorem Lf.call63(args:Array Value)(w:World):(callFunc 63 args).run (ac q Tryd.prog) w= .ok (.enter 63 args) w:=cG Lf.func63 (by kernel_rfl) rfl args w
@[simp] theorem Lf.func47:(ac q Tryd.prog).funcs[47]?=some Tryd.f47:=aB Tryd.func47 (by decide) rfl rfl (by kernel_rfl)
@[simp] theorem Lf.call47(args:Array Value)(w:World):(callFunc 47 args).run (ac q Tryd.prog) w= .ok (.enter 47 args) w:=cG Lf.func47 (by kernel_rfl) rfl args w
@[simp] theorem Lf.func56:(ac q Tryd.prog).funcs[56]?=some Tryd.f56:=aB Tryd.func56 (by decide) rfl rfl (by kernel_rfl)
@[simp] theorem Lf.call56(args:Array Value)(w:World):(callFunc 56 args).run (ac q Tryd.prog) w= .ok (.enter 56 args) w:=cG Lf.func56 (by kernel_rfl) rfl args w
@[simp] theorem Lf.func71:(ac q Tryd.prog).funcs[71]?=some Tryd.f71:=aB Tryd.func71 (by decide) rfl rfl (by kernel_rfl)
@[simp] theorem Lf.call71(args:Array Value)(w:World):(callFunc 71 args).run (ac q Tryd.prog) w= .ok (.enter 71 args) w:=cG Lf.func71 (by kernel_rfl) rfl args w
@[simp] theorem Lf.func64:(ac q Tryd.prog).funcs[64]?=some Tryd.f64:=aB Tryd.func64 (by decide) rfl rfl (by kernel_rfl)
@[simp] theorem Lf.func66:(ac q Tryd.prog).funcs[66]?=some Tryd.f66:=aB Tryd.func66 (by decide) rfl rfl (by kernel_rfl)
@[simp] theorem Lf.func106:(ac q Tryd.prog).funcs[106]?=some Tryd.f106:=aB Tryd.func106 (by decide) rfl rfl (by kernel_rfl)
@[simp] theorem Lf.func105:(ac q Tryd.prog).funcs[105]?=some Tryd.f105:=aB Tryd.func105 (by decide) rfl rfl (by kernel_rfl)
@[simp] theorem Lf.func116:(ac q Tryd.prog).funcs[116]?=some Tryd.f116:=aB Tryd.func116 (by decide) rfl rfl (by kernel_rfl)
@[simp] theorem Lf.func78:(ac q Tryd.prog).funcs[78]?=some Tryd.f78:=aB Tryd.func78 (by decide) rfl rfl (by kernel_rfl)
@[simp] theorem Lf.func84:(ac q Tryd.prog).funcs[84]?=some Tryd.f84:=aB Tryd.func84 (by decide) rfl rfl (by kernel_rfl)
theorem Lf.underlying85:type_of%((bj (q:=q) (P:=Tryd.prog) 85).trans Tryd.underlying85):=(bj 85).trans Tryd.underlying85
theorem Lf.underlying54:type_of%((bj (q:=q) (P:=Tryd.prog) 54).trans Tryd.underlying54):=(bj 54).trans Tryd.underlying54
theorem Lf.underlying53:type_of%((bj (q:=q) (P:=Tryd.prog) 53).trans Tryd.underlying53):=(bj 53).trans Tryd.underlying53
theorem Lf.underlying51:type_of%((bj (q:=q) (P:=Tryd.prog) 51).trans Tryd.underlying51):=(bj 51).trans Tryd.underlying51
theorem Lf.underlying57:type_of%((bj (q:=q) (P:=Tryd.prog) 57).trans Tryd.underlying57):=(bj 57).trans Tryd.underlying57
theorem Lf.underlying9:type_of%((bj (q:=q) (P:=Tryd.prog) 9).trans Tryd.underlying9):=(bj 9).trans Tryd.underlying9
theorem Lf.underlying5:type_of%((bj (q:=q) (P:=Tryd.prog) 5).trans Tryd.underlying5):=(bj 5).trans Tryd.underlying5
theorem Lf.underlying22:type_of%((bj (q:=q) (P:=Tryd.prog) 22).trans Tryd.underlying22):=(bj 22).trans Tryd.underlying22
end
end Go.Proofs.YtkmoglhgkcnalaaDoor
namespace Go.Proofs.YtkmoglhgkcnalaaDoor
open Go.RowKit
theorem Am(s:ByteArray)(k:Nat)(h:k<s.size):s.data.toList.take (k+1)=s.data.toList.take k++[s[k]]:=by
 rw[List.take_succ_eq_append_getElem (by simpa using h)];rfl
theorem vz(B:List UInt8):aj (bP B 0)=List.replicate 64 (.int .u32 0):=by
 simp[bP,aU,aj]
theorem Es(w:World)(B:List UInt8)(c:Array Value)(hc:c.size=64):((w.alloc (.cells (av B).toArray 54)).alloc (.cells c 85)).heap.size=w.heap.size+1+1/\
 ((w.alloc (.cells (av B).toArray 54)).alloc (.cells c 85)).rangeAt w.heap.size 0 (av B)/\
 ((w.alloc (.cells (av B).toArray 54)).alloc (.cells c 85)).there (w.heap.size+1) 0 64/\
 Below w.heap.size w ((w.alloc (.cells (av B).toArray 54)).alloc (.cells c 85)):=by
 refine⟨by simp,World.rangeAt_alloc (λj v hv=> ?_) _,λj hj=>⟨?_, ?_⟩,((Below.refl _ _).alloc (Nat.le_refl _) _).alloc (by simp) _⟩
 ·rw[World.cell?_alloc_at _ _ _ _ rfl];simpa using hv
 ·rw[World.cell?_alloc_at _ _ _ _ (by simp)];simp[hc,hj]
 ·rw[World.frozen?_alloc_at _ _ _ _ (by simp)]
theorem oL{M W0:World}{L:List Value}{n b j:Nat}{v:Value}(hM:M=(W0.alloc (.cells L.toArray 85)).drewN n)(hb:W0.heap.size=b)(h:L[j]?=some v):M.cell? ⟨b,j,none⟩=some v:=by
 subst hM;simp only[World.cell?_drewN];rw[World.cell?_alloc_at _ _ _ _ hb.symm];simpa using h
theorem Ew{M W0:World}{L:List Value}{n b:Nat}(hM:M=(W0.alloc (.cells L.toArray 85)).drewN n)(hb:W0.heap.size=b)(j:Nat):M.frozen? ⟨b,j,none⟩=false:=by
 subst hM;simp only[World.frozen?_drewN];rw[World.frozen?_alloc_at _ _ _ _ hb.symm]
theorem K3{M W0:World}{L:List Value}{n b:Nat}(hM:M=(W0.alloc (.cells L.toArray 85)).drewN n)(hb:W0.heap.size=b)(a j:Nat)(v:Value):(M.drewN a).setCell ⟨b,j,none⟩ v=(W0.alloc (.cells (L.set j v).toArray 85)).drewN (n+a):=by
 subst hM
 rw[World.drewN_drewN]
 show((W0.alloc (.cells L.toArray 85)).setCell ⟨b,j,none⟩ v).drewN (n+a)=_
 rw[World.setCell_alloc_at _ _ _ _ _ hb.symm]
 simp
theorem lg{P:Program}{ops:Array Oper}{Q:Exit->Act->World->Prop}{i:Nat}{o:Oper}{K:Act->World->Prop}{a:Act}{w:World}(hi:ops[i]?=some o)(hg:o.guard=none)(ty:TypeId)(x y:Operand)(ho:o.op= .store ty x y)
 (b p:Nat) (cells:Array Value) (hx:a.eval x= .pointer (some ⟨b,p,none⟩)) (hy:a.eval y= .agg cells) (ht:w.there b p cells.size) (hs:(P.info? ty).map (·.size)=some cells.size) (h1:cells.all (·.oneCell')=true) (hd:o.dst=none)
 (h:K a (w.setCells b p cells.toList)):wpOp P ops Q i K a w:=
 qk hi hg (wp_store_mid ty x y ho b p cells hx hy ht hs h1 (by rw[hd];exact h))
def mB:Value->Nat
 | .string t=>t.size
 |_=>0
theorem o8(rest:List UInt8)(n:Nat):(ByteArray.mk rest.toArray).extract n rest.length=⟨(rest.drop n).toArray⟩:=by
 apply ByteArray.ext
 simp
 exact List.take_of_length_le (by simp)
def iL(H:List Int)(blk:List UInt8)(n:Nat):List Value:=aj H++(av blk++[.int .u64 (n:Int)])
def jM:List Value:=iL H0 (List.replicate 64 0) 0
theorem eo:jM.length=73:=by simp[jM,iL,aD,bf,H0]
theorem wG(H:List Int)(blk:List UInt8)(n:Nat):∀v∈iL H blk n,v.oneCell'=true:=by
 intro v hv
 simp only[iL,List.mem_append,List.mem_singleton]at hv
 rcases hv with hv|hv|rfl
 ·exact g8 _ v hv
 ·exact rB _ v hv
 ·rfl
end Go.Proofs.YtkmoglhgkcnalaaDoor
namespace Go.Proofs
open Go.Shelf
def Tryd.lays105_ren : Go.Shelf.Ren := ⟨λ| 105 => 48 | 212 => 57 | 99 => 58 | 165 => 59 | 166 => 60 | 170 => 61 | 169 => 62 | 263 => 72 | 264 => 73 | 206 => 74 | 240 => 75 | 241 => 76 | 276 => 87 | 277 => 88 | n => n, λ| 9 => 9 | 3 => 3 | 4 => 4 | 20 => 20 | 0 => 0 | 46 => 72 | 109 => 89 | 5 => 5 | 72 => 94 | 76 => 98 | 51 => 52 | 146 => 109 | 53 => 55 | 148 => 111 | 70 => 92 | 37 => 51 | 75 => 97 | 127 => 113 | 164 => 128 | 80 => 31 | n => n, λ| n => n⟩
end Go.Proofs
namespace Go.Proofs.YtkmoglhgkcnalaaDoor
open Go.RowKit
def fK(L:List UInt8):List UInt8:=[128]++Lib.repeatL [0] ((119- L.length%64)%64)++cg (8*L.length) 8
def mK(H:List Int)(i:Nat):UInt8:=UInt8.ofNat (H.getD (i/4) 0/2^(24- 8*(i%4))).toNat
def fk(KS:List Int)(L:List UInt8):List UInt8:=(List.range 32).map (mK (bu KS (L++fK L) ((L++fK L).length/64)))
def pS(H:List Int)(k:Nat):List Value:=av ((List.range k).map (mK H))++List.replicate (32- k) (.int .u8 0)
theorem pm(H:List Int)(k:Nat)(h:k<=32):(pS H k).length=32:=by simp[pS,av];omega
theorem vN(H:List Int)(k:Nat)(h:k<32):(pS H k)[k]?=some (.int .u8 0):=by
 rw[pS,List.getElem?_append_right (by simp[av]),List.getElem?_replicate,if_pos (by simp[av];omega)]
theorem vM(H:List Int)(k:Nat)(h:k<32)(v:Int)(hv:v=((mK H k).toNat:Int)):(pS H k).set k (.int .u8 v)=pS H (k+1):=by
 subst hv
 rw[pS,pS,show 32- k=(32-(k+1))+1 from by omega,List.replicate_succ,List.range_succ,List.map_append,av,av,List.map_append,List.set_append_right _ _ (by simp)]
 simp
theorem vO(H:List Int):pS H 32=av ((List.range 32).map (mK H)):=by simp[pS]
theorem mj(KS:List Int)(L:List UInt8)(n i:Nat):0<=(bu KS L n).getD i 0:=by
 cases n with
 |zero=>
  by_cases h:i<8
  ·have:i=0\/i=1\/i=2\/i=3\/i=4\/i=5\/i=6\/i=7:=by omega
   rcases this with rfl|rfl|rfl|rfl|rfl|rfl|rfl|rfl<;>(rw[bu];decide)
  ·rw[List.getD_eq_getElem?_getD,List.getElem?_eq_none (by rw[cc];omega)];exact Int.le_refl _
 |succ n=>
  rw[bu,kA,dr]
  by_cases h:i<8
  ·rw[List.getD_eq_getElem?_getD,List.getElem?_map,List.getElem?_range h]
   simp only[Option.map_some,Option.getD_some,h,if_true]
   exact wrap_u32_nonneg _
  ·rw[List.getD_eq_getElem?_getD,List.getElem?_eq_none (by simp;omega)];exact Int.le_refl _
theorem vL(H:List Int)(k:Nat)(x:Int)(hx:H.getD (k/4) 0=x)(h0:0<=x):x/2^(24- 8*(k%4))%256=((mK H k).toNat:Int):=by
 rw[mK,hx]
 obtain⟨m,rfl⟩:=Int.eq_ofNat_of_zero_le h0
 have e:((m:Int)/2^(24- 8*(k%4)))=((m/2^(24- 8*(k%4)):Nat):Int):=by
  rw[Int.natCast_ediv,Int.natCast_pow];rfl
 rw[e,Int.toNat_natCast]
 simp
theorem dH.made(w:World)(KS:List Int)(L blk:List UInt8)(n:Nat)(T:TypeId)(hb:blk.length=64)(ht:blk.take (L.length%64)=L.drop (64*(L.length/64))):
 dH (w.alloc (.cells (iL (bu KS L (L.length/64)) blk n).toArray T)) w.heap.size KS L blk n:=by
 have hr:=dT w (iL (bu KS L (L.length/64)) blk n) T w.heap.size rfl
 have hf:=cc KS L (L.length/64)
 refine⟨hb,λj v hv=>hr j v ?_,λj v hv=> ?_, ?_,ht,cD _ _ _ _ _ rfl (by simp[iL,aD,bf,hf,hb])⟩
 ·rw[iL,List.getElem?_append_left (List.getElem?_eq_some_iff.1 hv).1];exact hv
 ·have hj:=(List.getElem?_eq_some_iff.1 hv).1
  have:=hr (8+j) v (by
   rw[iL,List.getElem?_append_right (by rw[aD,hf];omega),aD,hf,show 8+j- 8=j from by omega,List.getElem?_append_left hj]
   exact hv)
  rwa [Nat.zero_add]at this
 ·have:=hr 72 (.int .u64 (n:Int)) (by
   rw[iL,List.getElem?_append_right (by rw[aD,hf];omega),aD,hf,List.getElem?_append_right (by rw[bf,hb];omega),bf,hb]
   rfl)
  rwa [Nat.zero_add]at this
theorem dH.below{N:Nat}{w w':World}{b:Nat}{KS:List Int}{L blk:List UInt8}{n:Nat}(h:dH w b KS L blk n)(hb:Below N w w')(hN:b<N):dH w' b KS L blk n:=
 ⟨h.len,aK hb hN h.words,aK hb hN h.block,by rw[hb.cell (p:=⟨b,72,none⟩) hN];exact h.length,h.tail,ef hb hN h.there⟩
theorem lF{w w2 w3:World}{b:Nat}(h:Below w.heap.size w w2)(g:w2.grownBy w3 (some b))(hb:w.heap.size<=b):Below w.heap.size w w3:=
 h.trans ⟨g.os,g.tape,g.output,g.size,λk hk=>g.block k (by have:=h.size;omega) (by intro e;injection e;omega)⟩
theorem dH.whole{w:World}{b:Nat}{KS:List Int}{L blk:List UInt8}{n:Nat}(h:dH w b KS L blk n):w.rangeAt b 0 (iL (bu KS L (L.length/64)) blk n):=λj v hv=>by
 have hf:=cc KS L (L.length/64)
 rw[iL]at hv
 by_cases h1:j<8
 ·rw[List.getElem?_append_left (by rw[aD,hf];exact h1)]at hv
  exact h.words j v hv
 ·rw[List.getElem?_append_right (by rw[aD,hf];omega),aD,hf]at hv
  by_cases h2:j<72
  ·rw[List.getElem?_append_left (by rw[bf,h.len];omega)]at hv
   have:=h.block (j- 8) v hv
   rwa [show 8+(j- 8)=0+j from by omega]at this
  ·rw[List.getElem?_append_right (by rw[bf,h.len];omega),bf,h.len]at hv
   have hj:j- 8- 64<1:=by have:=(List.getElem?_eq_some_iff.1 hv).1;simpa using this
   have hj2:j=72:=by omega
   subst hj2
   simp at hv
   rw[←hv]
   exact h.length
theorem wH(KS:List Int)(L blk:List UInt8)(n m:Nat)(hb:blk.length=64):(iL (bu KS L m) blk n).length=73:=by
 simp[iL,aD,bf,cc,hb]
theorem dH.of_range{w:World}{b:Nat}{KS:List Int}{L blk:List UInt8}{n:Nat}(hr:w.rangeAt b 0 (iL (bu KS L (L.length/64)) blk n))(hth:w.there b 0 73)(hb:blk.length=64)(ht:blk.take (L.length%64)=L.drop (64*(L.length/64))):dH w b KS L blk n:=by
 have hf:=cc KS L (L.length/64)
 refine⟨hb,λj v hv=>hr j v ?_,λj v hv=> ?_, ?_,ht,hth⟩
 ·rw[iL,List.getElem?_append_left (List.getElem?_eq_some_iff.1 hv).1];exact hv
 ·have hj:=(List.getElem?_eq_some_iff.1 hv).1
  have:=hr (8+j) v (by
   rw[iL,List.getElem?_append_right (by rw[aD,hf];omega),aD,hf,show 8+j- 8=j from by omega,List.getElem?_append_left hj]
   exact hv)
  rwa [Nat.zero_add]at this
 ·have:=hr 72 (.int .u64 (n:Int)) (by
   rw[iL,List.getElem?_append_right (by rw[aD,hf];omega),aD,hf,List.getElem?_append_right (by rw[bf,hb];omega),bf,hb]
   rfl)
  rwa [Nat.zero_add]at this
theorem dH.new(w:World)(KS:List Int)(c:Array Value)(T:TypeId)(hc:c.size=73):dH ((w.alloc (.cells c T)).setCells w.heap.size 0 jM) w.heap.size KS [] (List.replicate 64 0) 0:=by
 have hth:=cD w c T w.heap.size 73 rfl hc
 exact dH.of_range (World.rangeAt_setCells_same _ _ _ _ (by rw[eo];exact hth)) (World.there_setCells hth _ _ _) (by simp) (by simp)
def de(ps:List ByteArray)(k:Nat):List UInt8:=(ps.take k).flatMap λp=>p.data.toList
theorem BP(ps:List ByteArray)(k:Nat)(h:k<ps.length):de ps (k+1)=de ps k++(ps[k]).data.toList:=by
 rw[de,de,List.take_succ_eq_append_getElem h,List.flatMap_append,List.flatMap_singleton]
theorem Gw(ps:List ByteArray)(k:Nat):(de ps k).length<=(de ps ps.length).length:=by
 by_cases h:k<=ps.length
 ·rw[de,de,List.take_length]
  have e:ps.flatMap (λp=>p.data.toList)=(ps.take k).flatMap (λp=>p.data.toList)++(ps.drop k).flatMap (λp=>p.data.toList):=by rw[←List.flatMap_append,List.take_append_drop]
  rw[e,List.length_append];omega
 ·rw[de,de,List.take_of_length_le (by omega),List.take_length];exact Nat.le_refl _
def cq.key(s:cq):Array Value:=#[.string s.tree, .string s.chains, .string s.id, .string s.root, .int .i64 s.height, .int .i64 s.width, .int .i64 s.count, .int .i64 s.shift]
def ck(n:Nat):Nat:=2^n- 1
end Go.Proofs.YtkmoglhgkcnalaaDoor
namespace Go.Proofs.YtkmoglhgkcnalaaDoor
open Go Go.Conc Go.RowKit
def j6(KS:List Int)(pre:List UInt8)(j:Nat)(x:List UInt8):List UInt8:=fk KS (pre++cg j 1++x)
def gR(KS:List Int)(pre:List UInt8):Nat->Nat->List UInt8->List UInt8
 |0,_,x=>x
 |n+1,j,x=>gR KS pre n (j+1) (j6 KS pre j x)
def iE(s:cq)(i:Nat):List UInt8:=s.id.data.toList++cg s.q.toNat 4++cg i 2
def iZ(KS:List Int)(s:cq)(i:Nat)(d:Int)(link:ByteArray):ByteArray:=⟨(gR KS (iE s i) (ck s.width.toNat- d.toNat) d.toNat link.data.toList).toArray⟩
theorem nl(KS:List Int)(pre:List UInt8)(j:Nat)(x:List UInt8):(j6 KS pre j x).length=32:=by simp[j6,fk]
structure zg (s:cq) (i:Nat) (d:Int) (link:ByteArray):Prop where
 width:0<=s.width/\s.width<9
 q:0<=s.q/\s.q<4294967296
 id:s.id.size<65536
 i:i<65536
 d:0<=d/\d<256
 link:link.size=32
def wV(s:cq)(i:Nat):ByteArray:=s.id++⟨(cg s.q.toNat 4).toArray⟩++⟨(cg i 2).toArray⟩
theorem jL(n k:Nat):(ByteArray.mk (cg n k).toArray).size=k:=by show(cg n k).toArray.size=k;simp[bT]
theorem E6(s:cq)(i:Nat):(wV s i).data.toList=iE s i:=by simp[wV,iE]
def FZ(b4 b7 i:Nat)(d:Int):List (Nat×Value):=[(1, .int .i64 i),(2, .int .i64 d),(4, .pt b4),(7, .pt b7)]
def Aj(s:cq)(b4 i:Nat):List (Nat×Nat×Value):=[(0,11, .pointer (some ⟨b4,0,none⟩)),(1,12, .pointer (some ⟨b4,2,none⟩)),(2,13, .string s.id),(3,14, .pointer (some ⟨b4,8,none⟩)),(4,15, .int .i64 s.q.toNat),(5,16, .string ⟨(cg s.q.toNat 4).toArray⟩),
 (6,17, .string (s.id++⟨(cg s.q.toNat 4).toArray⟩)),(7,18, .int .i64 i),(8,19, .string ⟨(cg i 2).toArray⟩),(9,20, .string (wV s i))]
theorem Jr(s:cq)(b4 i:Nat):∀p∈Aj s b4 i,∀q∈Aj s b4 i,p.2.1=q.2.1\/p.1=q.1->p=q:=by
 intro p hp q hq h
 simp only[Aj,List.mem_cons,List.not_mem_nil,or_false]at hp hq
 rcases hp with rfl|rfl|rfl|rfl|rfl|rfl|rfl|rfl|rfl|rfl<;>rcases hq with rfl|rfl|rfl|rfl|rfl|rfl|rfl|rfl|rfl|rfl<;>first|rfl|(exfalso;simp at h)
theorem E7(s:cq)(b4 b7 i:Nat)(d:Int):∀p∈Aj s b4 i,p.2.1<33/\∀q∈FZ b4 b7 i d,q.1≠p.2.1:=by
 intro p hp
 simp only[Aj,List.mem_cons,List.not_mem_nil,or_false]at hp
 rcases hp with rfl|rfl|rfl|rfl|rfl|rfl|rfl|rfl|rfl|rfl<;>refine⟨by simp,λq hq=> ?_⟩<;>simp only[FZ,List.mem_cons,List.not_mem_nil,or_false]at hq<;>rcases hq with rfl|rfl|rfl|rfl<;>simp
def Al(w0:World)(t:ByteArray)(ty:TypeId)(listed:Array Bool)(a:Act)(w:World):Prop:=
 listed[10]?=some true->∃p,a.tmps[9]?=some (.pointer (some ⟨p,0,none⟩))/\w0.heap.size<=p/\∃x,w.heap[p]?=some (.cells #[.string x] ty)/\(listed[11]?=some true->x=t)
theorem Al.step{w0 w w':World}{t:ByteArray}{ty:TypeId}{listed:Array Bool}{a:Act}{n d:Nat}{v:Value}(h:Al w0 t ty listed a w)(hn:n≠10/\n≠11)(hd:d≠9)(hb:Below w.heap.size w w'):Al w0 t ty (listed.setIfInBounds n true) (a.put (some d) v) w':=by
 intro h10
 rw[sN hn.1]at h10
 obtain⟨p,h1,h2,x,h3,h4⟩:=h h10
 refine⟨p, ?_,h2,x,(hb.block p (gA h3).1).trans h3,λh11=> ?_⟩
 ·show(a.tmps.setIfInBounds d v)[9]?=_
  rw[sN hd]
  exact h1
 ·rw[sN hn.2]at h11
  exact h4 h11
theorem lz{listed:Array Bool}{m K:Nat}(hm:m≠K)(h:listed[K]?=some true->∀n,n<K->listed[n]?=some true):(listed.setIfInBounds m true)[K]?=some true->∀n,n<K->(listed.setIfInBounds m true)[n]?=some true:=λhK n hn=>by
 rw[sN hm]at hK
 have:=h hK n hn
 by_cases e:m=n
 ·subst e
  exact Array.getElem?_setIfInBounds_self_of_lt (gA this).1
 ·rw[sN e]
  exact this
theorem rC{ops:Array Oper}{K:Nat}{o:Oper}{listed:Array Bool}(ho:ops[K]?=some o)(hdep:∀e∈o.after,Region.binds .any e=true->listed[e.on]?=some true)(h:((List.range K).all λk=>jN ops K k)=true)(n:Nat)(hn:n<K):listed[n]?=some true:=
 aZ (List.all_eq_true.1 h n (List.mem_range.2 hn)) ho hdep
section
variable{s:cq}{b4 b7 i:Nat}{d:Int}{Goal:Goroutine->World->Prop}{k:List Item}{cs:List Frame}
theorem Hq{listed:Array Bool}{a:Act}(h:eQ (FZ b4 b7 i d) (Aj s b4 i) 33 listed a){m e:Nat}{v:Value}(hm:(m,e,v)∈Aj s b4 i):eQ (FZ b4 b7 i d) (Aj s b4 i) 33 (listed.setIfInBounds m true) (a.put (some e) v):=
 h.put (E7 s b4 b7 i d _ hm).1 (E7 s b4 b7 i d _ hm).2 λp hp e=>Jr s b4 i p hp _ hm e
end
def rY(b7 b9 j:Nat):List (Nat×Value):=[(7, .pt b7),(9, .pt b9),(10, .int .i64 j)]
def nj(s:cq)(i j:Nat)(x:List UInt8):List (Nat×Nat×Value):=[(0,26, .string (wV s i)),(1,27, .int .i64 j),(2,28, .string ⟨(cg j 1).toArray⟩),(3,29, .string ⟨x.toArray⟩)]
theorem H6(s:cq)(i j:Nat)(x:List UInt8):∀p∈nj s i j x,∀q∈nj s i j x,p.2.1=q.2.1\/p.1=q.1->p=q:=by
 intro p hp q hq h
 simp only[nj,List.mem_cons,List.not_mem_nil,or_false]at hp hq
 rcases hp with rfl|rfl|rfl|rfl<;>rcases hq with rfl|rfl|rfl|rfl<;>first|rfl|(exfalso;simp at h)
theorem zW(s:cq)(i j:Nat)(x:List UInt8)(b7 b9:Nat):∀p∈nj s i j x,p.2.1<33/\∀q∈rY b7 b9 j,q.1≠p.2.1:=by
 intro p hp
 simp only[nj,List.mem_cons,List.not_mem_nil,or_false]at hp
 rcases hp with rfl|rfl|rfl|rfl<;>refine⟨by simp,λq hq=> ?_⟩<;>simp only[rY,List.mem_cons,List.not_mem_nil,or_false]at hq<;>rcases hq with rfl|rfl|rfl<;>simp
theorem GN{s:cq}{i j:Nat}{x:List UInt8}{b7 b9:Nat}{listed:Array Bool}{a:Act}(h:eQ (rY b7 b9 j) (nj s i j x) 33 listed a){m e:Nat}{v:Value}(hm:(m,e,v)∈nj s i j x):eQ (rY b7 b9 j) (nj s i j x) 33 (listed.setIfInBounds m true) (a.put (some e) v):=
 h.put (zW s i j x b7 b9 _ hm).1 (zW s i j x b7 b9 _ hm).2 λp hp e=>H6 s i j x p hp _ hm e
def A4(cells:Array Value)(ty:TypeId)(listed:Array Bool)(a:Act)(w:World):Prop:=listed[4]?=some true->∃p,a.tmps[30]?=some (.slice (some ⟨p,0,none⟩) 3 3)/\w.heap[p]?=some (.cells cells ty)
theorem A4.step{cells:Array Value}{ty:TypeId}{listed:Array Bool}{a:Act}{w w':World}{n d:Nat}{v:Value}(h:A4 cells ty listed a w)(hn:n≠4)(hd:d≠30)(hb:Below w.heap.size w w'):A4 cells ty (listed.setIfInBounds n true) (a.put (some d) v) w':=by
 intro h4
 rw[sN hn]at h4
 obtain⟨p,h1,h3⟩:=h h4
 refine⟨p, ?_,(hb.block p (gA h3).1).trans h3⟩
 show(a.tmps.setIfInBounds d v)[30]?=_
 rw[sN hd]
 exact h1
def A5(v5:Value)(listed:Array Bool)(a:Act):Prop:=listed[5]?=some true->a.tmps[31]?=some v5
theorem A5.step{v5:Value}{listed:Array Bool}{a:Act}{n d:Nat}{v:Value}(h:A5 v5 listed a)(hn:n≠5)(hd:d≠31):A5 v5 (listed.setIfInBounds n true) (a.put (some d) v):=by
 intro h5
 rw[sN hn]at h5
 show(a.tmps.setIfInBounds d v)[31]?=_
 rw[sN hd]
 exact h h5
def K1(w0:World)(b7:Nat)(v5:Value)(listed:Array Bool)(w:World):Prop:=(listed[6]?=some false/\Below w0.heap.size w0 w)\/(listed[6]?=some true/\∃w1,Below w0.heap.size w0 w1/\w=w1.setCell ⟨b7,0,none⟩ v5)
structure Ch (s:cq) (i b7 b9 k2 l ld:Nat) (r:LoopState->Loop) (ty tk:TypeId) (w0:World) (st:LoopState) (x:List UInt8) (w:World):Prop where
 old:Below w0.heap.size w0 w
 seven:w.heap[b7]?=some (.cells #[.string ⟨x.toArray⟩] ty)
 nine:w.heap[b9]?=some (.cells #[.string (wV s i)] ty)
 key:w.heap[k2]?=some (.cells s.key tk)
 loop:w.heap[l]?=some (.loop (r st))
 list:w.heap[ld]?=some (.deferred (some []))
structure ub (b7 b9 k2 l ld:Nat) (w0:World):Prop where
 low:w0.heap.size<=b7/\w0.heap.size<=l/\w0.heap.size<=ld
 seven:b7≠b9/\b7≠k2/\b7≠l/\b7≠ld
 loop:l≠b9/\l≠k2/\l≠ld
section
variable{s:cq}{i b7 b9 k2 l ld:Nat}{r:LoopState->Loop}{ty tk:TypeId}{w0 w w':World}{st:LoopState}{x:List UInt8}
theorem Ch.below(h:Ch s i b7 b9 k2 l ld r ty tk w0 st x w)(hb:Below w.heap.size w w'):Ch s i b7 b9 k2 l ld r ty tk w0 st x w':=by
 have g:∀{b:Nat} {o:Obj},w.heap[b]?=some o->w'.heap[b]?=some o:=λ{b o} ho=>(hb.block b (gA ho).1).trans ho
 exact⟨ah h.old h.old.size hb,g h.seven,g h.nine,g h.key,g h.loop,g h.list⟩
theorem Ch.turn(h:Ch s i b7 b9 k2 l ld r ty tk w0 st x w)(f:ub b7 b9 k2 l ld w0)(st':LoopState):Ch s i b7 b9 k2 l ld r ty tk w0 st' x (aX w l (r st')):=
 ⟨h.old.trans (eG w l _ f.low.2.1),(aW w _ f.seven.2.2.1).trans h.seven,(aW w _ (Ne.symm f.loop.1)).trans h.nine,(aW w _ (Ne.symm f.loop.2.1)).trans h.key,ii h.loop,(aW w _ (Ne.symm f.loop.2.2)).trans h.list⟩
theorem Ch.put(h:Ch s i b7 b9 k2 l ld r ty tk w0 st x w)(f:ub b7 b9 k2 l ld w0)(y:List UInt8):Ch s i b7 b9 k2 l ld r ty tk w0 st y (w.setCell ⟨b7,0,none⟩ (.string ⟨y.toArray⟩)):=
 ⟨h.old.trans (dw w _ _ f.low.1),kg h.seven,(bV w _ (Ne.symm f.seven.1)).trans h.nine,(bV w _ (Ne.symm f.seven.2.1)).trans h.key,(bV w _ (Ne.symm f.seven.2.2.1)).trans h.loop,(bV w _ (Ne.symm f.seven.2.2.2)).trans h.list⟩
end
def yM(f:Func)(g:FuncId)(T:Array Value)(ld:Nat)(st:LoopState):Loop:={state:=st,pending:=none,fn:=g,tmps:=T,params:=#[25],assign:= .region 3 (ae f 3) false,body:= .block 1 (.region 4 (ae f 4) true),defers:=ld}
def kB(f:Func):Code:= .seq (.seq (.region 1 (ae f 1) false) (.cond (.tmp 9) .skip (.exit 0))) (.seq (.block 1 (.seq (.region 3 (ae f 3) false) (.cond (.tmp 15) .ret .skip))) (.region 2 (ae f 2) false))
section
variable{s:cq}{i b7 b9 k2 l ld n:Nat}{KS:List Int}{w0:World}{x:List UInt8}{T:Array Value}{Goal:Goroutine->World->Prop}{cf:Frame}{cs:List Frame}
theorem yL(KS:List Int)(pre:List UInt8)(t j:Nat)(x:List UInt8)(h:j<t):gR KS pre (t- j) j x=gR KS pre (t-(j+1)) (j+1) (j6 KS pre j x):=by
 rw[show t- j=(t-(j+1))+1 from by omega]
 rfl
end
end Go.Proofs.YtkmoglhgkcnalaaDoor
namespace Go.Proofs.YtkmoglhgkcnalaaDoor
open Go Go.RowKit Go.Lib Go.Shelf
theorem Lf.lays105{q:Bool}:Go.Proofs.Lays.n105 (ac q Tryd.prog) Tryd.lays105_ren:=by
 cases q<;>constructor
 all_goals first|(rw[qh];kernel_rfl)|kernel_rfl|(intro w;kernel_rfl)
theorem Lf.extra105{q:Bool}:Builder.Extra (ac q Tryd.prog) Tryd.lays105_ren:=by
 cases q<;>constructor
 all_goals first|kernel_rfl|(intro w;kernel_rfl)|decide|(constructor<;>first|kernel_rfl|(intro w;kernel_rfl)|decide)
theorem Lf.strings_Repeat{q:Bool}(s:ByteArray)(c:Nat)(w:World)(hc:c<=9223372036854775807)(hlen:s.size*c<=140737488355328):
 Calls (ac q Tryd.prog) 48 #[.string s, .int .i64 c] w λe w'=>e= .returned (.string ⟨(Lib.repeatL s.data.toList c).toArray⟩)/\Below w.heap.size w w':=Any.strings_Repeat Lf.lays105 Lf.extra105 s c w hc hlen
@[simp] theorem Lf.func48{q:Bool}:(ac q Tryd.prog).funcs[48]?=some Tryd.f48:=aB Tryd.func48 (by decide) rfl rfl (by kernel_rfl)
@[simp] theorem Lf.call48{q:Bool}(args:Array Value)(w:World):(callFunc 48 args).run (ac q Tryd.prog) w= .ok (.enter 48 args) w:=cG Lf.func48 (by kernel_rfl) rfl args w
end Go.Proofs.YtkmoglhgkcnalaaDoor
namespace Go.Proofs.YtkmoglhgkcnalaaDoor.L1
open Go.Proofs.YtkmoglhgkcnalaaDoor
section
variable{ql:Bool}
open Go.RowKit
theorem zm(x k:Int)(w:World):
 Calls (ac ql Tryd.prog) 71 #[.int .u32 x, .int .i64 k] w λe w'=>e= .returned (.int .u32 (qM x k))/\w'=w:=by
 have h0:=pV .and (IntKind.u64.wrap k) 31
 go_enter Lf.func71,Tryd.ntmps71
 go_wp2
 go_ret
 exact⟨rfl,rfl⟩
theorem qs(x a b c:Int)(w:World)(a0:0<=a)(a1:a<=31)(b0:0<=b)(b1:b<=31)(c0:0<=c)(c1:c<=31):
 Calls (ac ql Tryd.prog) 55 #[.int .u32 x, .int .i64 a, .int .i64 b, .int .i64 c] w λe w'=>e= .returned (.int .u32 (cL x a b c))/\w'=w:=by
 go_enter Lf.func55,Tryd.ntmps55
 go_wp2_with (go_at_call 71;refine(zm _ _ _).mono ?_;rintro e w' ⟨rfl,rfl⟩)
 go_ret
 exact⟨rfl,rfl⟩
theorem vr(x a b c:Int)(w:World)(a0:0<=a)(a1:a<=31)(b0:0<=b)(b1:b<=31)(c0:0<=c)(c1:c<=31):
 Calls (ac ql Tryd.prog) 70 #[.int .u32 x, .int .i64 a, .int .i64 b, .int .i64 c] w λe w'=>e= .returned (.int .u32 (fo x a b c))/\∃n,w'=w.drewN n:=by
 go_enter Lf.func70,Tryd.ntmps70
 go_wp2
 go_quiet ((go_at_call 71;exact Calls.quiet_of_same (zm _ _ _)))
 go_wp2
 go_ret
 exact⟨rfl,_,rfl⟩
theorem ky(s:ByteArray)(w:World)(hs:s.size<=8):
 Calls (ac ql Tryd.prog) 63 #[.string s] w λe w'=>e= .returned (.int .u64 (fL s.data.toList))/\w'=w:=by
 go_enter Lf.func63,Tryd.ntmps63
 go_wp2
 go_loop [3,4,7] (λn j i=>∃k:Nat,k<=s.size/\i= .int .i64 k/\n= .int .u64 (fL (s.data.toList.take k))) (λ_ _ i=>s.size-(intOf i).toNat)
 case atStart=>exact⟨0,Nat.zero_le _,rfl,rfl⟩
 case round=>
  obtain⟨k,hk,rfl,rfl⟩:=hrel
  by_cases hlt:k<s.size
  ·have hn:=lZ (s.data.toList.take k) 7 (by simp;omega)
   go_wp2
   go_round
   case rel=>exact⟨k+1,by omega,by go_num,by rw[Am s k hlt,lY,Da _ _ hn.1 (by omega)]⟩
   case measure=>simp[intOf];omega
  ·go_wp2
   go_ret
   exact⟨qf (by rw[List.take_of_length_le (by simp;omega)]),rfl⟩
theorem Lf.info5:((ac ql Tryd.prog).info? 5).map (λi=>(i.zero,i.size,i.bytes))=some (some (.int .u8 0),1,1):=by kernel_rfl
theorem ni(n k:Nat)(w:World)(hk:k<=8):
 Calls (ac ql Tryd.prog) 56 #[.int .u64 n, .int .i64 k] w λe w'=>e= .returned (.string ⟨(cg n k).toArray⟩)/\Below w.heap.size w w':=by
 have hmk:=λw=>run_make_row' (P:=(ac ql Tryd.prog)) 51 5 (.int .u8 0) 1 Lf.underlying51 Lf.info5 rfl .i64 .i64 k (by omega) (by omega) w
 go_enter Lf.func56,Tryd.ntmps56
 go_wp2
 go_loopw [0,6] (λx i wr=>∃m:Nat,m<=k/\i= .int .i64 ((m:Int)- 1)/\x= .int .u64 ((n/256^(k- m):Nat):Int)/\wr=w.alloc (.cells (Ag n k m).toArray 5)) (λ_ i _=>(intOf i+1).toNat)
 case atStart=>exact⟨k,Nat.le_refl _,rfl,by simp,by rw[Af,dc]⟩
 case round=>
  obtain⟨m,hm,rfl,rfl,rfl⟩:=hrel
  cases m with
  |zero=>
   have hl:=bT k n
   have hcv:=run_convert_bytes_back (P:=(ac ql Tryd.prog)) (w.alloc (.cells (av (cg n k)).toArray 5)) 51 9 5 ⟨w.heap.size,0,none⟩ k (cg n k) Lf.underlying51 Lf.underlying5 Lf.underlying9
    (λj hj=>by rw[Addr.add_mid,World.cell?_alloc_at _ _ _ _ rfl];simp[av,hj])
   rw[hl]at hcv
   rw[F4]
   generalize hL:cg n k=L at*
   have HL:Hid (cg n k=L):=hL
   clear hL hl
   go_wp2
   go_ret
   exact⟨nA HL.out.symm,(bR).alloc (Nat.le_refl _) _⟩
  |succ p=>
   rw[show((p+1:Nat):Int)- 1=(p:Int)from by omega]
   have hg:=F3 n k p
   have hsz:=xF n k (p+1) hm
   go_wp2
   go_roundw
   case rel=>exact⟨p,by omega,rfl,by rw[show k- p=k-(p+1)+1 from by omega,Nat.pow_succ,←Nat.div_div_eq_div_mul];simp,by rw[F2 n k p (by omega) _ (by simp)]⟩
   case measure=>simp[intOf]
theorem EZ(n:Nat)(w:World):
 Calls (ac ql Tryd.prog) 47 #[.int .u64 n] w λe w'=>e= .returned (.string ⟨(cg n 8).toArray⟩)/\Below w.heap.size w w':=by
 go_enter Lf.func47,Tryd.ntmps47
 go_wp2_with (go_at_call 56;refine(ni n 8 _ (by omega)).mono ?_;rintro e w' ⟨rfl,hb⟩)
 go_ret
 exact⟨rfl,hb⟩
end
section
variable{ql:Bool}
open Go.RowKit
theorem xI(b k:Nat)(hk:k<16)(W:World):(Instr.sliceAt 54 (.pointer (some ⟨b,0,none⟩)) (some (.int .i64 (4*(k:Int)))) (some (.int .i64 (4*(k:Int)+4))) none).run (ac ql Tryd.prog) W=
 .ok (.slice (some ⟨b,4*k,none⟩) 4 (64- 4*k)) W:=by
 have hu:(ac ql Tryd.prog).underlying 54=some (.array ((ac ql Tryd.prog).arrayLen 54) ((ac ql Tryd.prog).elem 54)):=by kernel_rfl
 have hl:(ac ql Tryd.prog).arrayLen 54=64:=by kernel_rfl
 have he:(ac ql Tryd.prog).elem 54=5:=by kernel_rfl
 have hs:(sizeOf 5).run (ac ql Tryd.prog) W= .ok 1 W:=by kernel_rfl
 rw[run_sliceAt_array_lh W 54 _ hu _ _ _ _ (by omega) (by omega) (by rw[hl];omega),hl,he,hs]
 have e1:(4*(k:Int)).toNat=4*k:=by omega
 have e2:(4*(k:Int)+4).toNat=4*k+4:=by omega
 have e3:4*k+4- 4*k=4:=by omega
 simp only[Result.andThen_ok,slicedAt]
 rw[e1,e2,e3,if_neg (by omega),Addr.add_mid,Nat.mul_one,Nat.zero_add]
theorem BM(B:List UInt8)(hB:B.length=64)(b k c:Nat)(hk:k<16)(W:World)(hr:W.rangeAt b 0 (av B)):
 (convert 51 9 (.slice (some ⟨b,4*k,none⟩) 4 c)).run (ac ql Tryd.prog) W= .ok (.string ⟨((B.drop (4*k)).take 4).toArray⟩) W:=by
 have hl:((B.drop (4*k)).take 4).length=4:=by simp;omega
 have hcv:=run_convert_bytes_back (P:=(ac ql Tryd.prog)) W 51 9 5 ⟨b,4*k,none⟩ c ((B.drop (4*k)).take 4) Lf.underlying51 Lf.underlying5 Lf.underlying9
  (λj hj=>by
    rw[hl]at hj
    rw[Addr.add_mid]
    have:=hr (4*k+j) (.int .u8 ((B[4*k+j]'(by omega)).toNat:Int)) (by simp[av];exact⟨_,List.getElem?_eq_getElem (by omega),rfl⟩)
    rw[Nat.zero_add]at this
    rw[this]
    simp)
 rwa [hl]at hcv
theorem AB(B:List UInt8)(hB:B.length=64)(w:World):
 Calls (ac ql Tryd.prog) 54 #[.agg (av B).toArray] w λe w'=>e= .returned (.agg (aj (aU B 64)).toArray)/\Below w.heap.size w w':=by
 go_enter Lf.func54,Tryd.ntmps54
 go_wp2
 go_loopw [4,6] (λ_ i wr=>∃(k:Nat) (W0:World),k<=16/\i= .int .i64 k/\W0.heap.size=w.heap.size+1+1/\W0.rangeAt w.heap.size 0 (av B)/\W0.there (w.heap.size+1) 0 64/\Below w.heap.size w W0/\
  wr=W0.alloc (.cells (aj (bP B k)).toArray 85)) (λ_ i _=>16-(intOf i).toNat)
 case atStart=>
  have hf:=Es w B (List.replicate 64 (.int .u32 0)).toArray (by simp)
  exact⟨0,_,by omega,rfl,hf.1,hf.2.1,hf.2.2.1,hf.2.2.2,by rw[vz];rfl⟩
 case round=>
  obtain⟨k,W0,hk,rfl,hsz,hrg,hth,hbl,rfl⟩:=hrel
  by_cases hlt:k<16
  ·have hsl:=xI (ql:=ql) w.heap.size k hlt
   have hcv:=λc=>BM (ql:=ql) B hB w.heap.size k c hlt (W0.alloc (.cells (aj (bP B k)).toArray 85)) (World.rangeAt_alloc hrg _)
   have hg:=pe B k (by omega)
   have hln:=rV B k (by omega)
   have hlc:(aj (bP B k)).length=64:=by rw[aD,hln]
   have h8:(ByteArray.mk ((B.drop (4*k)).take 4).toArray).size<=8:=by show((B.drop (4*k)).take 4).toArray.size<=8;simp;omega
   go_wp2_with (go_at_call 63;refine(ky _ _ h8).mono ?_;rintro e w' ⟨rfl,rfl⟩)
   go_roundw
   case rel=>exact⟨k+1,W0,by omega,by go_num,hsz,hrg,hth,hbl,by rw[qK B k (by omega) _ (by rw[if_pos hlt,oQ,IntKind.wrap_u32])]⟩
   case measure=>simp[intOf];omega
  ·have hk16:k=16:=by omega
   subst hk16
   clear hlt hk
   go_wp2
   go_loopw [5] (λi wr=>∃(k n:Nat),16<=k/\k<=64/\i= .int .i64 k/\
    wr=(W0.alloc (.cells (aj (bP B k)).toArray 85)).drewN n) (λi _=>64-(intOf i).toNat)
   case atStart=>exact⟨16,0,by omega,by omega,rfl,rfl⟩
   case round=>
    obtain⟨k,n,hk16,hk,rfl,rfl⟩:=hrel
    by_cases hlt:k<64
    ·obtain⟨m,rfl⟩:∃m,k=m+16:=⟨k- 16,by omega⟩
     rw[show((m+16:Nat):Int)=(m:Int)+16 from by omega]
     go_wp2_with fail
     obtain⟨M,hM⟩:∃M,M=(W0.alloc (.cells (aj (bP B (m+16))).toArray 85)).drewN n:=⟨_,rfl⟩
     have f0:=oL hM hsz (kp B (m+16) m (by omega))
     have f1:=oL hM hsz (kp B (m+16) (m+1) (by omega))
     have f9:=oL hM hsz (kp B (m+16) (m+9) (by omega))
     have f14:=oL hM hsz (kp B (m+16) (m+14) (by omega))
     have f16:=oL hM hsz (pe B (m+16) (by omega))
     have g16:=Ew hM hsz (m+16)
     generalize hx0:(aU B (m+16)).getD m 0=x0 at f0
     have X0:Hid ((aU B (m+16)).getD m 0=x0):=hx0
     clear hx0
     generalize hx1:(aU B (m+16)).getD (m+1) 0=x1 at f1
     have X1:Hid ((aU B (m+16)).getD (m+1) 0=x1):=hx1
     clear hx1
     generalize hx9:(aU B (m+16)).getD (m+9) 0=x9 at f9
     have X9:Hid ((aU B (m+16)).getD (m+9) 0=x9):=hx9
     clear hx9
     generalize hx14:(aU B (m+16)).getD (m+14) 0=x14 at f14
     have X14:Hid ((aU B (m+16)).getD (m+14) 0=x14):=hx14
     clear hx14
     rw[←hM]
     have HM:Hid (M=(W0.alloc (.cells (aj (bP B (m+16))).toArray 85)).drewN n):=hM
     clear hM
     have b0:(m:Int)<64:=by omega
     have b1:(m:Int)+1<64:=by omega
     have b9:(m:Int)+9<64:=by omega
     have b14:(m:Int)+14<64:=by omega
     have b16:(m:Int)+16<64:=by omega
     have z0:0<=(m:Int):=by omega
     have v0:IntKind.i64.wrap (m:Int)=m:=by rw[IntKind.wrap_i64];omega
     have v1:IntKind.i64.wrap ((m:Int)+16- 15)=m+1:=by rw[IntKind.wrap_i64];omega
     have v9:IntKind.i64.wrap ((m:Int)+16- 7)=m+9:=by rw[IntKind.wrap_i64];omega
     have v14:IntKind.i64.wrap ((m:Int)+16- 2)=m+14:=by rw[IntKind.wrap_i64];omega
     have p1:0<=(m:Int)+1:=by omega
     have p9:0<=(m:Int)+9:=by omega
     have p14:0<=(m:Int)+14:=by omega
     have p16:0<=(m:Int)+16:=by omega
     have t1:((m:Int)+1).toNat=m+1:=by omega
     have t9:((m:Int)+9).toNat=m+9:=by omega
     have t14:((m:Int)+14).toNat=m+14:=by omega
     have t16:((m:Int)+16).toNat=m+16:=by omega
     go_region_held3 (λw'=>w'.cell? ⟨w.heap.size+1+1,m,none⟩=some (.int .u32 x0)/\w'.cell? ⟨w.heap.size+1+1,m+1,none⟩=some (.int .u32 x1)/\w'.cell? ⟨w.heap.size+1+1,m+9,none⟩=some (.int .u32 x9)/\w'.cell? ⟨w.heap.size+1+1,m+14,none⟩=some (.int .u32 x14)) (first|go_keep|(refine⟨?_, ?_, ?_, ?_⟩<;>(rw[World.cell?_setCell_other _ _ _ _ (by simp)];simp only[World.cell?_drewN,f0,f1,f9,f14])))
      (first|(go_at_call 70;refine(vr _ _ _ _ _ (by omega) (by omega) (by omega) (by omega) (by omega) (by omega)).mono ?_;rintro e w' ⟨rfl,nq,rfl⟩))
     all_goals
      clear f0 f1 f9 f14 f16 g16 b0 b1 b9 b14 v0 v1 v9 v14 p1 p9 p14 p16 t1 t9 t14 t16
      go_wp2
      go_roundw
      case rel=>((repeat apply Exists.intro);exact⟨⟨m+17,_,by omega,by omega,by go_num,(K3 HM.out hsz _ _ _).trans (by rw[qK B (m+16) (by omega) _ (by rw[if_neg (by omega),vV,X0.out,X1.out,X9.out,X14.out,IntKind.wrap_u32,IntKind.wrap_u32,IntKind.wrap_u32])])⟩,rfl⟩)
      case measure=>simp[intOf];omega
    ·have hk64:k=64:=by omega
     subst hk64
     clear hlt hk hk16
     obtain⟨M,hM⟩:∃M,M=(W0.alloc (.cells (aj (bP B 64)).toArray 85)).drewN n:=⟨_,rfl⟩
     have hr:M.rangeAt (w.heap.size+1+1) 0 (aj (bP B 64)):=λj v hv=>by rw[Nat.zero_add];exact oL hM hsz hv
     have ht:M.there (w.heap.size+1) 0 64:=by rw[hM];exact World.there_alloc hth _
     have hb:Below w.heap.size w M:=by rw[hM];exact below_drewN (hbl.alloc (by omega) _) n
     rw[←hM]
     rw[pf]at hr
     clear hM hsz hrg hth hbl
     have hl:(aj (aU B 64)).length=64:=by rw[aD,bh]
     generalize hL:aj (aU B 64)=L at*
     have HL:Hid (aj (aU B 64)=L):=hL
     have hone:∀v∈L,v.oneCell'=true:=by rw[←hL];exact g8 _
     clear hL
     have hi:((ac ql Tryd.prog).info? 85).map (·.size)=some L.length:=by rw[hl];kernel_rfl
     have Hhr:Hid (M.rangeAt (w.heap.size+1+1) 0 L):=hr
     have hls:L.toArray.size=64:=by simp[hl]
     have Hht:Hid (M.there (w.heap.size+1) 0 L.toArray.size):=by rw[hls];exact ht
     have Hht':Hid (M.there (w.heap.size+1) 0 L.length):=by rw[hl];exact ht
     clear hls
     have Hi2:Hid (((ac ql Tryd.prog).info? 85).map (·.size)=some L.toArray.size):=by rw[List.size_toArray];exact hi
     have Hon:Hid (L.toArray.all (·.oneCell')=true):=all_oneCell_toArray hone
     clear hr ht hone
     go_wp2_with (first
      |refine wpList_load_mid rfl 85 (.tmp 3) rfl (w.heap.size+1+1) 0 rfl L _ Hhr.out Lf.underlying85 rfl hi ?_
      |refine wpList_store_mid rfl 85 (.tmp 2) (.tmp 48) rfl (w.heap.size+1) 0 L.toArray rfl rfl Hht.out Hi2.out Hon.out ?_)
     exact bodyPost_ret (v:= .agg L.toArray) (dn (p:=2) (ty:=85) (by kernel_rfl) _ _ (w.heap.size+1) 0 L _ rfl (World.rangeAt_setCells_same _ _ _ _ Hht'.out) Lf.underlying85 rfl hi) rfl ⟨FG HL.out.symm,cm (by omega) _ _ _ _ hb⟩
end
section
variable{ql:Bool}
open Go.RowKit
theorem Ba(G:List Int)(hG:G.length=8)(k:Nat)(hk:k<8)(W:World):(Instr.index 53 (.agg (aj G).toArray) (.int .i64 (k:Int))).run (ac ql Tryd.prog) W= .ok (.int .u32 (G.getD k 0)) W:=by
 have hs:(sizeOf 52).run (ac ql Tryd.prog) W= .ok 1 W:=by kernel_rfl
 simp[Instr.index,asIntOf,run_underlying Lf.underlying53,part,hs,hk,aj,hG]
theorem Cf(x:Int)(w:World):Calls (ac ql Tryd.prog) 55 #[.int .u32 x, .int .i64 6, .int .i64 11, .int .i64 25] w λe w'=>e= .returned (.int .u32 (cL x 6 11 25))/\w'=w:=
 qs x 6 11 25 w (by omega) (by omega) (by omega) (by omega) (by omega) (by omega)
theorem Ci(x:Int)(w:World):Calls (ac ql Tryd.prog) 55 #[.int .u32 x, .int .i64 2, .int .i64 13, .int .i64 22] w λe w'=>e= .returned (.int .u32 (cL x 2 13 22))/\w'=w:=
 qs x 2 13 22 w (by omega) (by omega) (by omega) (by omega) (by omega) (by omega)
theorem AW(H KS:List Int)(B:List UInt8)(hH:H.length=8)(hB:B.length=64)(w:World)(hK:w.rangeAt 0 0 (aj KS))(hKl:KS.length=64)(h0:0<w.heap.size):
 Calls (ac ql Tryd.prog) 46 #[.agg (aj H).toArray, .agg (av B).toArray] w λe w'=>e= .returned (.agg (aj (kA KS H B)).toArray)/\Below w.heap.size w w':=by
 have hi54:((ac ql Tryd.prog).info? 54).map (·.size)=some (av B).length:=by rw[bf,hB];kernel_rfl
 have HK:Hid (w.rangeAt 0 0 (aj KS)):=hK
 have HKl:Hid (KS.length=64):=hKl
 clear hK hKl
 go_enter Lf.func46,Tryd.ntmps46
 go_wp2_with (first
  |refine wpList_load_mid rfl 54 (.tmp 3) rfl (w.heap.size+1) 0 rfl (av B) _ (by exact World.rangeAt_alloc (dT _ _ _ _ (by simp)) _) Lf.underlying54 rfl hi54 ?_
  |fail)
 refine(AB B hB _).mono ?_
 rintro e w1 ⟨rfl,hb1⟩
 have hSl:(aU B 64).length=64:=bh B 64
 generalize hS:aU B 64=S at*
 have HS:Hid (aU B 64=S):=hS
 have hi85:((ac ql Tryd.prog).info? 85).map (·.size)=some (aj S).toArray.size:=by rw[show(aj S).toArray.size=64 from by simp[aD,hSl]];kernel_rfl
 have hth:(w1.alloc (.cells (List.replicate 64 (.int .u32 0)).toArray 85)).there w1.heap.size 0 (aj S).toArray.size:=by rw[show(aj S).toArray.size=64 from by simp[aD,hSl]];exact cD _ _ _ _ _ rfl (by simp)
 have Hth:Hid ((w1.alloc (.cells (List.replicate 64 (.int .u32 0)).toArray 85)).there w1.heap.size 0 (aj S).toArray.size):=hth
 have Hb1:Hid (Below _ _ _):=hb1
 clear hS hth hb1 hi54
 go_wp2_with (first
  |refine wpList_store_mid rfl 85 (.tmp 5) (.tmp 20) rfl w1.heap.size 0 (aj S).toArray rfl rfl Hth.out hi85 (all_oneCell_toArray (g8 S)) ?_)
 refine xy (λM=>IV w M H KS S w1.heap.size) (AX w w1 H KS S B 53 54 85 _ _ rfl rfl hSl hH HK.out h0 Hb1.out) ?_
 intro M hMM
 have HHm:Hid (IV w M H KS S w1.heap.size):=hMM
 clear hMM hi85 Hth Hb1
 generalize w1.heap.size=c at HHm⊢
 clear w1
 simp only[Act.put]
 obtain⟨s0,hs0⟩:∃s,s=St.of H:=⟨_,rfl⟩
 have x0:M.cell? ⟨w.heap.size,0,none⟩=some (.int .u32 s0.a):=by rw[hs0];exact fA HHm.out.hrow 0 (by omega)
 have x1:M.cell? ⟨w.heap.size,1,none⟩=some (.int .u32 s0.b):=by rw[hs0];exact fA HHm.out.hrow 1 (by omega)
 have x2:M.cell? ⟨w.heap.size,2,none⟩=some (.int .u32 s0.c):=by rw[hs0];exact fA HHm.out.hrow 2 (by omega)
 have x3:M.cell? ⟨w.heap.size,3,none⟩=some (.int .u32 s0.d):=by rw[hs0];exact fA HHm.out.hrow 3 (by omega)
 have x4:M.cell? ⟨w.heap.size,4,none⟩=some (.int .u32 s0.e):=by rw[hs0];exact fA HHm.out.hrow 4 (by omega)
 have x5:M.cell? ⟨w.heap.size,5,none⟩=some (.int .u32 s0.f):=by rw[hs0];exact fA HHm.out.hrow 5 (by omega)
 have x6:M.cell? ⟨w.heap.size,6,none⟩=some (.int .u32 s0.g):=by rw[hs0];exact fA HHm.out.hrow 6 (by omega)
 have x7:M.cell? ⟨w.heap.size,7,none⟩=some (.int .u32 s0.h):=by rw[hs0];exact fA HHm.out.hrow 7 (by omega)
 have HH:Hid (s0=St.of H):=hs0
 have HhH:Hid (H.length=8):=hH
 have HhS:Hid (S.length=64):=hSl
 clear hs0 hH hSl hB
 go_quiet (fail)
 clear x0 x1 x2 x3 x4 x5 x6 x7
 go_wp2
 go_loopw [6,7,8,9,10,11,12,13,37] (λa b c d e f g h i wr=>∃(k n:Nat),k<=64/\i= .int .i64 k/\a= .int .u32 (bG KS S H k).a/\b= .int .u32 (bG KS S H k).b/\c= .int .u32 (bG KS S H k).c/\d= .int .u32 (bG KS S H k).d/\
  e= .int .u32 (bG KS S H k).e/\f= .int .u32 (bG KS S H k).f/\g= .int .u32 (bG KS S H k).g/\h= .int .u32 (bG KS S H k).h/\wr=M.drewN n) (λ_ _ _ _ _ _ _ _ i _=>64-(intOf i).toNat)
 case atStart=>exact⟨0,_,by omega,rfl,by rw[HH.out];rfl,by rw[HH.out];rfl,by rw[HH.out];rfl,by rw[HH.out];rfl,by rw[HH.out];rfl,by rw[HH.out];rfl,by rw[HH.out];rfl,by rw[HH.out];rfl,rfl⟩
 case round=>
  obtain⟨k,n,hk,rfl,rfl,rfl,rfl,rfl,rfl,rfl,rfl,rfl,rfl⟩:=hrel
  by_cases hlt:k<64
  ·generalize hs:bG KS S H k=s
   have HR:Hid (bG KS S H k=s):=hs
   clear hs
   have hlt':(k:Int)<64:=by omega
   have hk0:(0:Int)<=(k:Int):=by omega
   have y1:M.cell? ⟨0,k,none⟩=some (.int .u32 (KS.getD k 0)):=fA HHm.out.krow k (by rw[HKl.out];omega)
   have y2:M.cell? ⟨c,k,none⟩=some (.int .u32 (S.getD k 0)):=fA HHm.out.srow k (by rw[HhS.out];omega)
   generalize hkk:KS.getD k 0=kk at y1
   generalize hww:S.getD k 0=ww at y2
   have HKK:Hid (KS.getD k 0=kk):=hkk
   have HWW:Hid (S.getD k 0=ww):=hww
   clear hkk hww
   go_wp2_with fail
   go_quiet ((go_at_call 55;exact(Cf _ _).mono (λ_ _ h=>⟨h.1,_,h.2⟩)))
   clear y1 y2
   go_wp2_with (go_at_call 55;refine(Ci _ _).mono ?_;rintro e w' ⟨rfl,rfl⟩)
   go_roundw
   case rel=>exact⟨k+1,_,by omega,by go_num,by rw[bG,HR.out,HKK.out,HWW.out];exact congrArg (Value.int .u32) (Hz s kk ww),by rw[bG,HR.out,HKK.out,HWW.out];rfl,by rw[bG,HR.out,HKK.out,HWW.out];rfl,by rw[bG,HR.out,HKK.out,HWW.out];rfl,by rw[bG,HR.out,HKK.out,HWW.out];exact congrArg (Value.int .u32) (Hy s kk ww),by rw[bG,HR.out,HKK.out,HWW.out];rfl,by rw[bG,HR.out,HKK.out,HWW.out];rfl,by rw[bG,HR.out,HKK.out,HWW.out];rfl,rfl⟩
   case measure=>simp[intOf];omega
  ·have hk64:k=64:=by omega
   subst hk64
   clear hlt hk
   go_wp2
   generalize hG:bG KS S H 64=G
   have HG:Hid (bG KS S H 64=G):=hG
   clear hG
   have hgl:Value.agg #[Value.int .u32 G.a,Value.int .u32 G.b,Value.int .u32 G.c,Value.int .u32 G.d,Value.int .u32 G.e,Value.int .u32 G.f,Value.int .u32 G.g,Value.int .u32 G.h]=Value.agg (aj G.list).toArray:=rfl
   go_loopw [97] (λi wr=>∃(k:Nat),k<=8/\i= .int .i64 k/\Below w.heap.size w wr/\wr.rangeAt w.heap.size 0 (aj (dr H G.list k))/\wr.there w.heap.size 0 8/\wr.there (w.heap.size+1+1) 0 8) (λi _=>8-(intOf i).toNat)
   case atStart=>exact⟨0,by omega,rfl,below_drewN HHm.out.below _,by rw[vW H _ HhH.out];exact HHm.out.hrow,HHm.out.hthere,HHm.out.res⟩
   case round=>
    obtain⟨k,hk,rfl,hb,hr,ht,hres⟩:=hrel
    by_cases hlt:k<8
    ·have hix:=λW=>Ba (ql:=ql) G.list rfl k hlt W
     rw[←hgl]at hix
     have hlt':(k:Int)<8:=by omega
     have hk0:(0:Int)<=(k:Int):=by omega
     have y0:wr.cell? ⟨w.heap.size,k,none⟩=some (.int .u32 (H.getD k 0)):=by have:=hr k _ (AZ H G.list k hlt);rwa [Nat.zero_add]at this
     have yf:wr.frozen? ⟨w.heap.size,k,none⟩=false:=by have:=(ht k hlt).2;rwa [Nat.zero_add]at this
     clear hgl
     have Hr:Hid (wr.rangeAt w.heap.size 0 (aj (dr H G.list k))):=hr
     have Ht:Hid (wr.there w.heap.size 0 8):=ht
     have Hres:Hid (wr.there (w.heap.size+1+1) 0 8):=hres
     clear hr ht hres
     go_wp2
     go_roundw
     case rel=>exact⟨k+1,by omega,by go_num,hb.setCell (Nat.le_refl _) _,by rw[←AY H G.list k _ (by rw[IntKind.wrap_u32,List.getD_eq_getElem?_getD,List.getD_eq_getElem?_getD])];exact ij Hr.out _,eC Ht.out _ _ _,eC Hres.out _ _ _⟩
     case measure=>simp[intOf];omega
    ·have hk8:k=8:=by omega
     subst hk8
     clear hlt hk hgl
     have hml:(dr H G.list 8).length=8:=kz _ _ _
     have HL:Hid (kA KS H B=dr H G.list 8):=by show kA KS H B=_;rw[kA,yy,HS.out,HG.out]
     generalize dr H G.list 8=L at*
     have hi53:((ac ql Tryd.prog).info? 53).map (·.size)=some (aj L).length:=by rw[aD,hml];kernel_rfl
     have Hi53:Hid (((ac ql Tryd.prog).info? 53).map (·.size)=some (aj L).toArray.size):=by show _=some (aj L).toArray.size;rw[List.size_toArray];exact hi53
     have Hr:Hid (wr.rangeAt w.heap.size 0 (aj L)):=hr
     have Hres':Hid (wr.there (w.heap.size+1+1) 0 (aj L).length):=by show wr.there _ _ _;rw[aD,hml];exact hres
     have Hres:Hid (wr.there (w.heap.size+1+1) 0 (aj L).toArray.size):=by show wr.there _ _ (aj L).toArray.size;rw[List.size_toArray];exact Hres'.out
     clear hr ht hres
     go_wp2_with (first
           |refine wpList_load_mid rfl 53 (.tmp 2) rfl w.heap.size 0 rfl (aj L) _ Hr.out Lf.underlying53 rfl hi53 ?_
           |refine wpList_store_mid rfl 53 (.tmp 4) (.tmp 108) rfl (w.heap.size+1+1) 0 (aj L).toArray rfl rfl Hres.out Hi53.out (all_oneCell_toArray (g8 L)) ?_)
     exact bodyPost_ret (v:= .agg (aj L).toArray) (dn (p:=4) (ty:=53) (by kernel_rfl) _ _ (w.heap.size+1+1) 0 (aj L) _ rfl (World.rangeAt_setCells_same _ _ _ _ Hres'.out) Lf.underlying53 rfl hi53) rfl ⟨by rw[HL.out],cm (by omega) _ _ _ _ hb⟩
end
section
variable{ql:Bool}
open Go.RowKit
theorem xJ(b h:Nat)(hh:h<64)(W:World):(Instr.sliceAt 54 (.pointer (some ⟨b,8,none⟩)) (some (.int .i64 (h:Int))) none none).run (ac ql Tryd.prog) W= .ok (.slice (some ⟨b,8+h,none⟩) (64- h) (64- h)) W:=by
 have hu:(ac ql Tryd.prog).underlying 54=some (.array ((ac ql Tryd.prog).arrayLen 54) ((ac ql Tryd.prog).elem 54)):=by kernel_rfl
 have hl:(ac ql Tryd.prog).arrayLen 54=64:=by kernel_rfl
 have he:(ac ql Tryd.prog).elem 54=5:=by kernel_rfl
 have hs:(sizeOf 5).run (ac ql Tryd.prog) W= .ok 1 W:=by kernel_rfl
 rw[run_sliceAt_array_l W 54 _ hu _ _ (by omega) (by rw[hl];omega),hl,he,hs]
 simp only[Result.andThen_ok,slicedAt]
 rw[Int.toNat_natCast,if_neg (by omega),Addr.add_mid,Nat.mul_one]
theorem sE(KS:List Int)(L blk:List UInt8)(s:ByteArray)(w:World)(b:Nat)(hD:dH w b KS L blk L.length)(hK:w.rangeAt 0 0 (aj KS))(hKl:KS.length=64)(hb0:0<b)(hb:b<w.heap.size)
 (hlen:L.length+s.size<=4611686018427387904):
 Calls (ac ql Tryd.prog) 30 #[.pointer (some ⟨b,0,none⟩), .string s] w λe w'=>e= .returned (.tuple #[])/\w.grownBy w' (some b)/\∃blk',dH w' b KS (L++s.data.toList) blk' (L.length+s.size):=by
 have hc:=hD.length
 have hf:w.frozen? ⟨b,72,none⟩=false:=by have:=(hD.there 72 (by omega)).2;rwa [Nat.zero_add]at this
 have HD:Hid (dH w b KS L blk L.length):=hD
 have HK:Hid (w.rangeAt 0 0 (aj KS)):=hK
 have Hl:Hid (L.length+s.size<=4611686018427387904):=hlen
 have h1:(L.length:Int)<=4611686018427387904:=by omega
 have h2:(s.size:Int)<=4611686018427387904:=by omega
 clear hD hK hlen
 go_enter Lf.func30,Tryd.ntmps30
 go_wp2
 go_loopw [1,4] (λpc hd wr=>∃(q rest blk':List UInt8),s.data.toList=q++rest/\pc= .string ⟨rest.toArray⟩/\hd= .int .i64 (((L++q).length%64:Nat):Int)/\dH wr b KS (L++q) blk' (L.length+s.size)/\w.grownBy wr (some b)) (λpc _ _=>mB pc)
 case atStart=>exact⟨[],s.data.toList,blk,rfl,rfl,by simp,by rw[List.append_nil];have:=HD.out.setLen (L.length+s.size);simpa using this,mh _ _ _ _⟩
 case round=>
  clear hc hf
  obtain⟨q,rest,blk',hq,rfl,rfl,hD,hG⟩:=hrel
  have HQ:Hid (s.data.toList=q++rest):=hq
  have HD':Hid (dH wr b KS (L++q) blk' (L.length+s.size)):=hD
  have HG:Hid (w.grownBy wr (some b)):=hG
  have hm:(L++q).length%64<64:=by omega
  generalize hh:(L++q).length%64=h at hm
  have HH:Hid ((L++q).length%64=h):=hh
  clear hq hD hG hh
  by_cases hr:rest=[]
  ·subst hr
   go_wp2
   go_end0
   exact⟨rfl,HG.out,blk',by rw[HQ.out,List.append_nil];exact HD'.out⟩
  ·have hpos:0<rest.length:=List.length_pos_iff.2 hr
   have hsz:(ByteArray.mk rest.toArray).size=rest.length:=by show rest.toArray.size=_;simp
   obtain⟨n,hn⟩:∃n,n=min rest.length (64- h):=⟨_,rfl⟩
   have hcp:=nw (P:=(ac ql Tryd.prog)) wr 51 3 5 Lf.underlying51 (by kernel_rfl) 9 b (8+h) (64- h) (64- h) n ⟨rest.toArray⟩ (by rw[hsz];exact hn.symm) (fS HD'.out.there (by omega) (by omega))
   have hn1:n<=rest.length:=by omega
   have hn2:n<=64- h:=by omega
   have hn0:0<n:=by omega
   have Hn:Hid (n=min rest.length (64- h)):=hn
   clear hn
   have hsl:=λW=>xJ (ql:=ql) b h hm W
   by_cases hfull:h+n=64
   ·have hfb:(((h:Int)+(n:Int))==64)=true:=by rw[beq_iff_eq];omega
    go_wp2_with fail
    obtain⟨c1,c2,c3,c4⟩:=HD'.out.copied (rest.take n) (by rw[HH.out];simp;omega)
    rw[HH.out]at c1 c2 c3 c4
    have hWs:(wr.setCells b (8+h) (av (rest.take n))).heap.size=wr.heap.size:=eN _ _ _ _
    obtain⟨W1,hW1⟩:∃W1,W1=wr.setCells b (8+h) (av (rest.take n)):=⟨_,rfl⟩
    rw[←hW1]at c1 c2 c3 c4 hWs⊢
    have HW1:Hid (W1=wr.setCells b (8+h) (av (rest.take n))):=hW1
    have hlt:(rest.take n).length=n:=by simp;omega
    have hB':(fO blk' (rest.take n) h).length=64:=fB _ _ _ HD'.out.len (by omega)
    have hH':(bu KS (L++q) ((L++q).length/64)).length=8:=cc _ _ _
    generalize hBB:fO blk' (rest.take n) h=BB at*
    generalize hFF:bu KS (L++q) ((L++q).length/64)=FF at*
    have hi53:((ac ql Tryd.prog).info? 53).map (·.size)=some (aj FF).length:=by rw[aD,hH'];kernel_rfl
    have hi54:((ac ql Tryd.prog).info? 54).map (·.size)=some (av BB).length:=by rw[bf,hB'];kernel_rfl
    clear hcp hsl hfb
    have hKW:(World.drew W1).rangeAt 0 0 (aj KS):=by
     rw[World.rangeAt_drew,HW1.out]
     exact World.rangeAt_setCells_apart (vG HG.out HK.out (by simp;omega)) _ _ _ (Or.inl (by omega))
    have hgs:=HG.out.size
    have hW0:0<(World.drew W1).heap.size:=by show 0<W1.heap.size;omega
    have hbW:b<W1.heap.size:=by omega
    have HKW:Hid ((World.drew W1).rangeAt 0 0 (aj KS)):=hKW
    have HW0:Hid (0<(World.drew W1).heap.size):=hW0
    have HWs:Hid (W1.heap.size=wr.heap.size):=hWs
    have Hc4:Hid (W1.there b 0 73):=c4
    have HBB:Hid (fO blk' (rest.take n) h=BB):=hBB
    have HFF:Hid (bu KS (L++q) ((L++q).length/64)=FF):=hFF
    clear hKW hW0 hWs c3 c4 hBB hFF hW1 hgs
    have hml:(kA KS FF BB).length=8:=ly _ _ _
    have hmx:=AW (ql:=ql) FF KS BB hH' hB' (World.drew W1) HKW.out hKl HW0.out
    generalize hMM:kA KS FF BB=MM at*
    have HMM:Hid (kA KS FF BB=MM):=hMM
    have Hmx:Hid (Calls _ _ _ _ _):=hmx
    have hms:(aj MM).toArray.size=8:=by simp[aD,hml]
    have Ht53:Hid ((World.drew W1).there b 0 (aj MM).toArray.size):=by show(World.drew W1).there b 0 _;rw[hms];exact(World.there_drew _ _ _ _).2 (fS Hc4.out (by omega) (by omega))
    have Hi53:Hid (((ac ql Tryd.prog).info? 53).map (·.size)=some (aj MM).toArray.size):=by show _=some (aj MM).toArray.size;rw[hms];kernel_rfl
    clear hMM hmx hH' hB' hms
    refine wp_region_any (by kernel_rfl) ?_
    change wpAny _ _ _ _ _ _ _ (World.drew W1)
    refine wT 0 (.pointer (some ⟨b,0,none⟩)) ?_
    refine wT 1 (.pointer (some ⟨b,0,none⟩)) ?_
    refine wT 2 (.pointer (some ⟨b,0,none⟩)) ?_
    refine wT 3 (.pointer (some ⟨b,0,none⟩)) ?_
    refine wT 5 (.pointer (some ⟨b,0,none⟩)) ?_
    refine wT 6 (.pointer (some ⟨b,0,none⟩)) ?_
    refine wT 7 (.pointer (some ⟨b,8,none⟩)) ?_
    refine wpAny_all (rs:=[4,8]) (by kernel_rfl) (List.cons_ne_nil _ _) (zY (YieldsIf.wpOp (S:=λw'=>w'=World.drew W1) (v:= .agg (aj FF).toArray) rfl (yieldsIf_load_mid (by rfl) 53 (.tmp 43) rfl b 0 (by go_simp) (aj FF) _ (λw' hw'=>hw'▸em c2) Lf.underlying53 rfl hi53) rfl ?_) (YieldsIf.wpOp (S:=λw'=>w'=World.drew W1) (v:= .agg (av BB).toArray) rfl (yieldsIf_load_mid (by rfl) 54 (.tmp 47) rfl b 8 (by go_simp) (av BB) _ (λw' hw'=>hw'▸em c1) Lf.underlying54 rfl hi54) rfl ?_))
    ·refine wpAny_all (rs:=[8]) (by kernel_rfl) (List.cons_ne_nil _ _) (fF (YieldsIf.wpOp (S:=λw'=>w'=World.drew W1) (v:= .agg (av BB).toArray) rfl (yieldsIf_load_mid (by rfl) 54 (.tmp 47) rfl b 8 (by go_simp) (av BB) _ (λw' hw'=>hw'▸em c1) Lf.underlying54 rfl hi54) rfl ?_))
     refine wpAny_all (rs:=[9]) (by kernel_rfl) (List.cons_ne_nil _ _) (fF (sF rfl rfl 46 #[.agg (aj FF).toArray, .agg (av BB).toArray] (by go_simp) (.agg (aj MM).toArray) _ Hmx.out λw2 hb2=> ?_))
     refine wT 10 (.pointer (some ⟨b,0,none⟩)) ?_
     refine wT 11 (.pointer (some ⟨b,0,none⟩)) ?_
     have ht2:w2.there b 0 (aj MM).toArray.size:=ef hb2 (show b<(World.drew W1).heap.size from hbW) Ht53.out
     refine wpAny_all (rs:=[12]) (by kernel_rfl) (List.cons_ne_nil _ _) (fF (lg (by rfl) (by rfl) 53 (.tmp 51) (.tmp 49) (by rfl) b 0 (aj MM).toArray ?e4 ?e5 ht2 Hi53.out (all_oneCell_toArray (g8 MM)) (by rfl) ?e7))
     case e4=>go_simp
     case e5=>go_simp
     case e7=>
      refine wpAny_done (by kernel_rfl) ?_ _
      have HB2:Hid (Below (World.drew W1).heap.size (World.drew W1) w2):=hb2
      clear hb2 ht2
      go_wp2_with fail
      rw[o8]
      have hst:mB (.string ⟨(rest.drop n).toArray⟩)<mB (.string ⟨rest.toArray⟩):=by
       show(rest.drop n).toArray.size<rest.toArray.size
       simp;omega
      have hbw:Below wr.heap.size (wr.setCells b (8+(L++q).length%64) (av (rest.take n))) w2:=by
       rw[HH.out,←HW1.out]
       exact(Below.drew (Below.refl _ W1)).trans (HB2.out.mono (show wr.heap.size<=W1.heap.size from by rw[HWs.out];exact Nat.le_refl _))
      have hfu:=HD'.out.full (rest.take n) (by rw[HH.out,hlt];exact hfull) hbw (by rw[←HWs.out];exact hbW)
      rw[HH.out,HFF.out,HBB.out,HMM.out,List.append_assoc]at hfu
      have hmod:(L++(q++rest.take n)).length%64=0:=by
       have:=HH.out
       simp only[List.length_append,hlt]at this⊢
       omega
      have hgr:w.grownBy W1 (some b):=by rw[HW1.out];exact dz HG.out (dt _ _ _ _)
      exact⟨⟨q++rest.take n,rest.drop n,_,by rw[HQ.out];simp,rfl,by rw[hmod];rfl,hfu,dz hgr (dz (pB ((Below.drew (Below.refl _ W1)).trans HB2.out)) (dt _ _ _ _))⟩,hst⟩
    ·refine wpAny_all (rs:=[4]) (by kernel_rfl) (List.cons_ne_nil _ _) (fF (YieldsIf.wpOp (S:=λw'=>w'=World.drew W1) (v:= .agg (aj FF).toArray) rfl (yieldsIf_load_mid (by rfl) 53 (.tmp 43) rfl b 0 (by go_simp) (aj FF) _ (λw' hw'=>hw'▸em c2) Lf.underlying53 rfl hi53) rfl ?_))
     refine wpAny_all (rs:=[9]) (by kernel_rfl) (List.cons_ne_nil _ _) (fF (sF rfl rfl 46 #[.agg (aj FF).toArray, .agg (av BB).toArray] (by go_simp) (.agg (aj MM).toArray) _ Hmx.out λw2 hb2=> ?_))
     refine wT 10 (.pointer (some ⟨b,0,none⟩)) ?_
     refine wT 11 (.pointer (some ⟨b,0,none⟩)) ?_
     have ht2:w2.there b 0 (aj MM).toArray.size:=ef hb2 (show b<(World.drew W1).heap.size from hbW) Ht53.out
     refine wpAny_all (rs:=[12]) (by kernel_rfl) (List.cons_ne_nil _ _) (fF (lg (by rfl) (by rfl) 53 (.tmp 51) (.tmp 49) (by rfl) b 0 (aj MM).toArray ?e4 ?e5 ht2 Hi53.out (all_oneCell_toArray (g8 MM)) (by rfl) ?e7))
     case e4=>go_simp
     case e5=>go_simp
     case e7=>
      refine wpAny_done (by kernel_rfl) ?_ _
      have HB2:Hid (Below (World.drew W1).heap.size (World.drew W1) w2):=hb2
      clear hb2 ht2
      go_wp2_with fail
      rw[o8]
      have hst:mB (.string ⟨(rest.drop n).toArray⟩)<mB (.string ⟨rest.toArray⟩):=by
       show(rest.drop n).toArray.size<rest.toArray.size
       simp;omega
      have hbw:Below wr.heap.size (wr.setCells b (8+(L++q).length%64) (av (rest.take n))) w2:=by
       rw[HH.out,←HW1.out]
       exact(Below.drew (Below.refl _ W1)).trans (HB2.out.mono (show wr.heap.size<=W1.heap.size from by rw[HWs.out];exact Nat.le_refl _))
      have hfu:=HD'.out.full (rest.take n) (by rw[HH.out,hlt];exact hfull) hbw (by rw[←HWs.out];exact hbW)
      rw[HH.out,HFF.out,HBB.out,HMM.out,List.append_assoc]at hfu
      have hmod:(L++(q++rest.take n)).length%64=0:=by
       have:=HH.out
       simp only[List.length_append,hlt]at this⊢
       omega
      have hgr:w.grownBy W1 (some b):=by rw[HW1.out];exact dz HG.out (dt _ _ _ _)
      exact⟨⟨q++rest.take n,rest.drop n,_,by rw[HQ.out];simp,rfl,by rw[hmod];rfl,hfu,dz hgr (dz (pB ((Below.drew (Below.refl _ W1)).trans HB2.out)) (dt _ _ _ _))⟩,hst⟩
   ·have hfb:(((h:Int)+(n:Int))==64)=false:=by rw[beq_eq_false_iff_ne];omega
    go_wp2_with fail
    rw[o8]
    have hlt:(rest.take n).length=n:=by simp;omega
    have hst:mB (.string ⟨(rest.drop n).toArray⟩)<mB (.string ⟨rest.toArray⟩):=by
     show(rest.drop n).toArray.size<rest.toArray.size
     simp;omega
    have hmo:=HD'.out.more (rest.take n) (by rw[HH.out,hlt];omega)
    have hmod:(L++(q++rest.take n)).length%64=h+n:=by
     have:=HH.out
     simp only[List.length_append,hlt]at this⊢
     omega
    rw[HH.out,List.append_assoc]at hmo
    exact⟨⟨q++rest.take n,rest.drop n,_,by rw[HQ.out];simp,rfl,by rw[hmod];simp,hmo,dz HG.out (dt _ _ _ _)⟩,hst⟩
end
section
variable{ql:Bool}
open Go.RowKit
theorem Lf.size57:((ac ql Tryd.prog).info? 57).map (·.size)=some 73:=by kernel_rfl
theorem FU(w:World):
 Calls (ac ql Tryd.prog) 29 #[] w λe w'=>e= .returned (.agg jM.toArray)/\Below w.heap.size w w':=by
 have hsz:jM.toArray.size=73:=by rw[List.size_toArray,eo]
 have hi:((ac ql Tryd.prog).info? 57).map (·.size)=some jM.toArray.size:=by rw[hsz];exact Lf.size57
 have hth:(w.alloc (.cells Tryd.zeroCells57 57)).there w.heap.size 0 jM.toArray.size:=by rw[hsz];exact cD _ _ _ _ _ rfl (by kernel_rfl)
 have Hth:Hid ((w.alloc (.cells Tryd.zeroCells57 57)).there w.heap.size 0 jM.toArray.size):=hth
 have Hth':Hid ((w.alloc (.cells Tryd.zeroCells57 57)).there w.heap.size 0 jM.length):=by show World.there _ _ _ jM.length;rw[eo];exact cD _ _ _ _ _ rfl (by kernel_rfl)
 have Hi:Hid (((ac ql Tryd.prog).info? 57).map (·.size)=some jM.toArray.size):=hi
 clear hsz hi hth
 go_enter Lf.func29,Tryd.ntmps29
 go_wp2_with (first
  |refine wpList_buildTo rfl 57 #[(0, .tmp 1)] rfl (some 2) rfl jM.toArray (by kernel_rfl) ?_
  |refine wpList_store_mid rfl 57 (.tmp 0) (.tmp 2) rfl w.heap.size 0 jM.toArray rfl rfl Hth.out Hi.out (all_oneCell_toArray (wG _ _ _)) ?_)
 exact bodyPost_ret (v:= .agg jM.toArray) (dn (p:=0) (ty:=57) (by kernel_rfl) _ _ w.heap.size 0 jM _ rfl (World.rangeAt_setCells_same _ _ _ _ Hth'.out) Lf.underlying57 rfl (by rw[eo];exact Lf.size57)) rfl ⟨rfl,cm (Nat.le_refl _) _ _ _ _ ((bR).alloc (Nat.le_refl _) _)⟩
end
section
variable{ql:Bool}
open Go.RowKit
theorem EY(x:Int)(h:0<=x)(w:World):
 Calls (ac ql Tryd.prog) 47 #[.int .u64 x] w λe w'=>e= .returned (.string ⟨(cg x.toNat 8).toArray⟩)/\Below w.heap.size w w':=by
 obtain⟨n,rfl⟩:=Int.eq_ofNat_of_zero_le h
 exact EZ n w
theorem F6(KS:List Int)(L blk:List UInt8)(w:World)(hbl:blk.length=64)(htl:blk.take (L.length%64)=L.drop (64*(L.length/64)))(hK:w.rangeAt 0 0 (aj KS))(hKl:KS.length=64)(h0:0<w.heap.size)
 (hlen:L.length<=576460752303423488):
 Calls (ac ql Tryd.prog) 31 #[.agg (iL (bu KS L (L.length/64)) blk L.length).toArray] w λe w'=>e= .returned (.string ⟨(fk KS L).toArray⟩)/\Below w.heap.size w w':=by
 have hD:=dH.made w KS L blk L.length 57 hbl htl
 generalize iL (bu KS L (L.length/64)) blk L.length=DC at*
 have HD:Hid (dH (w.alloc (.cells DC.toArray 57)) w.heap.size KS L blk L.length):=hD
 have HK:Hid (w.rangeAt 0 0 (aj KS)):=hK
 have Hlen:Hid (L.length<=576460752303423488):=hlen
 have hc:=hD.length
 have h8:8*(L.length:Int)<=9223372036854775807:=by omega
 clear hD hK hbl htl hlen
 go_enter Lf.func31,Tryd.ntmps31
 go_wp2_with fail
 refine(EY _ (by omega) _).mono ?_
 rintro e w1 ⟨rfl,hb1⟩
 rw[show(8*(L.length:Int)).toNat=8*L.length from by omega]
 have hz1:w.heap.size<w1.heap.size:=by have:=hb1.size;simp at this;omega
 have hD1:=HD.out.below hb1 (by simp)
 have hc1:=hD1.length
 have HD1:Hid (dH w1 w.heap.size KS L blk L.length):=hD1
 have Hb1:Hid (Below w.heap.size w w1):=((bR).alloc (Nat.le_refl _) _).trans (hb1.mono (by simp))
 have hos:(ByteArray.mk (cg (8*L.length) 8).toArray).size=8:=by show(cg (8*L.length) 8).toArray.size=8;simp[bT]
 generalize hO:cg (8*L.length) 8=O at*
 have HO:Hid (cg (8*L.length) 8=O):=hO
 clear hD1 hb1 hO hc
 go_wp2_with fail
 obtain⟨c,hcc⟩:∃c:Nat,c=(119- L.length%64)%64:=⟨_,rfl⟩
 rw[show((119-(L.length:Int))%64)=(c:Int)from by omega]
 refine(Lf.strings_Repeat (q:=ql) _ c _ (by omega) (by show 1*c<=_;omega)).mono ?_
 rintro e w2 ⟨rfl,hb2⟩
 have hz2:w.heap.size<w2.heap.size:=by have:=hb2.size;omega
 have HD2:Hid (dH w2 w.heap.size KS L blk L.length):=HD1.out.below hb2 hz1
 have Hb2:Hid (Below w.heap.size w w2):=Hb1.out.trans (hb2.mono (by omega))
 have HC:Hid (c=(119- L.length%64)%64):=hcc
 generalize hR:Lib.repeatL (ByteArray.mk #[0]).data.toList c=R at*
 have HR:Hid (Lib.repeatL (ByteArray.mk #[0]).data.toList c=R):=hR
 have hRl:R.length<=64:=by rw[←hR,Lib.repeatL_length];show c*1<=64;omega
 have hO8:O.length=8:=by rw[←HO.out,bT]
 clear hb2 hR hcc hc1 hos
 have hsd:(ByteArray.mk #[128]++ByteArray.mk R.toArray++ByteArray.mk O.toArray).data.toList=fK L:=by
  rw[fK,←HC.out,←HR.out,←HO.out]
  simp
 have hss:(ByteArray.mk #[128]++ByteArray.mk R.toArray++ByteArray.mk O.toArray).size=(fK L).length:=by
  rw[←hsd,Array.length_toList];rfl
 have hpl:(fK L).length<=73:=by rw[←hsd];simp;omega
 go_wp2_with fail
 generalize ByteArray.mk #[128]++ByteArray.mk R.toArray++ByteArray.mk O.toArray=sp at*
 refine(sE KS L blk sp w2 w.heap.size HD2.out (aK Hb2.out h0 HK.out) hKl h0 hz2 (by have:=Hlen.out;omega)).mono ?_
 rintro e w3 ⟨rfl,hg3,blk3,hD3⟩
 rw[hsd]at hD3
 have HG3:Hid (w2.grownBy w3 (some w.heap.size)):=hg3
 have HD3:Hid (dH w3 w.heap.size KS (L++fK L) blk3 (L.length+sp.size)):=hD3
 have hz3:w.heap.size<w3.heap.size:=by have:=hg3.size;omega
 have hmk:∀W,(Instr.makeSlice 51 (.int .i64 32) (.int .i64 32)).run (ac ql Tryd.prog) W= .ok (.slice (some ⟨W.heap.size,0,none⟩) 32 32) (W.alloc (.cells (madeCells #[.int .u8 0] 32) 5)):=
  λW=>run_make_row' (P:=(ac ql Tryd.prog)) 51 5 (.int .u8 0) 1 Lf.underlying51 Lf.info5 rfl .i64 .i64 32 (by omega) (by omega) W
 clear hg3 hD3 hsd hss hpl
 go_wp2
 have hHl:(bu KS (L++fK L) ((L++fK L).length/64)).length=8:=cc _ _ _
 have hwr:=HD3.out.words
 generalize hH:bu KS (L++fK L) ((L++fK L).length/64)=H at hHl hwr
 have HH:Hid (bu KS (L++fK L) ((L++fK L).length/64)=H):=hH
 have Hwr:Hid (w3.rangeAt w.heap.size 0 (aj H)):=hwr
 have HHl:Hid (H.length=8):=hHl
 clear hH hwr hHl hmk
 go_loopw [7,31] (λ_ i wr=>∃k:Nat,k<=32/\i= .int .i64 k/\wr=w3.alloc (.cells (pS H k).toArray 5)) (λ_ i _=>32-(intOf i).toNat)
 case atStart=>exact⟨0,by omega,rfl,by rw[dc];rfl⟩
 case round=>
  obtain⟨k,hk,rfl,rfl⟩:=hrel
  by_cases hlt:k<32
  ·have hg:=vN H k hlt
   have hln:=pm H k hk
   have hcw:=λo:Obj=>World.cell?_alloc_past (w:=w3) o w.heap.size (k/4) hz3
   have hcv:w3.cell? ⟨w.heap.size,k/4,none⟩=some (.int .u32 (H.getD (k/4) 0)):=fA Hwr.out (k/4) (by rw[HHl.out];omega)
   generalize hx:H.getD (k/4) 0=x at hcv
   have HX:Hid (H.getD (k/4) 0=x):=hx
   clear hx
   have b1:(k:Int)/4<8:=by omega
   have b2:(0:Int)<=(k:Int)/4:=by omega
   have b3:(0:Int)<=24- 8*((k:Int)%4):=by omega
   have hx0:Hid (0<=x):=by show 0<=x;rw[←HX.out,←HH.out];exact mj _ _ _ _
   go_wp2
   go_roundw
   case rel=>exact⟨k+1,by omega,by go_num,by rw[vM H k hlt _ (vL H k x HX.out hx0.out)]⟩
   case measure=>simp[intOf];omega
  ·have hk32:k=32:=by omega
   subst hk32
   clear hlt hk
   rw[vO]
   have hcv:=run_convert_bytes_back (P:=(ac ql Tryd.prog)) (w3.alloc (.cells (av ((List.range 32).map (mK H))).toArray 5)) 51 9 5 ⟨w3.heap.size,0,none⟩ 32 ((List.range 32).map (mK H)) Lf.underlying51 Lf.underlying5 Lf.underlying9
    (λj hj=>by rw[Addr.add_mid,World.cell?_alloc_at _ _ _ _ rfl];simp[av]at hj⊢;simp[hj])
   rw[show((List.range 32).map (mK H)).length=32 from by simp]at hcv
   generalize hZ:(List.range 32).map (mK H)=Z at*
   have HZ:Hid (fk KS L=Z):=by show fk KS L=Z;rw[fk,HH.out,hZ]
   clear hZ
   go_wp2
   go_ret
   refine⟨nA HZ.out.symm, ?_⟩
   exact(lF Hb2.out HG3.out (Nat.le_refl _)).alloc (by omega) _
end
end Go.Proofs.YtkmoglhgkcnalaaDoor.L1
