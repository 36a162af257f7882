/- A part of what the last text of the claim imports: texts laid together, and made small, by a program. -/
import Derived.Conc.Own
import Derived.Below
import Derived.KernelRfl
import Derived.Laws.Sem
import GoSem.Dispatch
import GoSem.Step
import Derived.RunT
set_option maxHeartbeats 16000000
set_option maxRecDepth 100000
open Array renaming getElem?_setIfInBounds_self_of_lt->i8,replicate->kG,all_eq_true'->Qm,toList_map->RD,getElem?_mapIdx->RF,map_congr_left->RH,ext->RL,ext_getElem?->Sd
open Bool renaming and_eq_true->i5,false_eq_true->Q7
open ByteArray renaming empty->Qy
open Go.Builtin renaming firstCells->Rj,zeroCells->Rm,append_->RG,lenOf->RZ
open Go.Extern renaming findNext->RY,find->Sr
open Go.Frame renaming enter->Qc
open Go.GStep renaming after->AS
open Go.Instr renaming loadAt->AT,fieldAt->BY,sliceBounds->Qq,sliceBound->Qx,alloc->Qz,sliceAt->QG,endLoop->QO,slice->R0,makeSlice->R6,storeAt->Rc,getLoop->Re,sureAddr->Rl,index->S6,extract->SC,makeFunc->SL,box->SQ
open Go.IntKind renaming i64->Q4
open Go.Region renaming wanted->mw
open Go.Sem renaming bind->Qo,run_bind->QC,runT->QL
open Go.World renaming setCell->Q6,frozen?->Qa,cell?->Qe
open List renaming map_cons->IN,mem_cons->PZ,map_nil->Ri,map_toArray->Rk,mem_map->Rs
open Nat renaming le_refl->d5,lt_of_lt_of_le->d6,le_trans->By
open Option renaming map_some->eZ,getD_some->Q2,bind_some->QA
namespace Go
@[match_pattern] abbrev Value.i(n:Int):Value:= .int .i64 n
abbrev Value.pk(b k:Nat):Value:= .pointer (some ⟨b,k,none⟩)
abbrev Value.sk(b n c:Nat):Value:= .slice (some ⟨b,0,none⟩) n c
@[match_pattern] abbrev Value.s(b:ByteArray):Value:= .string b
abbrev World.z(w:World):Nat:=w.heap.size
abbrev World.aC(w:World)(c:Array Value)(t:TypeId):World:=w.alloc (.cells c t)
abbrev _root_.ByteArray.l(b:ByteArray):List UInt8:=b.data.toList
end Go
namespace Go.Value
abbrev pt(b:Nat):Value:= .pk b 0
end Go.Value
namespace Go.Proofs.YtkmoglhgkcnalaaGreatDoor
open Go
variable{n b i N l m k j b3 b4 b7 b9 Wg wd:Nat}{w w' w0 wL wM wE:World}{fr:Frame}{v:Value}{cs:List Frame}{args cv:Array Value}{V RO D V0:Nat->Prop}{q main listen ql:Bool}{g:Goroutine}{a:Act}{K:List Item}{P PL PM:Program}{x:Operand}{ops:Array Oper}{KS:List Int}{t u:TypeId}{o:Oper}{f:FuncId}{es:Array Event}{Goal:Goroutine->World->Prop}{fn:Func}{rest:List Nat}{ds:List Deferred}{F:List (Nat×Value)}{e:Event}{listed:Array Bool}{c:Int}{s msg key sig:ByteArray}{ρ:Nat->Nat}{ev:Operand->Value}{Post:Value->World->Prop}
section
open Go.RowKit
abbrev Bw(w w':World):Prop:=Below w.heap.size w w'
theorem k_{p:Prop}(h:p:=by kernel_rfl):p:=h
theorem o_{p:Prop}(h:p:=by omega):p:=h
theorem d_{p:Prop}(h:p:=by decide):p:=h
theorem s_{p:Prop}(h:p:=by simp):p:=h
theorem gA{a:Type}{l:Array a}{v:a}(h:l[i]?=some v):∃h:i<l.size,l[i]=v:=Array.getElem?_eq_some_iff.1 h
theorem mG{a:Type}{l:List a}{v:a}(h:l[i]?=some v):v∈l:=List.mem_of_getElem? h
theorem sN{a:Type}{l:Array a}{v:a}(h:i≠j):(l.setIfInBounds i v)[j]?=l[j]?:=Array.getElem?_setIfInBounds_ne h
theorem bR:Below N w w:=Below.refl _ _
end
section
open Go
def aS(ρ:Nat->Nat)(a:Addr):Addr:={a with block:=ρ a.block}
def kv(ρ:Nat->Nat):Fn->Fn
 | .yield l=> .yield (ρ l)
 |f=>f
def PI(ρ:Nat->Nat):Value->Value
 | .pointer a=> .pointer (a.map (aS ρ))
 | .slice a l c=> .slice (a.map (aS ρ)) l c
 | .map r=> .map (r.map ρ)
 | .chan r=> .chan (r.map ρ)
 | .func fn first cap=> .func (kv ρ fn) (first.map (PI ρ)) (cap.map (PI ρ))
 | .iface t v=> .iface t (PI ρ v)
 | .agg cs=> .agg (cs.map (PI ρ))
 | .tuple vs=> .tuple (vs.map (PI ρ))
 | .bool b=> .bool b
 | .int k n=> .int k n
 | .float k b=> .float k b
 | .complex k a b=> .complex k a b
 | .string s=> .string s
 | .nilFunc=> .nilFunc
 | .nilIface=> .nilIface
def pP:Fn->Bool
 | .yield _=>false
 |_=>true
mutual
def bD:Value->Bool
 | .pointer a=>a.isNone
 | .slice a _ _=>a.isNone
 | .map r=>r.isNone
 | .chan r=>r.isNone
 | .func fn ⟨first⟩ ⟨cap⟩=>pP fn&&jO first&&jO cap
 | .iface _ v=>bD v
 | .agg ⟨cs⟩=>jO cs
 | .tuple ⟨vs⟩=>jO vs
 | .bool _| .int _ _| .float _ _| .complex _ _ _| .string _| .nilFunc| .nilIface=>true
def jO:List Value->Bool
 |[]=>true
 |v::r=>bD v&&jO r
end
theorem iB:∀{l:List Value},jO l=true->∀v∈l,bD v=true
 |[],_,v,h=>by cases h
 |x::r,h,v,hv=>by
  simp only[jO,i5]at h;rcases PZ.1 hv with rfl|hv
  ·exact h.1
  ·exact iB h.2 v hv
theorem jQ{f:Value->Value}{cs:Array Value}(h:∀v∈cs,f v=v):cs.map f=cs:=by
 apply RL
 ·simp
 ·intro i b a;simp[h cs[i] (Array.getElem_mem _)]
theorem rH(a:Nat->Nat){fn:Fn}(h:pP fn=true):kv a fn=fn:=by cases fn<;>first|rfl|simp[pP]at h
theorem bI(i:Nat->Nat):∀v:Value,bD v=true->PI i v=v:=by
 intro v;induction v using PI.induct with
 |case1 a=>intro h;simp[bD]at h;subst h;simp[PI]
 |case2 a l c=>intro h;simp[bD]at h;subst h;simp[PI]
 |case3 r=>intro h;simp[bD]at h;subst h;simp[PI]
 |case4 r=>intro h;simp[bD]at h;subst h;simp[PI]
 |case5 m first e g f=>
  intro h;obtain⟨first⟩:=first
  obtain⟨e⟩:=e;simp only[bD,i5]at h;rw[PI,rH i h.1.1,jQ λv b=>g v b (iB h.1.2 v (by simpa using b)),jQ λv b=>f v b (iB h.2 v (by simpa using b))]
 |case6 t v d=>intro h;simp[bD]at h;simp[PI,d h]
 |case7 k d=>
  intro h;obtain⟨k⟩:=k;simp only[bD]at h;rw[PI,jQ λv b=>d v b (iB h v (by simpa using b))]
 |case8 j d=>
  intro h;obtain⟨j⟩:=j;simp only[bD]at h;rw[PI,jQ λv b=>d v b (iB h v (by simpa using b))]
 |_=>intro _;simp[PI]
def NW(ρ:Nat->Nat):Target->Target
 | .fn fn cap=> .fn (kv ρ fn) (cap.map (PI ρ))
 | .nil=> .nil
 | .builtin b a t c=> .builtin b a t c
 | .collected r=> .collected (ρ r)
 | .coroexit c=> .coroexit (ρ c)
def mJ(ρ:Nat->Nat)(d:Deferred):Deferred:=⟨NW ρ d.target,d.args.map (PI ρ)⟩
def xj(ρ:Nat->Nat)(l:Loop):Loop:={l with tmps:=l.tmps.map (PI ρ),defers:=ρ l.defers}
def em(ρ:Nat->Nat):Obj->Obj
 | .cells c e f=> .cells (c.map (PI ρ)) e f
 | .pending c e=> .pending (c.map (PI ρ)) e
 | .view a t=> .view (aS ρ a) t
 | .number a l=> .number (aS ρ a) l
 | .map es c=> .map (es.map λe=>⟨PI ρ e.key,PI ρ e.val,e.born⟩) c
 | .chan cap buf closed s r t=> .chan cap (buf.map (PI ρ)) closed s r t
 | .stringIter s p=> .stringIter s p
 | .mapIter m a b c=> .mapIter (m.map ρ) a b c
 | .loop l=> .loop (xj ρ l)
 | .deferred ds=> .deferred (ds.map (List.map (mJ ρ)))
 | .coro p=> .coro p
 | .finalizers fs r=> .finalizers (fs.map λx=>(ρ x.1,mJ ρ x.2)) r
def jU:FuncId:=131
def dL:Tmp:=54
def BN:FuncId:=4
def P6:List Nat:=[1,4,27,29,34,35,40,41]
def dX(f:FuncId):Nat:=if f=jU then 1 else if f=BN then 2 else 0
def pr(z t:Nat):Bool:=(z==1&&t==dL)||(z==2&&P6.contains t)
theorem kS:dX jU=1:=by simp[dX]
theorem mm(t:Nat):pr 1 t=(t==dL):=by simp[pr]
theorem PF(t:Nat):pr 0 t=false:=rfl
theorem Df:dX f=1↔f=jU:=by
 unfold dX;split
 ·simp_all
 ·split<;>simp_all
def fh:Nat:=0
def sF:TypeId:=162
def mO(x:Nat):Operand->Bool
 | .tmp t=> !(pr x t)
 | .func _=>true
 | .const v=>bD v
 | .global _=>false
def JE:Builtin->Bool
 | .append| .cap| .copy| .len| .min| .unsafeSliceData| .unsafeString=>true
 |_=>false
def oX(x:Nat)(c:Call):Bool:=
 c.args.all (mO x)&&match c.callee with
  | .builtin b=>JE b
  | .value f=>mO x f
  | .invoke _ _=>false
def kL(z:Nat):Op->Bool
 | .move x| .assign x| .box _ x| .load _ x| .nilCheck x| .unOp _ _ x| .convert _ _ x| .makeInterface _ x| .fieldAddr _ x _| .field _ x _| .extract x _| .panic x=>mO z x
 | .alloc _=>true
 | .pick a b c=>mO z a&&mO z b&&mO z c
 | .build _ ps| .buildSlice _ _ ps=>ps.all λx=>mO z x.2
 | .store _ a b| .binOp _ _ a b _| .makeSlice _ a b| .indexAddr _ a b| .index _ a b=>mO z a&&mO z b
 | .makeFunc fn a b=>pP fn&&a.all (mO z)&&b.all (mO z)
 | .slice _ x l h m=>mO z x&&l.all (mO z)&&h.all (mO z)&&m.all (mO z)
 | .call c=>oX z c
 |_=>false
def GB(z:Nat)(o:Oper):Bool:=
 (kL z o.op&& !(o.dst.any (pr z)))||
 (z==1&&match o.op with
   | .indexAddr _ (.global g) i=>g==fh&&mO z i&&o.dst==some dL
   | .load ty (.tmp t)=>ty==sF&&t==dL&&o.dst !=some dL
   |_=>false)
def ji(z:Nat):Code->Bool
 | .skip| .exit _| .label _| .ret| .refuse _=>true
 | .region _ ops _=>ops.all (GB z)
 | .seq a b=>ji z a&&ji z b
 | .cond c a b=>mO z c&&ji z a&&ji z b
 | .block _ b| .loop b| .scope b=>ji z b
 | .rangeFunc f _ a b=>z==0&&mO z f&&ji z a&&ji z b
 | .goto _=>false
def rN(f:FuncId)(c:Code):Bool:=ji (dX f) c&&dX f !=2
theorem GD{c:Code}(h:rN f c=true):ji (dX f) c=true:=by simp only[rN,i5]at h;exact h.1
theorem GC{c:Code}(h:rN f c=true):dX f≠2:=by simp only[rN,i5]at h;simpa using h.2
theorem LB{c:Code}(h:dX f=0)(a:ji 0 c=true):rN f c=true:=by simp[rN,h,a]
def cJ:Obj->Bool
 | .cells _ _ _| .stringIter _ _| .view _ _| .number _ _=>true
 | .deferred ds=>(ds.getD []).isEmpty
 | .loop l=>ji 0 l.assign&&ji 0 l.body&&l.pending.all (ji 0)&&dX l.fn==0
 |_=>false
def fD:Mark->Bool
 | .extern _| .noRoom=>true
 |_=>false
def fE:Halt->Prop
 | .unsupported (.initOrder _)=>False
 | .blocked| .waiting| .goexit=>False
 |_=>True
def aT(w:World):Prop:=∀(b:Nat) (o:Obj),w.heap[b]?=some o->cJ o=true
inductive aG (ρ:Nat->Nat) (PL PM:Program) {α β:Type} (f:α->β):Sem α->Sem β->Prop
 |pure (a:α):aG ρ PL PM f (.pure a) (.pure (f a))
 |load {a:Addr} {k:Value->Sem α} {k':Value->Sem β} (h:∀v,aG ρ PL PM f (k v) (k' (PI ρ v))):aG ρ PL PM f (.load .plain a k) (.load .plain (aS ρ a) k')
 |store {a:Addr} {v:Value} {k:Sem α} {k':Sem β} (h:aG ρ PL PM f k k'):aG ρ PL PM f (.store .plain a v k) (.store .plain (aS ρ a) (PI ρ v) k')
 |new {o:Obj} {k:Nat->Sem α} {k':Nat->Sem β} (ho:cJ o=true) (h:∀b,aG ρ PL PM f (k b) (k' (ρ b))):aG ρ PL PM f (.new o k) (.new (em ρ o) k')
 |shape {r:Nat} {k:Option (TypeId×Nat)->Sem α} {k':Option (TypeId×Nat)->Sem β} (h:∀s,aG ρ PL PM f (k s) (k' s)):aG ρ PL PM f (.shape r k) (.shape (ρ r) k')
 |freeze {a:Addr} {n:Nat} {k:Sem α} {k':Sem β} (h:aG ρ PL PM f k k'):aG ρ PL PM f (.freeze a n k) (.freeze (aS ρ a) n k')
 |frozen {a:Addr} {k:Bool->Sem α} {k':Bool->Sem β} (h:∀b,aG ρ PL PM f (k b) (k' b)):aG ρ PL PM f (.frozen a k) (.frozen (aS ρ a) k')
 |getObj {r:Nat} {k:Obj->Sem α} {k':Obj->Sem β} (h:∀o,cJ o=true->aG ρ PL PM f (k o) (k' (em ρ o))):aG ρ PL PM f (.getObj r k) (.getObj (ρ r) k')
 |setObj {r:Nat} {o:Obj} {k:Sem α} {k':Sem β} (ho:cJ o=true) (h:aG ρ PL PM f k k'):aG ρ PL PM f (.setObj r o k) (.setObj (ρ r) (em ρ o) k')
 |choose {q:Question} {k:Nat->Sem α} {k':Nat->Sem β} (h:∀n,aG ρ PL PM f (k n) (k' n)):aG ρ PL PM f (.choose q k) (.choose q k')
 |program {k:Program->Sem α} {k':Program->Sem β} (h:aG ρ PL PM f (k PL) (k' PM)):aG ρ PL PM f (.program k) (.program k')
 |mark {m:Mark} {k:Sem α} {k':Sem β} (hm:fD m=true) (h:aG ρ PL PM f k k'):aG ρ PL PM f (.mark m k) (.mark m k')
 |panic (v:Value):aG ρ PL PM f (.halt (.panic v)) (.halt (.panic (PI ρ v)))
 |dead {h:Halt} {s:Sem β} (d:fE h):aG ρ PL PM f (.halt h) s
 |deadMark {m:Mark} {h:Halt} {s:Sem β} (d:fE h):aG ρ PL PM f (.mark m (.halt h)) s
 |sys {c:Sys} {k:SysRet->Sem α} {s:Sem β} (d:∀r w,∃h w',(k r).run PL w= .halt h w'/\fE h/\(aT w->aT w')):aG ρ PL PM f (.sys c k) s
theorem aG.bind{j i e c:Type}{f:j->i}{g:e->c}{s:Sem j}{s':Sem i}{k:j->Sem e}{l:i->Sem c}(h:aG ρ PL PM f s s')(o:∀a,aG ρ PL PM g (k a) (l (f a))):aG ρ PL PM g (s>>=k) (s'>>=l):=by
 show aG ρ PL PM g (s.bind k) (s'.bind l);induction h with
 |pure a=>exact o a
 |load _ b=>exact .load b
 |store _ b=>exact .store (b)
 |new _ _ b=>exact .new ‹_› b
 |shape _ b=>exact .shape b
 |freeze _ b=>exact .freeze (b)
 |frozen _ b=>exact .frozen b
 |getObj _ b=>exact .getObj b
 |setObj _ _ b=>exact .setObj ‹_› b
 |choose _ b=>exact .choose b
 |program _ b=>exact .program (b)
 |mark _ _ b=>exact .mark ‹_› b
 |panic v=>exact .panic v
 |dead d=>exact .dead d
 |deadMark d=>exact .deadMark d
 |sys d=>
  refine .sys λr w=> ?_;obtain⟨x,m,n,p⟩:=d r w;exact⟨x,m,by rw[Sem.run_bind',n];rfl,p⟩
def aR(G:Nat)(D:Nat->Prop)(ρ ρ':Nat->Nat):Prop:=((∀x y,ρ' x=ρ' y->x=y)/\∀b,b<G↔ρ' b<G)/\∀b,D b->ρ' b=ρ b
structure cT (G T:Nat) (D:Nat->Prop) (ρ:Nat->Nat) (wL wM:World):Prop where
 inj:∀x y,ρ x=ρ y->x=y
 obj:∀b,D b->∃o,wL.heap[b]?=some o/\cJ o=true/\∀ρ',aR G D ρ ρ'->wM.heap[ρ b]?=some (em ρ' o)
 tape:∀i,wL.drawn+i<T->wM.tape (wM.drawn+i)=wL.tape (wL.drawn+i)
 glob:∀b,b<G↔ρ b<G
 far:2<=G/\G<=wL.heap.size/\G<=wM.heap.size
 out:∀b,D b->G<=b
def lc(a b v:Nat):Nat:=if v=a then b else if v=b then a else v
theorem qp{a x y:Nat}(h:lc a b x=lc a b y):x=y:=by unfold lc at h;split at h<;>split at h<;>(try split at h)<;>(try split at h)<;>omega
theorem lO(a b:Nat):lc a b a=b:=by simp[lc]
theorem tl{a G:Nat}(h:b<G↔a<G)(v:Nat):v<G↔lc a b v<G:=by
 unfold lc;split
 ·subst v;exact h.symm
 ·split
  ·subst v;exact h
  ·exact Iff.rfl
theorem mQ{a v:Nat}(d:v≠a)(c:v≠b):lc a b v=v:=by simp[lc,d,c]
section
variable{G T:Nat}
theorem de{o:Obj}(h:w.heap[b]?=some o):b<w.heap.size:=(gA h).1
theorem cT.self(h:cT G T D ρ wL wM):aR G D ρ ρ:=⟨⟨h.inj,h.glob⟩,λ_ _=>rfl⟩
theorem cT.ltL(h:cT G T D ρ wL wM)(a:D b):b<wL.heap.size:=let ⟨_,h1,_⟩:=h.obj b a;de h1
theorem cT.ltM(h:cT G T D ρ wL wM)(a:D b):ρ b<wM.heap.size:=let ⟨_,_,_,h1⟩:=h.obj b a;de (h1 ρ h.self)
theorem cT.dom(h:cT G T D ρ wL wM){x:Nat}(k:∀c,aR G D ρ c->c x=ρ x):D x:=by
 refine Classical.byContradiction λl=> ?_;obtain⟨y,j,f,d⟩:∃y,(wM.heap.size<=y\/y<G)/\y≠ρ x/\(y<G↔ρ x<G):=by
  have:=h.far;by_cases n:ρ x<G
  ·by_cases i:ρ x=0
   ·exact⟨1,o_,o_,o_⟩
   ·exact⟨0,o_,o_,o_⟩
  ·by_cases i:ρ x=wM.heap.size
   ·exact⟨wM.heap.size+1,o_,o_,o_⟩
   ·exact⟨wM.heap.size,o_,λe=>i e.symm,o_⟩
 have m:aR G D ρ (λz=>lc (ρ x) y (ρ z)):=by refine⟨⟨λa b e=>h.inj _ _ (qp e),λb=>(h.glob b).trans (tl d _)⟩,λb g=>mQ (λe=>l (h.inj _ _ e▸g)) ?_⟩;have n:=h.ltM g;have p:=h.out b g;have o:=h.glob b;omega
 have:=k _ m;rw[lO]at this;exact f this
theorem cT.fresh(h:cT G T D ρ wL wM):∃a:Nat->Nat,((∀x y,a x=a y->x=y)/\∀b,b<G↔a b<G)/\a wL.heap.size=wM.heap.size/\∀b,D b->a b=ρ b:=
 ⟨λz=>lc (ρ wL.heap.size) wM.heap.size (ρ z),⟨λ_ _ e=>h.inj _ _ (qp e),λb=>(h.glob b).trans (tl (by have:=h.far;have:=h.glob wL.heap.size;omega) _)⟩,lO _ _,λb c=>mQ (λe=>by have:=h.inj _ _ e;have:=h.ltL c;omega) (by have:=h.ltM c;omega)⟩
end
structure jf (G T:Nat) (D:Nat->Prop) (ρ:Nat->Nat) (wL wM:World) (D':Nat->Prop) (ρ':Nat->Nat) (wL' wM':World):Prop where
 rel:cT G T D' ρ' wL' wM'
 ext:∀b,D b->D' b/\ρ' b=ρ b
 new:∀b,D' b->D b\/(wL.heap.size<=b/\wM.heap.size<=ρ' b)
 size:wM.heap.size<=wM'.heap.size
 sizeL:wL.heap.size<=wL'.heap.size
 keep:∀r,r<wM.heap.size->(∀b,D b->ρ b≠r)->wM'.heap[r]?=wM.heap[r]?
 os:wM'.os=wM.os
 output:wM'.output=wM.output
 tape:wM'.tape=wM.tape
 tapeL:wL'.tape=wL.tape
 keepL:∀r,r<wL.heap.size->¬D r->wL'.heap[r]?=wL.heap[r]?
 newL:∀r,wL.heap.size<=r->r<wL'.heap.size->D' r
 drawn:wL.drawn<=wL'.drawn
 drew:wM'.drawn+wL.drawn=wL'.drawn+wM.drawn
theorem jf.refl{G T:Nat}{a:Nat->Nat}{wL b:World}(h:cT G T D a wL b):jf G T D a wL b D a wL b:=
 ⟨h,λ_ c=>⟨c,rfl⟩,λ_ c=> .inl c,d5 _,d5 _,λ_ _ _=>rfl,rfl,rfl,rfl,rfl,λ_ _ _=>rfl,λ_ e d=>o_,d5 _,Nat.add_comm _ _⟩
theorem jf.trans{G T:Nat}{s q:Nat->Prop}{o j i:Nat->Nat}{wL p d k wL2 wM2:World}(h:jf G T D o wL p s j d k)(a:jf G T s j d k q i wL2 wM2):jf G T D o wL p q i wL2 wM2:=by
 refine⟨a.rel,λb e=> ?_,λb e=> ?_,By h.size a.size,By h.sizeL a.sizeL,λr l m=> ?_,a.os.trans h.os,a.output.trans h.output,a.tape.trans h.tape,a.tapeL.trans h.tapeL,λr l m=> ?_,λr c g=> ?_,By h.drawn a.drawn,by have:=h.drew;have:=a.drew;omega⟩
 ·obtain⟨c,g⟩:=h.ext b e;obtain⟨f,n⟩:=a.ext b c;exact⟨f,n.trans g⟩
 ·rcases a.new b e with c|⟨c,g⟩
  ·rcases h.new b c with f|⟨f,n⟩
   ·exact .inl f
   ·exact .inr ⟨f,by rw[(a.ext b c).2];exact n⟩
  ·exact .inr ⟨By h.sizeL c,By h.size g⟩
 ·rw[a.keep r (d6 l h.size) λb e=> ?_,h.keep r l m];rcases h.new b e with c|⟨_,g⟩
  ·rw[(h.ext b c).2];exact m b c
  ·omega
 ·rw[a.keepL r (d6 l h.sizeL) λe=> ?_,h.keepL r l m];rcases h.new r e with c|⟨c,_⟩
  ·exact m c
  ·omega
 ·by_cases f:r<d.heap.size
  ·exact(a.ext r (h.newL r c f)).1
  ·exact a.newL r o_ g
def j6(D:Nat->Prop)(ρ:Nat->Nat)(e:Event):Prop:=
 match e.loc with
 | .cell a=>e.sync=false/\∃b,D b/\ρ b=a.block
 | .obj r=>e.sync=false/\∃b,D b/\ρ b=r
 | .mark m=>fD m=true
 |_=>False
theorem j6.mono{D':Nat->Prop}{d a:Nat->Nat}(h:j6 D d e)(f:∀b,D b->D' b/\a b=d b):j6 D' a e:=by
 obtain⟨c,k,l⟩:=e;cases c<;>simp only[j6]at h⊢<;>first
  |exact h
  |(obtain⟨j,b,g,i⟩:=h;exact⟨j,b,(f b g).1,(f b g).2.trans i⟩)
inductive DF (G:Nat) {α β:Type} (F:(Nat->Nat)->α->β) (D:Nat->Prop) (ρ:Nat->Nat):Result α->World->Result β->World->Prop
 |ok {a:α} {a':β} {wL wM:World} (h:∀ρ',aR G D ρ ρ'->a'=F ρ' a):DF G F D ρ (.ok a wL) wL (.ok a' wM) wM
def ID{α:Type}:Result α->World->Prop
 | .ok _ w,w'=>w'=w
 |_,_=>False
def pT:Value->Bool
 | .agg _| .tuple _=>false
 |_=>true
theorem yQ(a:Nat->Nat)(v:Value):pT (PI a v)=pT v:=by cases v<;>simp[PI,pT]
section
variable{α β:Type}{p:Program}
theorem gQ{m:Mode}{a:Addr}{k:Sem α}(hv:pT v=false):∃b,(Sem.store m a v k).run p w= .halt (.stuck b) w:=by cases v<;>simp[pT]at hv<;>exact⟨_,rfl⟩
theorem gf{m:Mode}{a:Addr}{k:Sem α}(hv:pT v=true):(Sem.store m a v k).run p w=match w.cell? a with
 |some _=>if w.frozen? a then .halt (.unsupported (.unsafePointer "a write to bytes that a string shares")) w else k.run p (w.setCell a v)
 |none=>match w.farStore p a v (m== .atomic)with
  | .ok (w,_)=>k.run p w
  | .error h=> .halt h w:=by cases v<;>simp[pT]at hv<;>rfl
theorem mW{m:Mode}{a:Addr}{k:Sem α}(hv:pT v=true):(Sem.store m a v k).runT p w es=match w.cell? a with
 |some _=>if w.frozen? a then(.halt (.unsupported (.unsafePointer "a write to bytes that a string shares")) w,es)else k.runT p (w.setCell a v) (es.push ⟨.cell a,true,m== .atomic⟩)
 |none=>match w.farStore p a v (m== .atomic)with
  | .ok (w,touched)=>k.runT p w (es++touched.toArray.map (⟨.cell ·,true,m== .atomic⟩))
  | .error h=>(.halt h w,es):=by cases v<;>simp[pT]at hv<;>rfl
end
section
variable{G T:Nat}
theorem Dl{a:Addr}(h:w.cell? a=some v):∃c e f,w.heap[a.block]?=some (.cells c e f)/\a.spot=none/\c[a.off]?=some v:=by
 unfold Qe at h;split at h
 ·rename_i c e f g;split at h
  ·cases h
  ·rename_i b;exact⟨c,e,f,g,by cases d:a.spot with|none=>rfl|some _=>simp[d]at b,h⟩
 ·cases h
theorem Dm{a:Addr}{c:Array Value}{e:TypeId}{f:Nat×Nat}(h:w.heap[a.block]?=some (.cells c e f))(b:a.spot=none):w.cell? a=c[a.off]?:=by unfold Qe;simp[h,b]
theorem wn(a:Nat->Nat)(v:Value):(PI a v).bytes?=v.bytes?:=by cases v<;>simp[PI,Value.bytes?]
theorem yR(a:Nat->Nat)(v:Value)(bs:List UInt8):(PI a v).ofBytes bs=v.ofBytes bs:=by cases v<;>simp[PI,Value.ofBytes]
theorem ot{u:Value}{bs:List UInt8}(h:v.ofBytes bs=some u):∀a,PI a u=u:=by
 intro a;unfold Value.ofBytes at h;split at h
 ·split at h<;>first|(cases h;simp[PI];done)|cases h
 ·split at h
  ·cases h;simp[PI]
  ·cases h
 ·split at h
  ·cases h;simp[PI]
  ·cases h
 ·split at h
  ·cases h;simp[PI]
  ·cases h
 ·cases h
theorem ol(p:Program)(b:Nat->Nat)(c:Array Value)(e:TypeId):∀f x a,seenCells p (c.map (PI b)) e f x a=seenCells p c e f x a
 |0,_,_=>rfl
 |f+1,x,a=>by
  unfold seenCells;simp only[Array.getElem?_map,ol p b c e f];split
  ·rfl
  split
  ·rfl
  split
  ·rfl
  rename_i i s _;cases c[i]? with
  |none=>rfl
  |some v=>simp only[eZ,wn]
theorem yq(p:Program)(g:Nat->Nat){a:Addr}{k:Addr}{b:Bool}{c:Array Value}{e:TypeId}{fr:Nat×Nat}(h:w.heap[a.block]?=some (.cells c e fr))(o:w'.heap[g a.block]?=some (.cells (c.map (PI g)) e fr)):
 w'.seen p (aS g a) u (aS g k) b=(w.seen p a u k b).map λx=>(x.1.map (PI g),x.2):=by
 unfold World.seen;simp only[aS,h,o,ol];by_cases n:(k.spot.isSome||a.spot.isSome)=true
 ·rw[if_pos n,if_pos n];rfl
 rw[if_neg n,if_neg n];cases plainCell p p.depth u k.off with
 |none=>rfl
 |some j=>
  dsimp only;cases Option.map (λx=>x.length) j.bytes? with
  |none=>rfl
  |some d=>
   dsimp only;cases byteOfCell p p.depth u k.off with
   |none=>rfl
   |some i=>
    dsimp only;by_cases m:p.cellsOf e=0
    ·rw[if_pos m,if_pos m];rfl
    rw[if_neg m,if_neg m];cases byteOfCell p p.depth e (a.off%p.cellsOf e)with
    |none=>rfl
    |some l=>
     dsimp only;cases seenCells p c e (d+1) (a.off/p.cellsOf e*p.bytesOf e+l+i) (a.off/p.cellsOf e*p.bytesOf e+l+i+d)with
     |error x=>rfl
     |ok f=>
      cases b with
      |false=>rfl
      |true=>
       match f with
       |[]=>rfl
       |[(_,s,bs)]=>
        show(if (decide (s≠a.off/p.cellsOf e*p.bytesOf e+l+i)||decide (bs.length≠d))=true then _ else _)=Except.map _ (if (decide (s≠a.off/p.cellsOf e*p.bytesOf e+l+i)||decide (bs.length≠d))=true then _ else _);generalize (decide (s≠a.off/p.cellsOf e*p.bytesOf e+l+i)||decide (bs.length≠d))=q;cases q<;>rfl
       |_::_::_=>rfl
theorem lS{p:Program}{d:Addr}{k:Addr}{b:Bool}{y:Array Value×TypeId×(Nat×Nat)×Nat×Value×List (Nat×Nat×List UInt8)}(a:w.seen p d u k b= .ok y):∃c e f,w.heap[d.block]?=some (.cells c e f):=by
 refine Classical.byContradiction λq=> ?_;unfold World.seen at a;by_cases j:(k.spot.isSome||d.spot.isSome)=true
 ·rw[if_pos j]at a;cases a
 rw[if_neg j]at a;cases n:plainCell p p.depth u k.off with
 |none=>rw[n]at a;cases a
 |some g=>
  simp only[n]at a;cases m:Option.map (λx=>x.length) g.bytes? with
  |none=>simp only[m]at a;cases a
  |some i=>
   simp only[m]at a;cases l:byteOfCell p p.depth u k.off with
   |none=>simp only[l]at a;cases a
   |some r=>
    simp only[l]at a;cases h:w.heap[d.block]? with
    |none=>simp only[h]at a;cases a
    |some o=>
     cases o<;>first|exact q ⟨_,_,_,h⟩|(simp only[h]at a;cases a)
theorem wU(p:Program)(g:Nat->Nat){a:Addr}{k:Addr}{b:Bool}{c:Array Value}{e:TypeId}{fr:Nat×Nat}(h:w.heap[a.block]?=some (.cells c e fr))(o:w'.heap[g a.block]?=some (.cells (c.map (PI g)) e fr)){j:List Addr}(hv:w.viewLoad p a u k b= .ok (v,j)):
 w'.viewLoad p (aS g a) u (aS g k) b= .ok (v,j.map (aS g))/\(∀i,PI i v=v)/\∀x∈j,x.block=a.block:=by
 unfold World.viewLoad at hv⊢;rw[yq p g h o];cases m:w.seen p a u k b with
 |error x=>rw[m]at hv;cases hv
 |ok y=>
  obtain⟨t,s,q,first,d,f⟩:=y;rw[m]at hv;simp only[Except.map,bind,Except.bind]at hv⊢;cases l:d.ofBytes (f.flatMap λx=>(x.2.2.drop (first- x.2.1)).take (first+((d.bytes?.map (·.length)).getD 0)- max first x.2.1))with
  |none=>simp only[l]at hv;cases hv
  |some r=>
   simp only[l]at hv⊢;cases hv;refine⟨?_,ot l,λx n=> ?_⟩
   ·simp[aS,pure,Except.pure,Function.comp_def]
   ·obtain⟨y,_,rfl⟩:=Rs.1 n;rfl
theorem wh{b:Type}(a:Nat->Nat)(g:Array Value->b->Except String (Array Value))(d:∀c x,g (c.map (PI a)) x=(g c x).map (Array.map (PI a))):∀(xs:List b) (c:Array Value),xs.foldlM g (c.map (PI a))=(xs.foldlM g c).map (Array.map (PI a))
 |[],_=>rfl
 |x::xs,c=>by
  rw[List.foldlM_cons,List.foldlM_cons,d];cases g c x with
  |error y=>rfl
  |ok e=>exact wh a g d xs e
theorem iL(p:Program)(ρ:Nat->Nat){at_:Addr}{k:Addr}{b:Bool}{c:Array Value}{e:TypeId}{fr:Nat×Nat}(h:w.heap[at_.block]?=some (.cells c e fr))(h':w'.heap[ρ at_.block]?=some (.cells (c.map (PI ρ)) e fr)){w1:World}{tc:List Addr}(hv:w.viewStore p at_ u k v b= .ok (w1,tc)):
 ∃c1,w1={w with heap:=w.heap.setIfInBounds at_.block (.cells c1 e fr)}/\w'.viewStore p (aS ρ at_) u (aS ρ k) (PI ρ v) b= .ok ({w' with heap:=w'.heap.setIfInBounds (ρ at_.block) (.cells (c1.map (PI ρ)) e fr)},tc.map (aS ρ))/\∀x∈tc,x.block=at_.block:=by
 have hce:∀y,w.seen p at_ u k b= .ok y->y.1=c/\y.2.1=e/\y.2.2.1=fr:=by
  intro y hy;unfold World.seen at hy;simp only[h]at hy;by_cases hk:(k.spot.isSome||at_.spot.isSome)=true
  ·rw[if_pos hk]at hy;cases hy
  rw[if_neg hk]at hy;cases h1:plainCell p p.depth u k.off with
  |none=>rw[h1]at hy;cases hy
  |some like=>
   simp only[h1]at hy;cases h2:Option.map (λx=>x.length) like.bytes? with
   |none=>simp only[h2]at hy;cases hy
   |some size=>
    simp only[h2]at hy;cases h3:byteOfCell p p.depth u k.off with
    |none=>simp only[h3]at hy;cases hy
    |some β=>
     simp only[h3]at hy;by_cases hs:p.cellsOf e=0
     ·rw[if_pos hs]at hy;cases hy
     rw[if_neg hs]at hy;cases h4:byteOfCell p p.depth e (at_.off%p.cellsOf e)with
     |none=>simp only[h4]at hy;cases hy
     |some b0=>
      simp only[h4]at hy;cases h5:seenCells p c e (size+1) (at_.off/p.cellsOf e*p.bytesOf e+b0+β) (at_.off/p.cellsOf e*p.bytesOf e+b0+β+size)with
      |error x=>simp only[h5]at hy;cases hy
      |ok cells=>
       simp only[h5]at hy;cases b with
       |false=>cases hy;exact⟨rfl,rfl,rfl⟩
       |true=>
        match cells,hy with
        |[],hy=>cases hy
        |[(_,s,bs)],hy=>
         dsimp only[bind,Except.bind]at hy;rw[if_pos rfl]at hy;split at hy
         ·cases hy
         ·cases hy;exact⟨rfl,rfl,rfl⟩
        |_::_::_,hy=>cases hy
 unfold World.viewStore at hv⊢;rw[yq p ρ h h',wn];by_cases ht:(!tight p p.depth u)=true
 ·rw[if_pos ht]at hv;cases hv
 rw[if_neg ht]at hv⊢;cases hq:w.seen p at_ u k b with
 |error x=>rw[hq]at hv;cases hv
 |ok y=>
  obtain⟨h1,h2,h3⟩:=hce y hq;obtain⟨c1,e1,fr1,first,like,cells⟩:=y;dsimp only at h1 h2 h3;subst h1 h2 h3;rw[hq]at hv;simp only[Except.map,bind,Except.bind]at hv⊢;cases hb:v.bytes? with
  |none=>simp only[hb]at hv;cases hv
  |some bytes=>
   simp only[hb]at hv⊢;by_cases hn:some bytes.length≠Option.map (λx=>x.length) like.bytes?
   ·rw[if_pos hn]at hv;cases hv
   rw[if_neg hn]at hv⊢;rw[wh ρ]
   ·generalize (List.foldlM (m:=Except String) _ c1 cells)=q at hv⊢;cases q with
    |error x=>cases hv
    |ok c2=>
     cases hv;refine⟨c2,rfl, ?_,λx hx=> ?_⟩
     ·simp[aS,pure,Except.pure,Except.map,Function.comp_def]
     ·obtain⟨y,_,rfl⟩:=Rs.1 hx;rfl
   ·intro c x;by_cases h1:(decide (x.2.1<first)||decide (x.2.1+x.2.2.length>first+bytes.length))=true
    ·rw[if_pos h1,if_pos h1];rfl
    rw[if_neg h1,if_neg h1];by_cases h2:(decide (fr1.1<=x.1)&&decide (x.1<fr1.2))=true
    ·rw[if_pos h2,if_pos h2];rfl
    rw[if_neg h2,if_neg h2,Array.getElem?_map];cases c[x.1]? with
    |none=>rfl
    |some old=>
     simp only[eZ,yR];cases ho:old.ofBytes (List.take x.2.2.length (List.drop (x.2.1- first) bytes))with
     |none=>rfl
     |some new=>
      simp[pure,Except.pure,Except.map,Array.map_setIfInBounds,ot ho ρ]
theorem cT.turn(h:cT G T D ρ wL wM)(d:D b){wL' wM':World}{o o':Obj}(A:cJ o=true)(B:∀a,aR G D ρ a->o'=em a o)
 (F:wL'.heap[b]?=some o) (E:wM'.heap[ρ b]?=some o') (q:∀k,k≠b->wL'.heap[k]?=wL.heap[k]?) (p:∀k,k≠ρ b->wM'.heap[k]?=wM.heap[k]?)
 (w:wL'.heap.size=wL.heap.size) (v:wM'.heap.size=wM.heap.size) (n:wL'.tape=wL.tape) (m:wM'.tape=wM.tape) (u:wL'.drawn=wL.drawn) (I:wM'.drawn=wM.drawn) (g:wM'.os=wM.os) (f:wM'.output=wM.output):
 jf G T D ρ wL wM D ρ wL' wM':=by
 refine⟨⟨h.inj,λx z=> ?_,λi C=>by rw[n,m,u,I];exact h.tape i (by rw[←u];exact C),h.glob,by rw[w,v];exact h.far,h.out⟩,λ_ d=>⟨d,rfl⟩,λ_ d=> .inl d,o_,o_,λr _ j=>p r λe=>j b d e.symm,g,f,m,n,λr _ j=>q r λe=>j (e▸d),λr t s=>o_,o_,o_⟩;by_cases c:x=b
 ·subst c;exact⟨o,F,A,λa l=>by rw[E,B a l]⟩
 ·obtain⟨y,t,s,H⟩:=h.obj x z;exact⟨y,by rw[q x c];exact t,s,λa l=>by rw[p _ λe=>c (h.inj _ _ e)];exact H a l⟩
theorem cT.viewDom(h:cT G T D ρ wL wM)(f:D b){a:Addr}(g:wL.heap[b]?=some (.view a u)):D a.block:=by obtain⟨o,e,_,d⟩:=h.obj b f;rw[g]at e;cases e;refine h.dom λc i=> ?_;have:=(d c i).symm.trans (d ρ h.self);simp only[em,Option.some.injEq,Obj.view.injEq,and_true]at this;exact congrArg Addr.block this
theorem uV(h:cT G T D ρ wL wM){p:Program}{a:Addr}{k:Bool}(t:D a.block){m:List Addr}(hv:wL.farLoad p a k= .ok (v,m)):
 wM.cell? (aS ρ a)=none/\wM.farLoad p (aS ρ a) k= .ok (v,m.map (aS ρ))/\(∀l,PI l v=v)/\∀x∈m,D x.block:=by
 obtain⟨o,w,C,E⟩:=h.obj _ t;have g:=E ρ h.self;unfold World.farLoad at hv⊢;cases o<;>simp[cJ]at C<;>simp only[w]at hv<;>first|(cases hv;done)|skip
 rename_i b u;have r:=h.viewDom t w;cases d:wL.viewLoad p b u a k with
 |error x=>rw[d]at hv;cases hv
 |ok y=>
  rw[d]at hv;cases hv;obtain⟨J,i,B,n⟩:=h.obj _ r;obtain⟨c,e,f,s⟩:∃c e f,wL.heap[b.block]?=some (.cells c e f):=by
   unfold World.viewLoad at d;cases q:wL.seen p b u a k with
   |error x=>rw[q]at d;cases d
   |ok z=>exact lS q
  rw[i]at s;cases s;obtain⟨I,H,F⟩:=wU p ρ i (n ρ h.self) d;refine⟨?_, ?_,H,λx A=>by rw[F x A];exact r⟩
  ·unfold Qe;simp only[aS,g,em]
  ·simp only[aS,g,em];have j:=I;simp only[aS]at j;rw[j]
theorem ub(h:cT G T D ρ wL wM){p:Program}{a:Addr}{bb:Bool}(hb:D a.block){w1:World}{tc:List Addr}(hsame:∀ρ',aR G D ρ ρ'->PI ρ' v=PI ρ v)(hv:wL.farStore p a v bb= .ok (w1,tc)):
 ∃wM1,wM.cell? (aS ρ a)=none/\wM.farStore p (aS ρ a) (PI ρ v) bb= .ok (wM1,tc.map (aS ρ))/\jf G T D ρ wL wM D ρ w1 wM1/\∀x∈tc,D x.block:=by
 obtain⟨o,hL,hq,hM⟩:=h.obj _ hb;have hM0:=hM ρ h.self;unfold World.farStore at hv⊢;cases o<;>simp[cJ]at hq<;>simp only[hL]at hv<;>first|(cases hv;done)|skip
 rename_i at_ u;have hd:=h.viewDom hb hL;cases hl:wL.viewStore p at_ u a v bb with
 |error x=>rw[hl]at hv;cases hv
 |ok y=>
  rw[hl]at hv;cases hv;obtain⟨o2,hL2,hq2,hM2⟩:=h.obj _ hd;obtain⟨c,e,f,hc⟩:∃c e f,wL.heap[at_.block]?=some (.cells c e f):=by
   unfold World.viewStore at hl;by_cases ht:(!tight p p.depth u)=true
   ·rw[if_pos ht]at hl;cases hl
   rw[if_neg ht]at hl;cases hs:wL.seen p at_ u a bb with
   |error x=>rw[hs]at hl;cases hl
   |ok z=>exact lS hs
  rw[hL2]at hc;cases hc;obtain⟨c1,rfl,h1,h3⟩:=iL p ρ hL2 (hM2 ρ h.self) hl;refine⟨{wM with heap:=wM.heap.setIfInBounds (ρ at_.block) (.cells (c1.map (PI ρ)) e f)}, ?_, ?_,h.turn hd (o:= .cells c1 e f) (o':= .cells (c1.map (PI ρ)) e f) rfl (λρ' hA=> ?_) ?_ ?_ (λk hk=> ?_) (λk hk=> ?_) s_ s_ rfl rfl rfl rfl rfl rfl,λx hx=>by rw[h3 x hx];exact hd⟩
  ·unfold Qe;simp only[aS,hM0,em]
  ·simp only[aS,hM0,em];have h1':=h1;simp only[aS]at h1';rw[h1']
  ·obtain⟨c1',he,h1'',_⟩:=iL p ρ' hL2 (w':=wM) (by rw[hA.2 _ hd];exact hM2 ρ' hA) hl;have e1:aS ρ' at_=aS ρ at_:=(by simp[aS,hA.2 _ hd]);have e2:aS ρ' a=aS ρ a:=(by simp[aS,hA.2 _ hb]);rw[e1,e2,hsame ρ' hA,h1,hA.2 _ hd]at h1'';have hlt:=de (hM2 ρ h.self);have ec:c1'=c1:=by have h5:=congrArg (λw:World=>w.heap[at_.block]?) he;simp only[i8 (de hL2),Option.some.injEq,Obj.cells.injEq,and_true]at h5;exact h5.symm
   subst ec;simp only[Except.ok.injEq,Prod.mk.injEq,World.mk.injEq,and_true]at h1'';have h6:=congrArg (λhp:Array Obj=>hp[ρ at_.block]?) h1''.1;simp only[i8 hlt,Option.some.injEq]at h6;exact h6
  ·simp[de hL2]
  ·simp[de (hM2 ρ h.self)]
  ·rw[Array.getElem?_setIfInBounds,if_neg (λe=>hk e.symm)]
  ·rw[Array.getElem?_setIfInBounds,if_neg (λe=>hk e.symm)]
theorem aR.of_ran{D':Nat->Prop}{a c:Nat->Nat}{wL' wM':World}(h:jf G T D ρ wL wM D' a wL' wM')(e:aR G D' a c):aR G D ρ c:=
 ⟨e.1,λb d=>(e.2 b (h.ext b d).1).trans (h.ext b d).2⟩
end
section
variable{α β:Type}
theorem kM{xs:Array Obj}{f:Obj->Obj}(h:k≠i):(xs.modify i f)[k]?=xs[k]?:=by grind
theorem G3{xs:Array Obj}{o:Obj}(h:k≠i):(xs.setIfInBounds i o)[k]?=xs[k]?:=by grind
theorem vI(a:Nat->Nat)(o:Obj):cJ (em a o)=cJ o:=by
 cases o with
 |deferred b=>rcases b with _|_|⟨_,_⟩<;>rfl
 |_=>rfl
theorem tL{o:Obj}(h:cJ o=true):o.isChan=false:=by cases o<;>simp[cJ]at h<;>rfl
theorem dK{F:(Nat->Nat)->α->β}{G T:Nat}{k:Nat->Prop}{l d:Nat->Nat}{wL i g c:World}(n:jf G T D l wL i k d g c){s' s1:Sem β}{es1:Array Event}{r:Result α}{wL':World}
 (q:s'.runT PM i es=s1.runT PM c (es++es1)) (o:∀e∈es1,j6 k d e)
 (h:∃D' a f wM' b,s1.runT PM c (es++es1)=(f,es++es1++b)/\DF G F D' a r wL' f wM'/\jf G T k d g c D' a wL' wM'/\∀e∈b,j6 D' a e):
 ∃D' a f wM' b,s'.runT PM i es=(f,es++b)/\DF G F D' a r wL' f wM'/\jf G T D l wL i D' a wL' wM'/\∀e∈b,j6 D' a e:=by
 obtain⟨D',a,f,wM',b,t,p,m,s⟩:=h;refine⟨D',a,f,wM',es1++b,by grind,p,n.trans m,λe j=> ?_⟩;rcases Array.mem_append.1 j with j|j
 ·exact(o e j).mono m.ext
 ·grind
theorem oz{x:Halt}(a:ID (α:=α) (.halt x w) w'):False:=a
theorem Hy{b:Nat->Nat}{c:List Addr}{f:Bool}(h:∀x∈c,D x.block):∀e∈(c.map (aS b)).toArray.map (λa=>(⟨.cell a,f,false⟩:Event)),j6 D b e:=by intro e d;simp only[Rk,List.mem_toArray,Rs]at d;obtain⟨a,⟨x,g,rfl⟩,rfl⟩:=d;exact⟨rfl,x.block,h x g,rfl⟩
theorem fp(hV:∀w a b,World.farLoad PM w a b=World.farLoad PL w a b)(hS:∀w a v b,World.farStore PM w a v b=World.farStore PL w a v b){G T:Nat}(F:(Nat->Nat)->α->β):∀(s:Sem α) (s':Sem β) (D:Nat->Prop) (l:Nat->Nat) (wL C:World),cT G T D l wL C->(∀g,aR G D l g->aG g PL PM (F g) s s')->
 ∀(es:Array Event) (r:Result α) (wL':World),s.run PL wL=r->ID r wL'->wL'.drawn<=T->
  ∃D' g r' wM' a8,s'.runT PM C es=(r',es++a8)/\DF G F D' g r wL' r' wM'/\jf G T D l wL C D' g wL' wM'/\∀e∈a8,j6 D' g e:=by
 intro s;induction s with
 |pure a=>
  intro s' D l wL C z H es r wL' j I M;cases H l z.self;subst j;have:wL'=wL:=I;subst this;refine⟨D,l, .ok (F l a) C,C,#[],by simp[QL], .ok λg A=> ?_,jf.refl z,λe K=>by simp at K⟩;have:=H g A;generalize F l a=x at this;cases this;rfl
 |load m a k O=>
  intro s' D l wL C z H es r wL' j I M;cases H l z.self with
  | @load _ _ E h0=>
    have B:D a.block:=z.dom λg A=>by have:=H g A;generalize R:aS l a=x at this;cases this;exact congrArg Addr.block R.symm
    obtain⟨o,U,Q,P⟩:=z.obj _ B;rw[Sem.run]at j;cases Y:wL.cell? a with
    |none=>
     simp only[Y]at j;cases R:wL.farLoad PL a (Mode.plain==Mode.atomic)with
     |error x=>
      rw[R]at j;subst j;exact(oz I).elim
     |ok y=>
      obtain⟨v,tc⟩:=y;rw[R]at j;obtain⟨f1,f2,f3,f4⟩:=uV z B R;refine dK (jf.refl z) (s1:=E v) (es1:=(tc.map (aS l)).toArray.map (⟨.cell ·,false,false⟩)) ?_ (Hy f4) (O v (E v) D l wL C z (λg A=> ?_) _ r wL' j I M)
      ·rw[QL,f1];simp only;rw[hV,f2];rfl
      ·have:=H g A;generalize aS l a=x at this;cases this with
       |load h=>
        have:=h v
        rwa [f3 g]at this
    |some v=>
     simp only[Y]at j;obtain⟨c,e,f,L,hs,hv⟩:=Dl Y;rw[U]at L;cases L;have a2:∀g,aR G D l g->C.cell? (aS l a)=some (PI g v):=λg A=>by rw[Dm (w:=C) (a:=aS l a) (P g A) hs];show(c.map (PI g))[a.off]?=_;rw[Array.getElem?_map,hv];rfl
     have V:∀g,aR G D l g->PI g v=PI l v:=λg A=>Option.some.inj ((a2 g A).symm.trans (a2 l z.self));refine dK (jf.refl z) (s1:=E (PI l v)) (es1:=#[⟨.cell (aS l a),false,false⟩]) ?_ ?_ (O v (E (PI l v)) D l wL C z (λg A=> ?_) _ r wL' j I M)
     ·rw[QL,a2 l z.self];rfl
     ·intro e K;simp at K;subst K;exact⟨rfl,a.block,B,rfl⟩
     ·have:=H g A;rw[←V g A];generalize aS l a=x at this;cases this with
      |load h=>exact h v
 |store m a v k O=>
  intro s' D l wL C z H es r wL' j I M;cases H l z.self with
  | @store _ _ _ E h0=>
    have t:∀g,aR G D l g->aS l a=aS g a/\PI l v=PI g v/\aG g PL PM (F g) k E:=λg A=>by
     have:=H g A;generalize R:aS l a=x at this;generalize hy:PI l v=y at this;cases this with
     |store h=>exact⟨rfl,rfl,h⟩
    have B:D a.block:=z.dom λg A=>(congrArg Addr.block (t g A).1).symm;obtain⟨o,U,Q,P⟩:=z.obj _ B;cases X:pT v with
    |false=>
     obtain⟨ac,hw⟩:=gQ (p:=PL) (w:=wL) (m:= .plain) (a:=a) (k:=k) X;rw[hw]at j;subst j;exact I.elim
    |true=>
     rw[gf X]at j;cases Y:wL.cell? a with
     |none=>
      simp only[Y]at j;cases R:wL.farStore PL a v (Mode.plain==Mode.atomic)with
      |error x=>
       rw[R]at j;subst j;exact(oz I).elim
      |ok y=>
       obtain⟨w1,tc⟩:=y;rw[R]at j;obtain⟨ad,f1,f2,f3,f4⟩:=ub z B (λg A=>(t g A).2.1.symm) R;refine dK f3 (s1:=E) (es1:=(tc.map (aS l)).toArray.map (⟨.cell ·,true,false⟩)) ?_ (Hy f4) (O E D l _ _ f3.rel (λg A=>(t g A).2.2) _ r wL' j I M);rw[mW (by rw[yQ];exact X),f1];simp only;rw[hS,f2];rfl
     |some u=>
      simp only[Y]at j;obtain⟨c,e,f,L,hs,hv⟩:=Dl Y;rw[U]at L;cases L;by_cases hf:wL.frozen? a=true
      ·rw[if_pos hf]at j;subst j;exact I.elim
      ·rw[if_neg hf]at j;have a2:C.cell? (aS l a)=some (PI l u):=by rw[Dm (w:=C) (a:=aS l a) (P l z.self) hs];show(c.map (PI l))[a.off]?=_;rw[Array.getElem?_map,hv];rfl
       have ab:C.frozen? (aS l a)=wL.frozen? a:=by have:=P l z.self;unfold Qa;simp only[aS,U,this,em];rfl
       have J:jf G T D l wL C D l (wL.setCell a v) (C.setCell (aS l a) (PI l v)):=by
        refine z.turn B (o:= .cells (c.setIfInBounds a.off v) e f) (o':= .cells ((c.map (PI l)).setIfInBounds a.off (PI l v)) e f) rfl (λg A=> ?_) ?_ ?_ (λk hk=> ?_) (λk hk=> ?_) (by simp[Q6]) (by simp[Q6]) rfl rfl rfl rfl rfl rfl
        ·have Z:=(P g A).symm.trans (P l z.self);simp only[em,Option.some.injEq,Obj.cells.injEq,and_true]at Z;simp only[em,Obj.cells.injEq,and_true];rw[←Z,(t g A).2.1,Array.map_setIfInBounds]
        ·simp[Q6,Array.getElem?_modify,U,hs]
        ·have:=P l z.self;simp[Q6,Array.getElem?_modify,aS,this,hs,em]
        ·exact kM hk
        ·exact kM hk
       refine dK J (s1:=E) (es1:=#[⟨.cell (aS l a),true,false⟩]) ?_ ?_ (O E D l _ _ J.rel (λg A=>(t g A).2.2) _ r wL' j I M)
       ·rw[mW (by rw[yQ];exact X),a2,ab];simp only[hf];rfl
       ·intro e K;simp at K;subst K;exact⟨rfl,a.block,B,rfl⟩
 |new o k O=>
  intro s' D l wL C z H es r wL' j I M;cases H l z.self with
  | @new _ _ E Q h0=>
    have t:∀g,aR G D l g->em l o=em g o/\∀b,aG g PL PM (F g) (k b) (E (g b)):=λg A=>by
     have:=H g A;generalize R:em l o=x at this;cases this with
     |new _ h=>exact⟨rfl,h⟩
    obtain⟨a5,hi,hn,K⟩:=z.fresh;have a6:∀g,aR G (λb=>D b\/b=wL.heap.size) a5 g->aR G D l g:=λg A=>⟨A.1,λb L=>(A.2 b (.inl L)).trans (K b L)⟩;have S:jf G T D l wL C (λb=>D b\/b=wL.heap.size) a5 {wL with heap:=wL.heap.push o} {C with heap:=C.heap.push (em l o)}:=by
     refine⟨⟨hi.1,λb L=> ?_,z.tape,hi.2,by have:=z.far;simp only[Array.size_push];omega,λb L=> ?_⟩,λb L=>⟨.inl L,K b L⟩,λb L=> ?_,s_,s_,λr hr _=> ?_,rfl,rfl,rfl,rfl,λr hr _=> ?_,λr Z h2=> .inr (by simp only[Array.size_push]at h2;omega),d5 _,Nat.add_comm _ _⟩
     ·rcases L with L|rfl
      ·obtain⟨ob,Z,h2,h3⟩:=z.obj b L;refine⟨ob, ?_,h2,λg A=> ?_⟩
       ·rw[Array.getElem?_push,if_neg (by have:=de Z;omega)];exact Z
       ·rw[K b L,Array.getElem?_push,if_neg (by have:=z.ltM L;omega)];exact h3 g (a6 g A)
      ·refine⟨o,s_,Q,λg A=> ?_⟩;rw[hn,(t g (a6 g A)).1];simp
     ·rcases L with L|rfl
      ·exact z.out b L
      ·exact z.far.2.1
     ·rcases L with L|rfl
      ·exact .inl L
      ·exact .inr ⟨d5 _,by rw[hn];exact d5 _⟩
     ·rw[Array.getElem?_push,if_neg o_]
     ·rw[Array.getElem?_push,if_neg o_]
    refine dK S (s1:=E C.heap.size) (es1:=#[]) (by simp[QL]) (λe K=>by simp at K) (O wL.heap.size (E C.heap.size) _ a5 _ _ S.rel (λg A=> ?_) _ r wL' j I M);have Z:=(t g (a6 g A)).2 wL.heap.size;rwa [A.2 _ (.inr rfl),hn]at Z
 |shape N k O=>
  intro s' D l wL C z H es r wL' j I M;cases H l z.self with
  | @shape _ _ E h0=>
    have t:∀g,aR G D l g->l N=g N/\∀b,aG g PL PM (F g) (k b) (E b):=λg A=>by
     have:=H g A;generalize R:l N=x at this;cases this with
     |shape h=>exact⟨rfl,h⟩
    have B:D N:=z.dom λg A=>(t g A).1.symm;obtain⟨o,U,Q,P⟩:=z.obj _ B;have a9:C.shape? (l N)=wL.shape? N:=by have:=P l z.self;unfold World.shape?;rw[U,this];cases o<;>simp[cJ]at Q<;>simp[em]
    refine dK (jf.refl z) (s1:=E (wL.shape? N)) (es1:=#[]) (by simp[QL,a9]) (λe K=>by simp at K) (O _ (E (wL.shape? N)) D l wL C z (λg A=>(t g A).2 _) _ r wL' j I M)
 |freeze a n k O=>
  intro s' D l wL C z H es r wL' j I M;cases H l z.self with
  | @freeze _ _ _ E h0=>
    have t:∀g,aR G D l g->aS l a=aS g a/\aG g PL PM (F g) k E:=λg A=>by
     have:=H g A;generalize R:aS l a=x at this;cases this with
     |freeze h=>exact⟨rfl,h⟩
    have B:D a.block:=z.dom λg A=>(congrArg Addr.block (t g A).1).symm;obtain⟨o,U,Q,P⟩:=z.obj _ B;have J:jf G T D l wL C D l (wL.freeze a n) (C.freeze (aS l a) n):=by
     by_cases hn:n=0
     ·have e1:wL.freeze a n=wL:=(by simp[World.freeze,hn]);have e2:C.freeze (aS l a) n=C:=(by simp[World.freeze,hn]);rw[e1,e2];exact jf.refl z
     ·have a4:=P l z.self;refine z.turn B (o:=match o with| .cells c a3 (lo,hi)=> .cells c a3 (if lo==hi then(a.off,a.off+n)else(min lo a.off,max hi (a.off+n)))|o=>o) (o':=match em l o with| .cells c a3 (lo,hi)=> .cells c a3 (if lo==hi then(a.off,a.off+n)else(min lo a.off,max hi (a.off+n)))|o=>o) ?_ (λg A=> ?_) ?_ ?_ (λk hk=> ?_) (λk hk=> ?_) ?_ ?_ ?_ ?_ ?_ ?_ ?_ ?_
      ·cases o<;>first|exact Q|(simp[cJ]at Q;done)|rfl
      ·have Z:=(P g A).symm.trans (P l z.self);rw[Option.some.injEq]at Z;rw[←Z];cases o<;>simp[cJ]at Q<;>rfl
      ·simp only[World.freeze,if_neg hn,Array.getElem?_modify,U];cases o<;>simp[cJ]at Q<;>simp
      ·simp only[World.freeze,if_neg hn,Array.getElem?_modify,aS,a4];cases o<;>simp[cJ]at Q<;>simp[em]
      ·simp only[World.freeze,if_neg hn];exact kM hk
      ·simp only[World.freeze,if_neg hn];exact kM hk
      all_goals simp[World.freeze,hn]
    refine dK J (s1:=E) (es1:=#[]) (by simp[QL]) (λe K=>by simp at K) (O E D l _ _ J.rel (λg A=>(t g A).2) _ r wL' j I M)
 |frozen a k O=>
  intro s' D l wL C z H es r wL' j I M;cases H l z.self with
  | @frozen _ _ E h0=>
    have t:∀g,aR G D l g->aS l a=aS g a/\∀b,aG g PL PM (F g) (k b) (E b):=λg A=>by
     have:=H g A;generalize R:aS l a=x at this;cases this with
     |frozen h=>exact⟨rfl,h⟩
    have B:D a.block:=z.dom λg A=>(congrArg Addr.block (t g A).1).symm;obtain⟨o,U,Q,P⟩:=z.obj _ B;have aa:C.frozen? (aS l a)=wL.frozen? a:=by have:=P l z.self;unfold Qa;simp only[aS,U,this];cases o<;>simp[cJ]at Q<;>rfl
    refine dK (jf.refl z) (s1:=E (wL.frozen? a)) (es1:=#[]) (by simp[QL,aa]) (λe K=>by simp at K) (O _ (E (wL.frozen? a)) D l wL C z (λg A=>(t g A).2 _) _ r wL' j I M)
 |getObj N k O=>
  intro s' D l wL C z H es r wL' j I M;cases H l z.self with
  | @getObj _ _ E h0=>
    have t:∀g,aR G D l g->l N=g N/\∀o,cJ o=true->aG g PL PM (F g) (k o) (E (em g o)):=λg A=>by
     have:=H g A;generalize R:l N=x at this;cases this with
     |getObj h=>exact⟨rfl,h⟩
    have B:D N:=z.dom λg A=>(t g A).1.symm;obtain⟨o,U,Q,P⟩:=z.obj _ B;have V:∀g,aR G D l g->em g o=em l o:=λg A=>Option.some.inj ((P g A).symm.trans (P l z.self));rw[Sem.run,U]at j;have a1:∀c e f,o≠ .cells c e f:=λc e f h=>by subst h;simp only at j;subst j;exact I.elim
    have W:(k o).run PL wL=r:=by cases o<;>first|exact j|exact absurd rfl (a1 _ _ _)
    refine dK (jf.refl z) (s1:=E (em l o)) (es1:=#[⟨.obj (l N),false,false⟩]) ?_ ?_ (O o (E (em l o)) D l wL C z (λg A=>by rw[←V g A];exact(t g A).2 o Q) _ r wL' W I M)
    ·have:=P l z.self;have Y:=tL (o:=em l o) (by rw[vI];exact Q);rw[QL,this];cases o<;>simp[cJ]at Q<;>first|exact absurd rfl (a1 _ _ _)|(simp only[em]at Y⊢;rw[Y];rfl)
    ·intro e K;simp at K;subst K;exact⟨rfl,N,B,rfl⟩
 |setObj N o k O=>
  intro s' D l wL C z H es r wL' j I M;cases H l z.self with
  | @setObj _ _ _ E a7 h0=>
    have t:∀g,aR G D l g->l N=g N/\em l o=em g o/\aG g PL PM (F g) k E:=λg A=>by
     have:=H g A;generalize R:l N=x at this;generalize hy:em l o=y at this;cases this with
     |setObj _ h=>exact⟨rfl,rfl,h⟩
    have B:D N:=z.dom λg A=>(t g A).1.symm;obtain⟨o0,U,Q,P⟩:=z.obj _ B;rw[Sem.run,U]at j;have a1:∀c e f,o0≠ .cells c e f:=λc e f h=>by subst h;simp only at j;subst j;exact I.elim
    have W:k.run PL {wL with heap:=wL.heap.setIfInBounds N o}=r:=by cases o0<;>first|exact j|exact absurd rfl (a1 _ _ _)
    have a4:=P l z.self;have J:jf G T D l wL C D l {wL with heap:=wL.heap.setIfInBounds N o} {C with heap:=C.heap.setIfInBounds (l N) (em l o)}:=by
     refine z.turn B (o:=o) (o':=em l o) a7 (λg A=>(t g A).2.1) ?_ ?_ (λk hk=> ?_) (λk hk=> ?_) s_ s_ rfl rfl rfl rfl rfl rfl
     ·simp[de U]
     ·simp[de a4]
     ·exact G3 hk
     ·exact G3 hk
    refine dK J (s1:=E) (es1:=#[⟨.obj (l N),true,false⟩]) ?_ ?_ (O E D l _ _ J.rel (λg A=>(t g A).2.2) _ r wL' W I M)
    ·have Y:=tL (o:=em l o) (by rw[vI];exact a7);generalize em l o=x at Y⊢;rw[QL,a4];cases o0<;>simp[cJ]at Q<;>first|exact absurd rfl (a1 _ _ _)|(simp only[em,Y];rfl)
    ·intro e K;simp at K;subst K;exact⟨rfl,N,B,rfl⟩
 |choose q k O=>
  intro s' D l wL C z H es r wL' j I M;cases H l z.self with
  | @choose _ _ E h0=>
    have t:∀g,aR G D l g->∀b,aG g PL PM (F g) (k b) (E b):=λg A=>by
     cases H g A with
     |choose h=>exact h
    rw[Sem.run]at j;by_cases hf:q.forced=true
    ·rw[if_pos hf]at j;refine dK (jf.refl z) (s1:=E 0) (es1:=#[]) (by simp[QL,hf]) (λe K=>by simp at K) (O 0 (E 0) D l wL C z (λg A=>t g A 0) _ r wL' j I M)
    ·rw[if_neg hf]at j;have S:jf G T D l wL C D l {wL with drawn:=wL.drawn+1} {C with drawn:=C.drawn+1}:=by refine⟨⟨z.inj,z.obj,λi hi=> ?_,z.glob,z.far,z.out⟩,λ_ L=>⟨L,rfl⟩,λ_ L=> .inl L,d5 _,d5 _,λ_ _ _=>rfl,rfl,rfl,rfl,rfl,λ_ _ _=>rfl,λr Z h2=>absurd h2 (Nat.not_lt.2 Z),Nat.le_succ _,by show C.drawn+1+wL.drawn=wL.drawn+1+C.drawn;omega⟩;have:=z.tape (1+i) (by have:wL.drawn+1+i<T:=hi;omega);rwa [←Nat.add_assoc,←Nat.add_assoc]at this
     have a0:=λes1=>O _ (E (q.cut (wL.tape wL.drawn q))) D l _ _ S.rel (λg A=>t g A _) es1 r wL' j I M;have ht:C.tape C.drawn=wL.tape wL.drawn:=by obtain⟨_,_,_,_,_,_,_,h3,_⟩:=a0 #[];have:wL.drawn+1<=wL'.drawn:=h3.drawn;exact z.tape 0 o_
     exact dK S (s1:=E (q.cut (wL.tape wL.drawn q))) (es1:=#[]) (by simp[QL,hf,ht]) (λe K=>by simp at K) (a0 _)
 |sys c k O=>
  intro s' D l wL C z H es r wL' j I M;cases H l z.self with
  |sys d=>
   obtain⟨x,w',R,_⟩:=d (wL.sys c).1 (wL.sys c).2;rw[Sem.run,R]at j;subst j;exact I.elim
 |program k O=>
  intro s' D l wL C z H es r wL' j I M;cases H l z.self with
  | @program _ E h0=>
    have t:∀g,aR G D l g->aG g PL PM (F g) (k PL) (E PM):=λg A=>by
     cases H g A with
     |program h=>exact h
    exact dK (jf.refl z) (s1:=E PM) (es1:=#[]) (by simp[QL]) (λe K=>by simp at K) (O PL (E PM) D l wL C z t _ r wL' j I M)
 |mark m k O=>
  intro s' D l wL C z H es r wL' j I M;cases H l z.self with
  | @mark _ _ E hm h0=>
    have t:∀g,aR G D l g->aG g PL PM (F g) k E:=λg A=>by
     cases H g A with
     |mark _ h=>exact h
     |deadMark=>rw[Sem.run,Sem.run]at j;subst j;exact I.elim
    refine dK (jf.refl z) (s1:=E) (es1:=#[⟨.mark m,false,true⟩]) rfl ?_ (O E D l wL C z t _ r wL' j I M);intro e K;simp at K;subst K;exact hm
  |deadMark=>rw[Sem.run,Sem.run]at j;subst j;exact I.elim
 |halt h=>
  intro s' D l wL C z H es r wL' j I M;subst j;exact I.elim
end
structure bH (PL PM:Program):Prop where
 info:∀t,PL.info? t=PM.info? t
 under:∀t,PL.underlying t=PM.underlying t
 zero:∀t i z,PL.info? t=some i->i.zero=some z->bD z=true
 rt:PL.rt=PM.rt
 cells:∀t,PL.cellsOf t=PM.cellsOf t
 bytes:∀t,PL.bytesOf t=PM.bytesOf t
 byteOf:∀t o,byteOfCell PL PL.depth t o=byteOfCell PM PM.depth t o
 lies:∀e n o u m,liesAt PL PL.depth e n o u m=liesAt PM PM.depth e n o u m
 atBytes:∀e n o b,cellAtBytes PL PL.depth e n o b=cellAtBytes PM PM.depth e n o b
 held:∀e,PL.holdsStoodIn PL.depth e=PM.holdsStoodIn PM.depth e
 guard:∀t,PL.eqGuardType PL.depth t=PM.eqGuardType PM.depth t
 stood:∀t,PL.stoodInHeld t=PM.stoodInHeld t
 types:PL.types.size=PM.types.size
 packed:∀t,PL.holdsPacked PL.depth t=PM.holdsPacked PM.depth t
section
variable{α β:Type}{f:α->β}
theorem aD(a:α){b:β}(h:b=f a):aG ρ PL PM f (pure a:Sem α) (pure b):=h▸aG.pure a
theorem dB(a:String)(s:Sem β):aG ρ PL PM f (stuck a) s:= .dead trivial
theorem cS(a:bH PL PM)(t:TypeId):aG ρ PL PM id (typeInfo t) (typeInfo t):=by
 refine .program ?_;show aG ρ PL PM id (match PL.info? t with|some i=>pure i|none=>stuck "no such type") (match PM.info? t with|some i=>pure i|none=>stuck "no such type");rw[a.info t];split
 ·exact aD _ rfl
 ·exact dB _ _
theorem aK(a:bH PL PM)(t:TypeId):aG ρ PL PM id (underlying t) (underlying t):=by
 refine .program ?_;show aG ρ PL PM id (match PL.underlying t with|some i=>pure i|none=>stuck "no such type") (match PM.underlying t with|some i=>pure i|none=>stuck "no such type");rw[a.under t];split
 ·exact aD _ rfl
 ·exact dB _ _
theorem mt(a:bH PL PM)(t:TypeId):aG ρ PL PM (PI ρ) (zeroValue t) (zeroValue t):=by
 unfold zeroValue;show aG ρ PL PM (PI ρ) (typeInfo t>>=λi=>match i.zero with|some v=>pure v|none=>unsupported _) (typeInfo t>>=λi=>match i.zero with|some v=>pure v|none=>unsupported _);refine .program ?_;show aG ρ PL PM _ ((match PL.info? t with|some i=>pure i|none=>stuck "no such type" :Sem TypeInfo).bind _) ((match PM.info? t with|some i=>pure i|none=>stuck "no such type" :Sem TypeInfo).bind _);rw[←a.info t];cases c:PL.info? t with
 |none=>exact dB _ _
 |some i=>
  show aG ρ PL PM _ (match i.zero with|some v=>pure v|none=>unsupported _) (match i.zero with|some v=>pure v|none=>unsupported _);cases b:i.zero with
  |none=>exact .dead trivial
  |some z=>exact aD _ (bI ρ z (a.zero t i z c b)).symm
theorem cQ(a:bH PL PM)(t:TypeId):aG ρ PL PM id (sizeOf t) (sizeOf t):=
 (cS a t).bind λ_=>aD _ rfl
theorem Ab(a:bH PL PM)(t:TypeId):aG ρ PL PM id (isAgg t) (isAgg t):=
 (aK a t).bind λd=>by show aG ρ PL PM id _ _;cases d<;>exact aD _ rfl
theorem fg(b:Nat->Nat)(a:Addr)(n:Nat):aS b (a.add n)=(aS b a).add n:=by unfold Addr.add aS;split<;>rfl
theorem fw(a:Nat->Nat)(v:Value):(PI a v).cells=v.cells.map (PI a):=by cases v<;>simp[PI,Value.cells]
theorem xK(a:Addr):aG ρ PL PM (PI ρ) (load a) (load (aS ρ a)):= .load λv=> .pure v
theorem Ig(a:Addr)(v:Value):aG ρ PL PM id (store a v) (store (aS ρ a) (PI ρ v)):= .store (.pure ())
theorem qV(o:Obj)(a:cJ o=true):aG ρ PL PM ρ (newObj o) (newObj (em ρ o)):= .new a λb=> .pure b
theorem lG(a:Addr):∀(n i:Nat) (b:Array Value),aG ρ PL PM (Array.map (PI ρ)) (loadCellsFrom a i n b) (loadCellsFrom (aS ρ a) i n (b.map (PI ρ)))
 |0,_,b=>aD _ rfl
 |n+1,i,b=>by unfold loadCellsFrom;refine aG.bind (f:=PI ρ) (by rw[←fg];exact xK _) λv=> ?_;have:=lG a n (i+1) (b.push v);rwa [Array.map_push]at this
theorem jn(a:Addr)(n:Nat):aG ρ PL PM (Array.map (PI ρ)) (loadCells a n) (loadCells (aS ρ a) n):=by have:=lG (ρ:=ρ) (PL:=PL) (PM:=PM) a n 0 #[];simpa[loadCells]using this
theorem fA(a:Addr):∀(b:List Value) (i:Nat),aG ρ PL PM id (storeCells a b i) (storeCells (aS ρ a) (b.map (PI ρ)) i)
 |[],_=>by unfold storeCells;exact aD _ rfl
 |v::r,i=>by unfold storeCells;exact aG.bind (f:=id) (by rw[←fg];exact Ig _ _) λ_=>fA a r (i+1)
theorem jY(c:bH PL PM)(t:TypeId)(a:Addr):aG ρ PL PM (PI ρ) (loadVar t a) (loadVar t (aS ρ a)):=by
 unfold loadVar;refine(Ab c t).bind λb=> ?_;cases b with
 |true=>exact(cQ c t).bind λn=>(jn a n).bind λd=>aD _ (by simp[PI])
 |false=>exact xK a
theorem A0(b:bH PL PM)(t:TypeId)(a:Addr)(v:Value):aG ρ PL PM id (storeVar t a v) (storeVar t (aS ρ a) (PI ρ v)):=by
 unfold storeVar;refine(cQ b t).bind λn=> ?_;rw[fw,Array.size_map];show aG ρ PL PM id (if v.cells.size≠n then _ else _) (if v.cells.size≠n then _ else _);split
 ·exact(dB (f:=id) _ _:aG ρ PL PM id _ _).bind λa=>by rw[RD];exact fA _ _ _
 ·rw[RD];exact fA _ _ _
theorem fB(e:TypeId)(cs:Array Value):aG ρ PL PM (aS ρ) (newRow e cs) (newRow e (cs.map (PI ρ))):=
 (qV (.cells cs e) rfl).bind λ_=>aD _ rfl
theorem wy(t:TypeId)(v:Value):aG ρ PL PM (aS ρ) (newVar t v) (newVar t (PI ρ v)):=by unfold newVar;rw[fw];exact fB _ _
theorem gv(a:bH PL PM)(t:TypeId)(cs:Array Value)(off:Nat):aG ρ PL PM (PI ρ) (part t cs off) (part t (cs.map (PI ρ)) off):=by
 unfold part;refine(Ab a t).bind λb=> ?_;cases b with
 |true=>exact(cQ a t).bind λn=>aD _ (by simp[PI,Array.map_extract])
 |false=>
  show aG ρ PL PM (PI ρ) (match cs[off]? with|some v=>pure v|none=>stuck _) (match (cs.map (PI ρ))[off]? with|some v=>pure v|none=>stuck _);rw[Array.getElem?_map];cases cs[off]? with
  |none=>exact dB _ _
  |some v=>exact aD _ rfl
theorem mz(v:Value):aG ρ PL PM id (asIntOf v) (asIntOf (PI ρ v)):=by
 cases v<;>simp only[PI,asIntOf]<;>first|exact aD _ rfl|exact dB _ _|skip
 rename_i a;cases a with
 |none=>exact dB _ _
 |some a=>exact .dead trivial
theorem nL(v:Value):aG ρ PL PM id (asInt v) (asInt (PI ρ v)):=(mz v).bind λ_=>aD _ rfl
theorem wH(v:Value):aG ρ PL PM id (asBool v) (asBool (PI ρ v)):=by cases v<;>simp only[PI,asBool]<;>first|exact aD _ rfl|exact dB _ _
theorem PX(v:Value):aG ρ PL PM id (asString v) (asString (PI ρ v)):=by cases v<;>simp only[PI,asString]<;>first|exact aD _ rfl|exact dB _ _
theorem Is(v:Value):aG ρ PL PM (Array.map (PI ρ)) (asAgg v) (asAgg (PI ρ v)):=by cases v<;>simp only[PI,asAgg]<;>first|exact aD _ rfl|exact dB _ _
theorem j4(v:Value):aG ρ PL PM (aS ρ) (Rl v) (Rl (PI ρ v)):=by
 cases v<;>simp only[PI,Rl]<;>first|exact dB _ _|skip
 rename_i a;cases a with
 |none=>exact dB _ _
 |some a=>exact aD _ rfl
end
section
variable{α β:Type}{f:α->β}
theorem aQ{c:Prop}[Decidable c]{A B:Sem α}{b a:Sem β}(e:aG ρ PL PM f A b)(d:aG ρ PL PM f B a):aG ρ PL PM f (if c then A else B) (if c then b else a):=by split<;>assumption
theorem PT(a:Addr):(aS ρ a).block=ρ a.block:=rfl
theorem PW(a:Addr):(aS ρ a).off=a.off:=rfl
theorem PU(a:Addr):(aS ρ a).spot=a.spot:=rfl
theorem aL{s:Sem α}{s':Sem β}(h:aG ρ PL PM f s s':=by
 first
 |exact ic hP _ _ _ _ _ none
 |with_reducible first
  |exact aK hP _
  |exact cQ hP _
  |exact cS hP _
  |exact j4 _
  |exact mz _
  |exact nL _
  |exact Ab hP _
  |exact mt hP _
  |exact wH _
  |exact Is _
  |exact PX _
  |exact wy _ _
  |exact fB _ _
  |exact jY hP _ _
  |exact A0 hP _ _ _
  |exact xK _
  |exact jn _ _
  |exact fA _ _ _
  |exact gv hP _ _ _
  |exact er _
  |exact og _
  |exact oe _
  |exact qU _
  |exact iJ hP _
  |exact jB hP _ _ _ _
  |exact Fx hP _ _ _
  |exact kU hP _ _
  |exact eA hP _ _ _
  |exact ic hP _ _ _ _ _ _
  |exact lH hP _
  |exact Ih hP _ _ _ _ _
  |exact my _
  |exact wG hP _
  |exact nH hP _ _ _
  |exact qm _ _ _
  |exact Cg _
  |exact wx hP _
  |exact su _
  |exact PV _ _
  |exact dC _
  |exact qj _
  |exact A7 _ _
  |exact ss hi _ _
  |exact ss hF.1 _ _
  |exact un hF.1 _ _
  |exact kT _ _
  |exact A6 hi _ _ _ _ _
  |exact je _ _ _
  |exact ih _ _ _
  |exact kF _ _ _ _
  |exact wB hP _ _ _ _
  |exact jZ _ _ _ _
  |exact A1 hP _ _ _ _ _
  |exact jA _ _ _
  |exact sr _ _ _
  |exact Aa _
  |exact iS _ _ _
  |exact lF _
  |exact qS _ _
  |exact qR _ _
  |exact ra _
  |exact qT _
  |exact ve _ _ _
  |exact je _ _ _
  |exact oh _ _ _ _
  |exact vf _ _ _ _
  |exact Ac _ _ _ _
  |exact xL _ _ _ _ _ _
  |exact Cj hP hF _ _ _
  |exact mA hP hF _ _ _
  |exact pp hP _ _ _
  |exact qg hP hF _ _
 |exact qV _ rfl
 ):aG ρ PL PM f s s':=h
theorem aU{s:Sem α}{s':Sem β}(h:aG ρ PL PM f s s':=by
 try simp only[id,PI,PT,PW,PU,Option.map_none,Option.map_some,Option.isSome_map,Array.getElem?_map,pure_bind,bind_assoc]
 first
 |exact .dead trivial
 |exact .program (.dead trivial)
 |exact aD _ (by first|rfl|(simp[PI,goInt,fg,Function.comp_def,apply_ite (aS ρ),apply_ite (Option.map (aS ρ))];done)|(simp[PI,aS];done))
 |exact aL
 |refine aQ ?_ ?_
 |(apply aG.bind;(· exact aL);intro a)
 |refine .choose λn=> ?_
 |exact .getObj λo ho=>by cases o<;>first|exact .dead trivial|(simp[cJ]at ho;done)
 |(refine .program ?_;try simp only[Sem.bind,hP.held,hP.cells,hP.bytes,hP.byteOf,hP.lies,hP.atBytes,hP.guard,hP.stood,hP.packed])
 |cases (a:TypeDesc)
 |cases (x:Value)
 |cases (y:Value)
 |cases (op:BinOp)
 |cases (a:Option _)
 |cases (a:Bool)
 |(split<;>try simp_all only[Option.map_some,Option.map_none,Option.some.injEq,reduceCtorEq,Value.slice.injEq,Value.pointer.injEq,Value.map.injEq,Value.chan.injEq])
 all_goals first|contradiction|exact aU
 ):aG ρ PL PM f s s':=h
def pQ:RuntimeError->Bool
 | .bounds _ _ _ _| .error _| .plain _| .nilDeref=>true
 |_=>false
theorem io(_:bH PL PM){e:RuntimeError}(a:pQ e=true):aG ρ PL PM f (runtimePanic e) (runtimePanic e):= .program (by cases e<;>cases a<;>exact .dead trivial)
theorem jB(_:bH PL PM)(k:IntKind)(x y:Int)(c:BoundsCode):aG ρ PL PM f (boundsPanic k x y c) (boundsPanic k x y c):=by unfold boundsPanic;exact aU
theorem It(hP:bH PL PM)(t:TypeId):aG ρ PL PM (PI ρ) (Qz t true (.tuple #[])) (Qz t true (.tuple #[])):=by unfold Qz;exact aU
theorem MP(t:TypeId)(v:Value):aG ρ PL PM (PI ρ) (SQ t v) (SQ t (PI ρ v)):=by unfold SQ;exact aU
theorem gI(hP:bH PL PM)(t:TypeId)(v:Value):aG ρ PL PM (PI ρ) (AT t v) (AT t (PI ρ v)):=by unfold AT;exact aU
theorem C8(hP:bH PL PM)(t:TypeId)(v z:Value):aG ρ PL PM id (Rc t v z) (Rc t (PI ρ v) (PI ρ z)):=by unfold Rc;exact aU
theorem er(r:Nat):aG ρ PL PM id (shape r) (shape (ρ r)):= .shape λs=> .pure s
theorem oe(r:Nat):aG ρ PL PM (Option.map λx=>(aS ρ x.1,x.2)) (viewAt r) (viewAt (ρ r)):=by
 unfold viewAt;refine(er r).bind λs=> ?_;cases s
 ·exact .getObj λo _=>by cases o<;>exact aD _ rfl
 ·exact aD _ rfl
theorem qU(a:Addr):aG ρ PL PM id (noView a) (noView (aS ρ a)):=by unfold noView;exact aU
theorem iJ(hP:bH PL PM)(a:Addr):aG ρ PL PM id (byteOf a) (byteOf (aS ρ a)):=by unfold byteOf;rw[PU];cases a.spot<;>exact aU
theorem Fx(d:bH PL PM)(a:Addr)(c b:Nat):aG ρ PL PM (aS ρ) (partAt a c b) (partAt (aS ρ a) c b):=by unfold partAt;refine(iJ d a).bind λx=> ?_;refine(iJ d {block:=a.block,off:=a.off+c}).bind λy=>aD _ ?_;simp only[id];split<;>rfl
theorem kU(hP:bH PL PM)(a:Addr)(b:Field):aG ρ PL PM (aS ρ) (fieldPlace a b) (fieldPlace (aS ρ a) b):=by unfold fieldPlace;exact aU
theorem Cb(hP:bH PL PM)(t:TypeId)(v:Value)(i:Nat):aG ρ PL PM (PI ρ) (BY t v i) (BY t (PI ρ v) i):=by unfold BY;exact aU
theorem k6(hP:bH PL PM)(t:TypeId)(x a:Value):aG ρ PL PM (PI ρ) (Instr.indexAt t x a) (Instr.indexAt t (PI ρ x) (PI ρ a)):=by unfold Instr.indexAt;exact aU
theorem eA(hP:bH PL PM)(v:Value)(y:Nat)(c:BoundsCode):aG ρ PL PM id (Qx v y c) (Qx (PI ρ v) y c):=by unfold Qx;exact aU
theorem ic(hP:bH PL PM)(s:Bool)(len cap:Nat)(b hi a:Option Value):aG ρ PL PM id (Qq s len cap b hi a) (Qq s len cap (b.map (PI ρ)) (hi.map (PI ρ)) (a.map (PI ρ))):=by unfold Qq;cases a<;>cases hi<;>cases b<;>exact aU
theorem lH(b:bH PL PM)(v:Value):aG ρ PL PM (aS ρ) (asAddr v) (asAddr (PI ρ v)):=by
 cases v<;>simp only[PI,asAddr]<;>first|exact dB _ _|skip
 rename_i a;cases a with
 |none=>exact io b rfl
 |some a=>exact aD _ rfl
theorem Ih(hP:bH PL PM)(t:TypeId)(x:Value)(b hi a:Option Value):aG ρ PL PM (PI ρ) (R0 t x b hi a) (R0 t (PI ρ x) (b.map (PI ρ)) (hi.map (PI ρ)) (a.map (PI ρ))):=by unfold R0;exact aU
theorem C9(hP:bH PL PM)(t:TypeId)(x:Value)(b hi a:Option Value):aG ρ PL PM (PI ρ) (QG t x b hi a) (QG t (PI ρ x) (b.map (PI ρ)) (hi.map (PI ρ)) (a.map (PI ρ))):=by unfold QG;exact aU
theorem Il(hP:bH PL PM)(t:TypeId)(x a:Value):aG ρ PL PM (PI ρ) (S6 t x a) (S6 t (PI ρ x) (PI ρ a)):=by unfold S6;exact aU
theorem Io(hP:bH PL PM)(t:TypeId)(v:Value)(i:Nat):aG ρ PL PM (PI ρ) (Instr.field t v i) (Instr.field t (PI ρ v) i):=by unfold Instr.field;exact aU
theorem Cc(x:Value)(i:Nat):aG ρ PL PM (PI ρ) (SC x i) (SC (PI ρ x) i):=by unfold SC;exact aU
theorem A9(fn:Fn)(b:pP fn=true)(first a:Array Value):aG ρ PL PM (PI ρ) (SL fn first a) (SL fn (first.map (PI ρ)) (a.map (PI ρ))):=
 aD _ (by rw[PI,rH ρ b])
theorem my(n:Nat):aG ρ PL PM id (askRoom n) (askRoom n):=by
 unfold askRoom;split
 ·exact .mark rfl (.pure ())
 ·exact aD _ rfl
theorem JQ(a:Nat->Nat)(z:Array Value)(i:Nat):(z.map (PI a))[i]! =PI a (z[i]!):=by
 have b:PI a (default:Value)=default:=bI a _ (by rfl);by_cases h:i<z.size
 ·simp[h]
 ·simp[h,b]
theorem pY(a:Nat->Nat)(z:Array Value)(n:Nat):((Array.range n).map λx=>(z.map (PI a))[x%(z.map (PI a)).size]!)=((Array.range n).map λx=>z[x%z.size]!).map (PI a):=by rw[Array.map_map];apply RH;intro i _;rw[JQ,Array.size_map];rfl
end
section
variable{α β:Type}{f:α->β}
theorem jX(_:bH PL PM){e:RuntimeError}(d:pQ e=true){b a:Type}(k:b->Sem α)(c:a->Sem β):aG ρ PL PM f (runtimePanic e>>=k) (runtimePanic e>>=c):= .program (by cases e<;>cases d<;>exact .dead trivial)
theorem xJ(e:bH PL PM)(t:TypeId)(l c:Value):aG ρ PL PM (PI ρ) (R6 t l c) (R6 t (PI ρ l) (PI ρ c)):=by
 unfold R6;refine(aK e t).bind λd=> ?_;cases d with
 |slice b=>
  refine(nL l).bind λl=>(nL c).bind λc=>(cS e b).bind λi=> ?_;dsimp only[id];refine aQ ?_ ?_
  ·refine aQ (jX e rfl _ _) (aQ (jX e rfl _ _) ?_);exact aG.bind (f:=id) (.choose λn=> .pure n) λn=>jX e rfl _ _
  ·refine(my _).bind λ_=>(cQ e b).bind λg=> ?_;dsimp only[id];refine aQ ?_ ?_
   ·have h:=pY ρ #[] ((Q4.wrap c).toNat*g);rw[Array.map_empty]at h;refine aG.bind (f:=aS ρ) ?_ λa=>aD _ (by simp[PI]);have:=fB (ρ:=ρ) (PL:=PL) (PM:=PM) b ((Array.range ((Q4.wrap c).toNat*g)).map λx=>(#[]:Array Value)[x%(#[]:Array Value).size]!);rwa [←h]at this
   ·refine(mt e b).bind λz=> ?_;refine aG.bind (f:=aS ρ) ?_ λa=>aD _ (by simp[PI]);rw[fw,pY];exact fB _ _
 |_=>exact .dead trivial
theorem rX(a:Nat->Nat)(off:Nat):∀(l:List (Value×Nat)) (cs:Array Value),
 (l.map λx=>(PI a x.1,x.2)).foldl (λcs x=>cs.setIfInBounds (off+x.2) x.1) (cs.map (PI a))=(l.foldl (λcs x=>cs.setIfInBounds (off+x.2) x.1) cs).map (PI a)
 |[],_=>rfl
 |x::l,cs=>by rw[IN,List.foldl_cons,List.foldl_cons,←Array.map_setIfInBounds,rX a off l]
theorem np(c:Nat->Nat)(a:Nat->Option (Nat×Nat)):∀(b:List (Nat×Value)) (cells:Array Value),
 Instr.fill a (cells.map (PI c)) (b.map λx=>(x.1,PI c x.2))=(Instr.fill a cells b).map (Array.map (PI c))
 |[],_=>rfl
 |(i,v)::rest,cells=>by
  rw[IN];unfold Instr.fill;cases a i with
  |none=>rfl
  |some p=>
   obtain⟨off,size⟩:=p;simp only[fw,Array.size_map];split
   ·rfl
   ·rw[←np c a rest]
    congr 1
    have h:=rX c off v.cells.zipIdx.toList cells;simp only[←Array.foldl_toList];rw[←h]
    congr 1
    simp[List.zipIdx_map]
theorem Dy{a b:Type}{g g':a->Sem b}(h:∀x,aG ρ PL PM id (g x) (g' x)):∀l:List a,aG ρ PL PM id (l.mapM g) (l.mapM g')
 |[]=>by simp only[List.mapM_nil];exact aD _ rfl
 |x::l=>by simp only[List.mapM_cons];exact(h x).bind λy=>(Dy h l).bind λc=>aD _ rfl
theorem KJ{a b:Type}{g g':a->Sem b}(h:∀x,aG ρ PL PM id (g x) (g' x))(xs:Array a):aG ρ PL PM id (xs.mapM g) (xs.mapM g'):=by rw[Array.mapM_eq_mapM_toList,Array.mapM_eq_mapM_toList,map_eq_pure_bind,map_eq_pure_bind];exact(Dy h _).bind λc=>aD _ rfl
theorem Ir(hP:bH PL PM)(t:TypeId)(b:Array (Nat×Value)):aG ρ PL PM (PI ρ) (Instr.build t b) (Instr.build t (b.map λx=>(x.1,PI ρ x.2))):=by
 unfold Instr.build;refine(mt hP t).bind λz=>(aK hP t).bind λd=> ?_;have e:(b.map λx=>(x.1,PI ρ x.2)).toList=b.toList.map λx=>(x.1,PI ρ x.2):=s_
 cases d<;>try exact aU
 ·refine(cQ hP _).bind λg=> ?_;rw[fw,e,np];dsimp only[id];generalize Instr.fill _ _ _=a;cases a<;>exact aU
 ·refine aG.bind (f:=id) (KJ (λx=>by exact aU) _) λc=> ?_;dsimp only[id];rw[fw,e,np];generalize Instr.fill _ _ _=a;cases a<;>exact aU
theorem vi(j:bH PL PM)(t:TypeId)(f:Nat)(b:Array (Nat×Value)):aG ρ PL PM (PI ρ) (Instr.buildSlice t f b) (Instr.buildSlice t f (b.map λx=>(x.1,PI ρ x.2))):=by
 unfold Instr.buildSlice;have k:(b.map λx=>(x.1,PI ρ x.2)).toList=b.toList.map λx=>(x.1,PI ρ x.2):=s_
 refine(aK j t).bind λd=> ?_;cases d with
 |slice e=>
  refine(cQ j e).bind λg=> ?_;dsimp only[id];refine aQ (.dead trivial) (aQ ?_ ?_)
  ·have h:=pY ρ #[] (f*g);rw[Array.map_empty]at h;have l:=np ρ (λi=>some (i*g,g)) b.toList ((Array.range (f*g)).map λx=>(#[]:Array Value)[x%(#[]:Array Value).size]!);rw[←h]at l;show aG ρ PL PM (PI ρ) (match Instr.fill _ _ _ with|some c=>_|_=>_) (match Instr.fill _ _ _ with|some c=>_|_=>_);rw[k,l];cases Instr.fill (λi=>some (i*g,g)) ((Array.range (f*g)).map λx=>(#[]:Array Value)[x%(#[]:Array Value).size]!) b.toList with
   |none=>exact .dead trivial
   |some c=>exact(fB e c).bind λa=>aD _ (by simp[PI])
  ·refine(mt j e).bind λz=> ?_;show aG ρ PL PM (PI ρ) (match Instr.fill _ _ _ with|some c=>_|_=>_) (match Instr.fill _ _ _ with|some c=>_|_=>_);rw[fw,pY,k,np];cases Instr.fill (λi=>some (i*g,g)) ((Array.range (f*g)).map λx=>z.cells[x%z.cells.size]!) b.toList with
   |none=>exact .dead trivial
   |some c=>exact(fB e c).bind λa=>aD _ (by simp[PI])
 |_=>exact .dead trivial
theorem kF(op:BinOp)(k:IntKind)(x y:Int):aG ρ PL PM (PI ρ) (Op.intArith op k x y) (Op.intArith op k x y):=by unfold Op.intArith;exact aU
theorem wB(_:bH PL PM)(op:BinOp)(k:IntKind)(x y:Int):aG ρ PL PM (PI ρ) (Op.intDiv op k x y) (Op.intDiv op k x y):=by unfold Op.intDiv;exact aU
theorem jZ(op:BinOp)(k:IntKind)(x y:Int):aG ρ PL PM (PI ρ) (Op.intBits op k x y) (Op.intBits op k x y):=by unfold Op.intBits;exact aU
theorem A1(_:bH PL PM)(op:BinOp)(k:IntKind)(x:Int)(k2:IntKind)(y:Int):aG ρ PL PM (PI ρ) (Op.shift op k x k2 y) (Op.shift op k x k2 y):=by unfold Op.shift;exact aU
theorem jA(op:BinOp)(x y:Int):aG ρ PL PM (PI ρ) (Op.intCmp op x y) (Op.intCmp op x y):=by unfold Op.intCmp;exact aU
theorem sr(op:BinOp)(x y:ByteArray):aG ρ PL PM (PI ρ) (Op.stringOp op x y) (Op.stringOp op x y):=by unfold Op.stringOp;exact aU
theorem Ie(op:UnOp)(x:Value):aG ρ PL PM (PI ρ) (Op.unary op x) (Op.unary op (PI ρ x)):=by cases x<;>cases op<;>first|exact aU|(rename_i a;cases a<;>exact aU)
end
section
variable{α β:Type}{f:α->β}
theorem tK(k:∀x y,ρ x=ρ y->x=y)(a b:Addr):(aS ρ a==aS ρ b)=(a==b):=by
 obtain⟨j,i,g⟩:=a;obtain⟨f,d,c⟩:=b;by_cases h:(⟨j,i,g⟩:Addr)=⟨f,d,c⟩
 ·rw[h];simp
 ·have l:aS ρ ⟨j,i,g⟩≠aS ρ ⟨f,d,c⟩:=λe=>h (by simp only[aS,Addr.mk.injEq]at e⊢;exact⟨k _ _ e.1,e.2⟩)
  rw[beq_eq_false_iff_ne.2 h,beq_eq_false_iff_ne.2 l]
theorem lE(c:∀x y,ρ x=ρ y->x=y)(a b:Nat):(ρ a==ρ b)=(a==b):=by
 by_cases h:a=b
 ·subst h;simp
 ·rw[beq_eq_false_iff_ne.2 h,beq_eq_false_iff_ne.2 λe=>h (c _ _ e)]
theorem og(a:Addr):aG ρ PL PM id (frozen a) (frozen (aS ρ a)):= .frozen λb=> .pure b
theorem qj(a:Addr):aG ρ PL PM id (stringish a) (stringish (aS ρ a)):=by
 unfold stringish;refine(og a).bind λb=>aQ aU ((er a.block).bind λs=> ?_);cases s
 ·exact aU
 ·exact .frozen λb=> .pure b
theorem A7(a b:Addr):aG ρ PL PM id (mayBeOne a b) (mayBeOne (aS ρ a) (aS ρ b)):=by unfold mayBeOne;exact aU
theorem ss(hi:∀x y,ρ x=ρ y->x=y)(a b:Addr):aG ρ PL PM id (sameAddr a b) (sameAddr (aS ρ a) (aS ρ b)):=by unfold sameAddr;rw[PT,PT,lE hi,tK hi];exact aU
theorem un(hi:∀x y,ρ x=ρ y->x=y)(a b:Option Addr):aG ρ PL PM id (samePointer a b) (samePointer (a.map (aS ρ)) (b.map (aS ρ))):=by cases a<;>cases b<;>unfold samePointer<;>exact aU
end
section
variable{α β:Type}{f:α->β}
theorem qX{a d:Type}(r:a->a){g g':a->d->Sem (ForInStep d)}(h:∀c s,aG ρ PL PM id (g c s) (g' (r c) s)):∀(l:List a) (b:d),aG ρ PL PM id (forIn l b g) (forIn (l.map r) b g')
 |[],b=>by simp only[Ri,List.forIn_nil];exact aD _ rfl
 |c::l,b=>by
  simp only[IN,List.forIn_cons];refine(h c b).bind λs=> ?_;cases s with
  |done x=>exact aD _ rfl
  |yield x=>exact qX r h l x
theorem qY{a d:Type}(r:a->a){g g':a->d->Sem (ForInStep d)}(h:∀c s,aG ρ PL PM id (g c s) (g' (r c) s))(xs:Array a)(b:d):aG ρ PL PM id (forIn xs b g) (forIn (xs.map r) b g'):=by rw[←Array.forIn_toList,←Array.forIn_toList,RD];exact qX r h _ _
theorem ra(x:Value):aG ρ PL PM (PI ρ) (Conv.bytesToString x) (Conv.bytesToString (PI ρ x)):=by
 unfold Conv.bytesToString;cases x<;>try exact aU
 rename_i a l c;cases a
 ·exact aU
 ·simp only[PI,eZ];refine(jn _ l).bind λb=>(qY (PI ρ) (λx s=> ?_) b Qy).bind λs=>aU;cases x<;>exact aU
theorem lF(a:Addr):aG ρ PL PM id (markStringish a) (markStringish (aS ρ a)):=by
 unfold markStringish;refine(er a.block).bind λs=> ?_;cases s
 ·exact aU
 ·exact aG.freeze (a:=⟨_,_,none⟩) (.pure ())
theorem qS(e:TypeId)(s:ByteArray):aG ρ PL PM (PI ρ) (Conv.stringToBytes e s) (Conv.stringToBytes e s):=by
 unfold Conv.stringToBytes;refine aG.bind (f:=id) (.choose λn=> .pure n) λc=> ?_;dsimp only[id];refine aG.bind (f:=aS ρ) ?_ λa=>(lF a).bind λ_=>aD _ (by simp[PI]);have h:=fB (ρ:=ρ) (PL:=PL) (PM:=PM) e ((s.data.map λb:UInt8=>Value.int .u8 b.toNat)++kG (c- s.size) (Value.int .u8 0));have g:((s.data.map λb:UInt8=>Value.int .u8 b.toNat)++kG (c- s.size) (Value.int .u8 0)).map (PI ρ)=(s.data.map λb:UInt8=>Value.int .u8 b.toNat)++kG (c- s.size) (Value.int .u8 0):=by
  refine jQ λv d=> ?_;rcases Array.mem_append.1 d with d|d
  ·obtain⟨b,_,rfl⟩:=Array.mem_map.1 d;simp[PI]
  ·obtain⟨_,rfl⟩:=Array.mem_replicate.1 d;simp[PI]
 rwa [g]at h
theorem MN(hP:bH PL PM)(a:Array TypeId)(t:TypeId)(args:Array Value):aG ρ PL PM (PI ρ) (Builtin.len_ a t args) (Builtin.len_ a t (args.map (PI ρ))):=by unfold Builtin.len_;rw[Array.getElem?_map];cases a[0]?<;>cases args[0]?<;>exact aU
theorem MO(hP:bH PL PM)(a:Array TypeId)(t:TypeId)(args:Array Value):aG ρ PL PM (PI ρ) (Builtin.cap_ a t args) (Builtin.cap_ a t (args.map (PI ρ))):=by unfold Builtin.cap_;rw[Array.getElem?_map];cases a[0]?<;>cases args[0]?<;>exact aU
theorem Aa(x:Value):aG ρ PL PM id (RZ x) (RZ (PI ρ x)):=by unfold RZ;exact aU
theorem iS(size n:Nat)(x:Value):aG ρ PL PM (Array.map (PI ρ)) (Rj size n x) (Rj size n (PI ρ x)):=by
 cases x with
 |slice a l c=>
  cases a with
  |none=>simp only[PI,Option.map_none];exact aD _ s_
  |some a=>simp only[PI,eZ];exact jn a _
 |string s=>
  simp only[PI];refine aD _ (jQ λv d=> ?_).symm;obtain⟨b,_,rfl⟩:=Array.mem_map.1 d;simp[PI]
 |_=>simp only[PI];exact .dead trivial
theorem KL(hP:bH PL PM)(ts:Array TypeId)(t:TypeId)(args:Array Value):aG ρ PL PM (PI ρ) (Builtin.copy_ ts t args) (Builtin.copy_ ts t (args.map (PI ρ))):=by
 unfold Builtin.copy_;rw[Array.getElem?_map,Array.getElem?_map];cases ts[0]?<;>cases args[0]?<;>cases args[1]?<;>try exact .dead trivial
 rename_i x v;refine(aK hP _).bind λa=> ?_;cases a<;>try exact .dead trivial
 cases x<;>try exact .dead trivial
 simp only[PI];refine(Aa v).bind λn=>(cQ hP _).bind λsz=>(iS _ _ v).bind λcs=> ?_;rename_i a _ _;cases a
 ·exact aU
 ·simp only[eZ,RD];exact aU
theorem KI(x y:Value):aG ρ PL PM (PI ρ) (Builtin.min2 x y) (Builtin.min2 (PI ρ x) (PI ρ y)):=by cases x<;>cases y<;>unfold Builtin.min2<;>first|exact aU|(rename_i b;cases b<;>exact aU)
theorem wF:∀(l:List Value) (x:Value),aG ρ PL PM (PI ρ) (l.foldlM Builtin.min2 x) ((l.map (PI ρ)).foldlM Builtin.min2 (PI ρ x))
 |[],x=>aD _ rfl
 |y::l,x=>by simp only[IN,List.foldlM_cons];exact(KI x y).bind λz=>wF l z
theorem ML(a:Array TypeId)(t:TypeId)(args:Array Value):aG ρ PL PM (PI ρ) (Builtin.min_ a t args) (Builtin.min_ a t (args.map (PI ρ))):=by
 unfold Builtin.min_;rw[RD];cases args.toList
 ·exact aU
 ·exact wF _ _
theorem qW(hP:bH PL PM)(t:TypeId)(v:Value):aG ρ PL PM (PI ρ) (Instr.makeInterface t v) (Instr.makeInterface t (PI ρ v)):=by unfold Instr.makeInterface;exact aU
def kY(P:Program)(s:Sem α):Prop:=∀w,∃h w',s.run P w= .halt h w'/\fE h/\(aT w->aT w')
def Nf(P:Program)(s:Sem α):Prop:=∀w,(∀h w',s.run P w= .halt h w'->fE h/\(aT w->aT w'))/\∀a w',s.run P w= .ok a w'->aT w->aT w'
theorem kY.after{c:Type}{s:Sem c}{k:c->Sem α}(d:Nf PL s)(h:∀a,kY PL (k a)):kY PL (s>>=k):=λw=>by
 rw[QC];cases e:s.run PL w with
 |ok a b=>
  obtain⟨x,f,l,j,i⟩:=h a b;exact⟨x,f,l,j,λg=>i ((d w).2 a b e g)⟩
 |halt x b=>exact⟨x,b,rfl,(d w).1 x b e⟩
theorem hY(v:Value):kY PL (goPanic v:Sem α):=λw=>⟨_,w,rfl,trivial,λh=>h⟩
theorem sj(t:TypeId):Nf PL (elemOf t):=λw=>by
 unfold elemOf underlying;simp only[Bind.bind,Qo,program,Sem.run];cases f:PL.underlying t with
 |none=>exact⟨λh b e=>by cases e;exact⟨trivial,λh=>h⟩,λa b e=>by cases e⟩
 |some d=>cases d<;>exact⟨λh b e=>by cases e<;>exact⟨trivial,λh=>h⟩,λa b e c=>by cases e<;>exact c⟩
theorem aT.push(h:aT w){o:Obj}(c:cJ o=true):aT {w with heap:=w.heap.push o}:=by
 intro b x a;simp only[Array.getElem?_push]at a;split at a
 ·cases a;exact c
 ·exact h b x a
theorem si(t:TypeId)(v:Value):Nf PL (newVar t v):=λw=>⟨λh b e=>(by cases e),λa b e c=>(by cases e;exact c.push rfl)⟩
theorem jz(e:RuntimeError):kY PL (runtimePanic e:Sem α):=by unfold runtimePanic;refine kY.after (λw=>⟨λh b e=>(by cases e),λa b e c=>(by cases e;exact c)⟩) λp=> ?_;cases e<;>first|exact hY _|exact kY.after (sj _) λ_=>kY.after (si _ _) λ_=>hY _
theorem Ii(x:Value):aG ρ PL PM (PI ρ) (Instr.panic x) (Instr.panic (PI ρ x)):=by
 unfold Instr.panic;cases x with
 |nilIface=>
  refine .sys λr w=> ?_;rw[Sem.run_bind'];generalize e:Sem.run PL _ w=q;cases q with
  |halt x b=>
   refine⟨x,b,rfl, ?_⟩;cases r<;>cases e<;>exact⟨trivial,λh=>h⟩
  |ok a b=>
   have c:b=w:=(by cases r<;>cases e<;>rfl);subst c;show∃h d,Sem.run PL (if (a==1)=true then goPanic Value.nilIface else runtimePanic RuntimeError.panicNil) b=_/\_;split
   ·exact hY _ b
   ·exact jz _ b
 |_=>exact .dead trivial
end
section
variable{α β:Type}{f:α->β}
theorem kT(a:Addr)(n:Nat):aG ρ PL PM id (Builtin.holdsCells a n) (Builtin.holdsCells (aS ρ a) n):=by unfold Builtin.holdsCells;exact aU
theorem A6(hi:∀x y,ρ x=ρ y->x=y)(size l n:Nat)(base:Option Addr)(x:Value):aG ρ PL PM id (Builtin.mayShare size l n base x) (Builtin.mayShare size l n (base.map (aS ρ)) (PI ρ x)):=by
 unfold Builtin.mayShare;cases base with
 |none=>
  simp only[Option.map_none,pure_bind,Bool.not_true,Q7,↓reduceIte,Option.any_none];cases x<;>try exact aU
  rename_i b _ _;cases b<;>exact aU
 |some a=>
  refine(kT a _).bind λh=> ?_;refine aG.bind (f:=id) (by rw[←fg];exact og _) λc=> ?_;simp only[id,eZ,pure_bind,Option.any_some];refine aQ aU ?_;cases x<;>try exact aU
  rename_i b _ _;cases b
  ·exact aU
  ·simp only[PI,eZ,PT,lE hi];exact aU
theorem mr(a:Nat->Nat)(z:Array Value)(n:Nat):Rm (z.map (PI a)) n=(Rm z n).map (PI a):=by unfold Rm;have:=pY a z (n*z.size);rwa [Array.size_map]at this⊢
theorem Fw(c:bH PL PM)(t:TypeId){k:TypeDesc->Sem α}{a:TypeDesc->Sem β}(h:∀d,PL.underlying t=some d->aG ρ PL PM f (k d) (a d)):aG ρ PL PM f (underlying t>>=k) (underlying t>>=a):=by
 unfold underlying;simp only[Bind.bind];refine .program ?_;simp only[Qo];rw[←c.under t];cases b:PL.underlying t with
 |none=>exact .dead trivial
 |some d=>exact h d b
theorem oD(size n:Nat)(b:Option Addr)(l c:Nat):aG ρ PL PM (Array.map (PI ρ)) (Rj size n (.slice b l c)) (Rj size n (.slice (b.map (aS ρ)) l c)):=by have:=iS (ρ:=ρ) (PL:=PL) (PM:=PM) size n (.slice b l c);simpa only[PI]using this
theorem Fy{q:Question}{k:Nat->Sem α}{a:Nat->Sem β}(h:∀n,aG ρ PL PM f (k n) (a n)):aG ρ PL PM f (choose q>>=k) (choose q>>=a):= .choose h
theorem wu(b:bH PL PM)(e:TypeId)(n size:Nat){k:Array Value->Sem α}{a:Array Value->Sem β}(h:∀cs,aG ρ PL PM f (k cs) (a (cs.map (PI ρ)))):
 aG ρ PL PM f ((if n*size=0 then pure #[]else do pure (Rm (←zeroValue e).cells n))>>=k) ((if n*size=0 then pure #[]else do pure (Rm (←zeroValue e).cells n))>>=a):=by refine aG.bind (f:=Array.map (PI ρ)) (aQ (aD _ s_) ?_) h;exact(mt b e).bind λz=>aD _ (by rw[fw,mr])
theorem Fz(hP:bH PL PM)(hi:∀x y,ρ x=ρ y->x=y)(ts:Array TypeId)(t:TypeId)(args:Array Value):aG ρ PL PM (PI ρ) (RG ts t args) (RG ts t (args.map (PI ρ))):=by
 unfold RG;rw[Array.getElem?_map,Array.getElem?_map];cases ts[0]?<;>cases args[0]?<;>cases args[1]?<;>try exact .dead trivial
 rename_i s x;refine(aK hP _).bind λe=> ?_;cases e<;>try exact .dead trivial
 cases s<;>try exact .dead trivial
 rename_i e base sLen sCap;simp only[PI];refine(cQ hP e).bind λsize=> ?_;dsimp only[id];cases ts[1]?
 case' some t1=>
  refine(aK hP t1).bind λd=> ?_;dsimp only[id];cases d
  case int k=>
   simp only[pure_bind,Q7,↓reduceIte,Bool.not_true];refine(nL x).bind λl=>aQ aU ((cS hP e).bind λi=>aQ aU (aQ (wu hP e _ size λnew=> ?_) ?_))
   ·rcases base with _|a
    ·exact aU
    ·simp only[eZ,←fg,RD];exact aU
   ·refine(cS hP e).bind λi=>aQ aU ((cS hP e).bind λi2=>aQ aU (.choose λc=>(cS hP e).bind λi3=>(my _).bind λ_=>(oD size sLen base sLen sCap).bind λold=>wu hP e _ size λnew=>(mt hP e).bind λz=> ?_));rw[fw,mr,←Array.map_append,←Array.map_append];exact aU
 all_goals
  simp only[pure_bind,Q7,↓reduceIte,Bool.not_false];refine(Aa x).bind λn=>aQ ((iS size n x).bind λnew=> ?_) ((cS hP e).bind λi=>aQ aU ((cS hP e).bind λi2=>aQ ?_ (.choose λc=>(cS hP e).bind λi3=>(my _).bind λ_=>(oD size sLen base sLen sCap).bind λold=>(iS size n x).bind λnew=>(mt hP e).bind λz=> ?_)))
  ·rcases base with _|a
   ·exact aU
   ·simp only[eZ,←fg,RD];exact aU
  ·rw[bind_assoc,bind_assoc];refine(A6 hi size sLen n base x).bind λq=> ?_;cases q
   ·exact .mark rfl (.dead trivial)
   ·exact .dead trivial
  ·rw[fw,mr,←Array.map_append,←Array.map_append];exact aU
end
section
variable{α β:Type}{f:α->β}
theorem wG(hP:bH PL PM)(t:TypeId):aG ρ PL PM id (elemOf t) (elemOf t):=by unfold elemOf;exact aU
theorem nH(hP:bH PL PM)(a:Addr)(u:TypeId)(n:Nat):aG ρ PL PM id (variablesAt a u n) (variablesAt (aS ρ a) u n):=by unfold variablesAt;exact aU
theorem qm:∀(n:Nat) (a:Addr) (c:ByteArray),aG ρ PL PM id (loadBytes a c n) (loadBytes (aS ρ a) c n)
 |0,a,c=>aD _ rfl
 |n+1,a,c=>by
  unfold loadBytes;refine(xK a).bind λv=> ?_;cases v with
  |int k b=>
   simp only[PI];cases k with
   |u8=>rw[←fg];exact qm n _ _
   |_=>exact .dead trivial
  |_=>simp only[PI];exact .dead trivial
theorem Cg(r:Nat):aG ρ PL PM id (cellsIn r) (cellsIn (ρ r)):=by
 unfold cellsIn;refine(er r).bind λs=> ?_;cases s
 ·refine aG.getObj λo _=> ?_;cases o<;>first|exact aD _ rfl|exact aD _ s_
 ·exact aU
theorem sI(hP:bH PL PM)(ts:Array TypeId)(t:TypeId)(args:Array Value):aG ρ PL PM (PI ρ) (Builtin.unsafeString_ ts t args) (Builtin.unsafeString_ ts t (args.map (PI ρ))):=by
 rcases args with⟨_|⟨x,_|⟨v,_|_⟩⟩⟩<;>try exact .dead trivial
 rw[show(Array.mk [x,v]).map (PI ρ)=#[PI ρ x,PI ρ v] by simp];cases x<;>try exact .dead trivial
 rename_i p;simp only[PI];unfold Builtin.unsafeString_;refine aG.bind (nL v) λn=> ?_;cases ts[0]?<;>try exact .dead trivial
 refine aQ aU (aQ aU ?_);cases p
 ·exact aU
 ·refine aQ aU ((wG hP _).bind λe=>(nH hP _ e _).bind λq=>aQ ((qm _ _ _).bind λs=> .freeze aU) aU)
theorem pn(f:bH PL PM)(d:Array TypeId)(t:TypeId)(args:Array Value):aG ρ PL PM (PI ρ) (Builtin.unsafeSliceData_ d t args) (Builtin.unsafeSliceData_ d t (args.map (PI ρ))):=by
 rcases args with⟨l⟩;rcases l with _|⟨x,_|⟨y,l⟩⟩
 ·exact .dead trivial
 ·rw[show(Array.mk [x]).map (PI ρ)=#[PI ρ x] by simp];cases x with
  |slice b l c=>
   rw[show PI ρ (.slice b l c)= .slice (b.map (aS ρ)) l c by simp only[PI]];cases b with
   |none=>exact aD (Value.pointer none) (by simp[PI])
   |some a=>
    unfold Builtin.unsafeSliceData_;show aG ρ PL PM (PI ρ) (if c≠0 then _ else _) (if c≠0 then _ else _);refine aQ (aD _ (by simp[PI])) ?_;refine(oe a.block).bind λv=> ?_;rw[Option.isSome_map];refine aQ (aD _ (by simp[PI])) ?_;refine(wG f t).bind λe=> ?_;refine(qV (.view a e) rfl).bind λn=> ?_;exact aD _ (by simp[PI,aS])
  |_=>exact .dead trivial
 ·exact .dead trivial
theorem ve(s:FloatKind)(b:Nat)(k:IntKind):aG ρ PL PM (PI ρ) (Conv.floatToInt s b k) (Conv.floatToInt s b k):=by unfold Conv.floatToInt;exact aU
theorem je(s:FloatKind)(b:Nat)(k:FloatKind):aG ρ PL PM (PI ρ) (Conv.floatToFloat s b k) (Conv.floatToFloat s b k):=by unfold Conv.floatToFloat;exact aU
theorem oh(s:FloatKind)(a b:Nat)(k:FloatKind):aG ρ PL PM (PI ρ) (Conv.complexToComplex s a b k) (Conv.complexToComplex s a b k):=by unfold Conv.complexToComplex;refine(je s a k).bind λx=> ?_;cases x<;>exact aU
theorem qT(x:Value):aG ρ PL PM (PI ρ) (Conv.runesToString x) (Conv.runesToString (PI ρ x)):=by
 unfold Conv.runesToString;cases x<;>try exact aU
 rename_i a l c;cases a
 ·exact aU
 ·simp only[PI,eZ];refine(jn _ l).bind λb=>(qY (PI ρ) (λx s=> ?_) b Qy).bind λs=>aU;cases x<;>exact aU
theorem vD(b:Nat->Nat)(s:ByteArray):∀(n i:Nat) (a:Array Value),a.map (PI b)=a->(Conv.runesFrom s n i a).map (PI b)=Conv.runesFrom s n i a
 |0,i,a,h=>h
 |n+1,i,a,h=>by
  unfold Conv.runesFrom;split
  ·exact vD b s n _ _ (by rw[Array.map_push,h];simp[PI])
  ·exact h
theorem qR(e:TypeId)(s:ByteArray):aG ρ PL PM (PI ρ) (Conv.stringToRunes e s) (Conv.stringToRunes e s):=by
 unfold Conv.stringToRunes;refine .choose λc=> ?_;have b:∀n,(Conv.runesFrom s s.size 0 #[]++kG n (Value.int .i32 0)).map (PI ρ)=Conv.runesFrom s s.size 0 #[]++kG n (Value.int .i32 0):=λn=>by rw[Array.map_append,vD ρ s s.size 0 #[] s_,Array.map_replicate];simp[PI]
 refine aG.bind (f:=aS ρ) (by have:=fB (ρ:=ρ) (PL:=PL) (PM:=PM) e (Conv.runesFrom s s.size 0 #[]++kG (c-(Conv.runesFrom s s.size 0 #[]).size) (.int .i32 0));rw[b]at this;exact this) λa=>aD _ (by simp[PI])
theorem wx(hP:bH PL PM)(a:Addr):aG ρ PL PM (aS ρ) (Conv.seenAt a) (Conv.seenAt (aS ρ a)):=by unfold Conv.seenAt;exact aU
theorem PV(a:Addr)(b:Bool):aG ρ PL PM (PI ρ) (asNumber a b) (asNumber (aS ρ a) b):=by unfold asNumber;exact aU
theorem zZ(hP:bH PL PM)(src dst:TypeId)(x:Value):aG ρ PL PM (PI ρ) (Conv.unsafePointer src dst x) (Conv.unsafePointer src dst (PI ρ x)):=by unfold Conv.unsafePointer;refine(aK hP src).bind λd=>(aK hP dst).bind λa=> ?_;cases x<;>cases d<;>cases a<;>exact aU
theorem iT(b:Option Addr)(l c:Nat):aG ρ PL PM (PI ρ) (Conv.bytesToString (.slice b l c)) (Conv.bytesToString (.slice (b.map (aS ρ)) l c)):=by
 have:=ra (ρ:=ρ) (PL:=PL) (PM:=PM) (.slice b l c)
 rwa [show PI ρ (.slice b l c)= .slice (b.map (aS ρ)) l c by simp only[PI]]at this
theorem iR(b:Option Addr)(l c:Nat):aG ρ PL PM (PI ρ) (Conv.runesToString (.slice b l c)) (Conv.runesToString (.slice (b.map (aS ρ)) l c)):=by
 have:=qT (ρ:=ρ) (PL:=PL) (PM:=PM) (.slice b l c)
 rwa [show PI ρ (.slice b l c)= .slice (b.map (aS ρ)) l c by simp only[PI]]at this
theorem Cf(g:bH PL PM)(src dst:TypeId)(x:Value):aG ρ PL PM (PI ρ) (convert src dst x) (convert src dst (PI ρ x)):=by
 have f:=zZ (ρ:=ρ) g src dst x;unfold convert;refine(aK g src).bind λd=> ?_;refine(aK g dst).bind λh=> ?_;dsimp only[id];cases x with
 |slice b l c=>
  rw[show PI ρ (.slice b l c)= .slice (b.map (aS ρ)) l c by simp only[PI]]at f⊢;cases b with
  |none=>cases h<;>first|exact f|(cases d<;>first|exact .dead trivial|exact f|(refine(aK g _).bind λe=> ?_;cases e<;>first|exact .dead trivial|(rename_i k;cases k<;>first|exact .dead trivial|exact iT _ _ _|exact iR _ _ _)))
  |some a=>cases h<;>first|exact f|(cases d<;>first|exact .dead trivial|exact f|(refine(aK g _).bind λe=> ?_;cases e<;>first|exact .dead trivial|(rename_i k;cases k<;>first|exact .dead trivial|exact iT _ _ _|exact iR _ _ _))|(refine(aK g _).bind λe=> ?_;cases src==dst<;>first|exact .dead trivial|(cases e<;>first|exact .dead trivial|(rename_i k;cases k<;>first|exact .dead trivial|exact(lF a).bind λ_=>aD _ (by simp[PI])))))
 |pointer p=>
  rw[show PI ρ (.pointer p)= .pointer (p.map (aS ρ)) by simp only[PI]]at f⊢;cases p<;>cases h<;>first|exact f|(cases d<;>first|exact .dead trivial|exact f|(refine(aK g _).bind λe=> ?_;cases e<;>first|exact .dead trivial|(rename_i k;cases k<;>first|exact .dead trivial|exact iT _ _ _|exact iR _ _ _)))
 |_=>
  simp only[PI]at f⊢;cases h<;>first|exact aD _ (by simp[PI])|exact ve _ _ _|exact je _ _ _|exact oh _ _ _ _|exact f|(refine(aK g _).bind λe=> ?_;cases e<;>first|exact .dead trivial|(rename_i k;cases k<;>first|exact .dead trivial|exact qS _ _|exact qR _ _))|(cases d<;>first|exact .dead trivial|exact f|(refine(aK g _).bind λe=> ?_;cases e<;>first|exact .dead trivial|(rename_i k;cases k<;>first|exact .dead trivial|exact iT _ _ _|exact iR _ _ _)))
end
inductive dG {α:Type}:Sem α->Prop
 |pure (a:α):dG (.pure a)
 |choose {q:Question} {k:Nat->Sem α} (h:∀n,dG (k n)):dG (.choose q k)
 |halt {h:Halt} (d:fE h):dG (.halt h)
theorem dG.bind{b c:Type}{s:Sem b}{k:b->Sem c}(h:dG s)(f:∀a,dG (k a)):dG (s>>=k):=by
 show dG (s.bind k);induction h with
 |pure a=>exact f a
 |choose _ e=>exact .choose e
 |halt d=>exact .halt d
theorem dG.ite{a:Type}{c:Prop}[Decidable c]{A B:Sem a}(d:dG A)(b:dG B):dG (if c then A else B):=by split<;>assumption
theorem sU{α:Type}{s:Sem α}(h:dG s:=by
 try simp only[pure_bind]
 first
 |exact .pure _
 |exact .halt trivial
 |with_reducible exact gD _ _ _ _
 |with_reducible exact mD _ _ _ _ _
 |refine dG.ite ?_ ?_
 |refine .choose λn=> ?_
 |refine dG.bind (gD _ _ _ _) λ_=> ?_
 |refine dG.bind (nR _ _ _ _) λ_=> ?_
 |refine dG.bind (qs _ _ _ _) λv=> ?_
 |refine dG.bind (tr _ _ _ _) λv=> ?_
 |refine dG.bind (oN _ _ _) λv=> ?_
 |cases (v:Value)
 |cases (op:BinOp)
 |split
 all_goals exact sU):dG s:=h
theorem qs(op:BinOp)(k:FloatKind)(x y:Nat):dG (Op.floatArith op k x y):=by unfold Op.floatArith;exact sU
theorem tr(op:BinOp)(k:FloatKind)(x y:Nat):dG (Op.floatCmp op k x y):=by unfold Op.floatCmp;exact sU
theorem oN(s:FloatKind)(b:Nat)(k:FloatKind):dG (Conv.floatToFloat s b k):=by unfold Conv.floatToFloat;exact sU
theorem gD(op:BinOp)(k:FloatKind)(x y:Nat):dG (Op.Complex.arith op k x y):=by unfold Op.Complex.arith;exact sU
theorem nR(op:BinOp)(k:FloatKind)(x y:Nat):dG (Op.Complex.cmp op k x y):=by unfold Op.Complex.cmp;exact sU
theorem iv(s:FloatKind)(x:Nat)(k:FloatKind):dG (Op.Complex.conv s x k):=by unfold Op.Complex.conv;exact sU
theorem uK(a b c d:Nat):dG (Op.Complex.product a b c d):=by unfold Op.Complex.product;exact sU
theorem mD(s a b c d:Nat):dG (Op.Complex.corrected s a b c d):=by unfold Op.Complex.corrected;exact sU
theorem tn(a b c d:Nat):dG (Op.Complex.quotient a b c d):=by unfold Op.Complex.quotient;exact sU
section
variable{α β:Type}{f:α->β}
theorem dG.alike{s:Sem α}(h:dG s):aG ρ PL PM id s s:=by
 induction h with
 |pure a=>exact .pure a
 |choose _ b=>exact .choose b
 |halt d=>exact .dead d
theorem vf(op:BinOp)(k:FloatKind)(x y:Nat):aG ρ PL PM (PI ρ) (Op.floatArith op k x y) (Op.floatArith op k x y):=by unfold Op.floatArith;exact aU
theorem Ac(op:BinOp)(k:FloatKind)(x y:Nat):aG ρ PL PM (PI ρ) (Op.floatCmp op k x y) (Op.floatCmp op k x y):=by unfold Op.floatCmp;exact aU
theorem xL(op:BinOp)(k:FloatKind)(a b c d:Nat):aG ρ PL PM (PI ρ) (Op.complexOp op k a b c d) (Op.complexOp op k a b c d):=by
 unfold Op.complexOp;cases op<;>first
  |exact aU
  |exact(gD _ _ _ _).alike.bind λ_=>(gD _ _ _ _).alike.bind λ_=>aU
  |exact(nR _ _ _ _).alike.bind λ_=>(nR _ _ _ _).alike.bind λ_=>aU
  |(refine(iv _ _ _).alike.bind λ_=>(iv _ _ _).alike.bind λ_=>(iv _ _ _).alike.bind λ_=>(iv _ _ _).alike.bind λ_=> ?_
    first
     |refine(uK _ _ _ _).alike.bind λ_=> ?_
     |refine(tn _ _ _ _).alike.bind λ_=> ?_
    exact(iv _ _ _).alike.bind λ_=>(iv _ _ _).alike.bind λ_=>aU)
theorem su(r:Nat):aG ρ PL PM (Option.map λx=>(aS ρ x.1,x.2)) (numberAt r) (numberAt (ρ r)):=by unfold numberAt;exact(er r).bind λs=>aQ aU (.getObj λo _=>by cases o<;>exact aD _ rfl)
theorem dC(a:Addr):aG ρ PL PM (λx=>(aS ρ x.1,x.2)) (behindNumber a) (behindNumber (aS ρ a)):=by unfold behindNumber;refine(su a.block).bind λx=> ?_;cases x<;>exact aU
theorem mu(hP:bH PL PM)(a:Array TypeId)(t:TypeId)(x y:Value):aG ρ PL PM (PI ρ) (Builtin.unsafeAdd_ a t #[x,y]) (Builtin.unsafeAdd_ a t #[PI ρ x,PI ρ y]):=by
 cases x<;>try exact .dead trivial
 rename_i p;simp only[PI];unfold Builtin.unsafeAdd_;refine aG.bind (nL y) λn=> ?_;cases p<;>exact aU
theorem nI(hP:bH PL PM)(t:TypeId)(x y:Value):aG ρ PL PM (PI ρ) (movedNumber t x y) (movedNumber t (PI ρ x) (PI ρ y)):=by
 unfold movedNumber;refine(aK hP t).bind λd=>aQ aU ?_;have b:=mu (ρ:=ρ) hP #[] t x y;cases x<;>simp only[PI]at b⊢<;>try exact b
 rename_i p;cases p
 ·exact b
 rename_i a;refine(dC a).bind λz=> ?_;have c:=mu (ρ:=ρ) hP #[] t (.pointer (some z.1)) y;simp only[PI,eZ]at c;refine c.bind λv=> ?_;cases v<;>try exact aU
 rename_i q;cases q
 ·exact aU
 ·simp only[PI,eZ];exact aU
theorem sJ(hP:bH PL PM)(t:TypeId)(x y:Value):aG ρ PL PM (PI ρ) (movedPointer t x y) (movedPointer t (PI ρ x) (PI ρ y)):=by
 unfold movedPointer;have a:=mu (ρ:=ρ) hP #[] t x y;cases x<;>simp only[PI]at a⊢<;>try exact a
 rename_i p;cases p
 ·exact a
 refine(su _).bind λz=> ?_;rw[Option.isSome_map];exact aQ aU a
def IH(PL PM:Program)(ρ:Nat->Nat):Prop:=(∀x y,ρ x=ρ y->x=y)/\∀b,b<PL.globals.size↔ρ b<PM.globals.size
theorem qg(c:bH PL PM)(d:IH PL PM ρ)(a b:Addr):aG ρ PL PM id (Op.twoPlaces a b) (Op.twoPlaces (aS ρ a) (aS ρ b)):=by
 unfold Op.twoPlaces;refine .program ?_;simp only[Qo];have f:((aS ρ a).block !=(aS ρ b).block)=(a.block !=b.block):=by have:=lE d.1 a.block b.block;simp only[bne,aS,this]
 have e:decide ((aS ρ a).block≥PM.globals.size)=decide (a.block≥PL.globals.size):=by have:=d.2 a.block;exact decide_eq_decide.2 (by simp only[aS];omega)
 rw[f,e];refine aQ (.dead trivial) ?_;refine(iJ c a).bind λx=>(iJ c b).bind λy=>aD _ rfl
theorem Cj(c:bH PL PM)(d:IH PL PM ρ)(k:IntKind)(a b:Addr):aG ρ PL PM (PI ρ) (Op.addrSub k a b) (Op.addrSub k (aS ρ a) (aS ρ b)):=
 (qg c d a b).bind λx=>aD _ (by simp[PI])
theorem mA(c:bH PL PM)(d:IH PL PM ρ)(op:BinOp)(a b:Addr):aG ρ PL PM (PI ρ) (Op.addrCmp op a b) (Op.addrCmp op (aS ρ a) (aS ρ b)):=
 (qg c d a b).bind λx=>by cases op<;>first|exact aD _ (by simp[PI])|exact .dead trivial
theorem pp(hP:bH PL PM)(k:IntKind)(a:Addr)(n:Int):aG ρ PL PM (PI ρ) (Op.addrMod k a n) (Op.addrMod k (aS ρ a) n):=by unfold Op.addrMod;exact aU
end
section
variable{α β:Type}{f:α->β}
theorem wC{d a:Type}{g g':d->a->Sem (ForInStep a)}(h:∀c s,aG ρ PL PM id (g c s) (g' c s))(xs:Array d)(b:a):aG ρ PL PM id (forIn xs b g) (forIn xs b g'):=by
 have:=qY (ρ:=ρ) (PL:=PL) (PM:=PM) id h xs b
 rwa [Array.map_id]at this
theorem wD{a:Type}{g g':Nat->a->Sem (ForInStep a)}(h:∀c s,aG ρ PL PM id (g c s) (g' c s))(r:Std.Legacy.Range)(b:a):aG ρ PL PM id (forIn r b g) (forIn r b g'):=by rw[Std.Legacy.Range.forIn_eq_forIn_range',Std.Legacy.Range.forIn_eq_forIn_range'];have:=qX (ρ:=ρ) (PL:=PL) (PM:=PM) id h (List.range' r.start r.size r.step) b;rwa [List.map_id]at this
def Nc(ρ:Nat->Nat)(PL PM:Program)(d:Nat):Prop:=∀(t:TypeId) (x y:Value),aG ρ PL PM id (Op.equalIn d t x y) (Op.equalIn d t (PI ρ x) (PI ρ y))
theorem Iq(hP:bH PL PM){d:Nat}(ih:Nc ρ PL PM d)(t:TypeId)(xs:Array Value)(y:Value):aG ρ PL PM id (Op.equalIn (d+1) t (.agg xs) y) (Op.equalIn (d+1) t (PI ρ (.agg xs)) (PI ρ y)):=by
 unfold Nc at ih;unfold Op.equalIn;refine(aK hP t).bind λe=> ?_;cases e<;>cases y<;>try exact aU
 ·simp only[PI,id];refine(cQ hP _).bind λz=> ?_;exact(wD (λi a=>by exact aU) _ (none,())).bind λa=>by exact aU
 ·simp only[PI,id];refine .program ?_;simp only[Qo];rw[←hP.stood];exact aQ aU ((wC (λb a=>by exact aU) _ (none,())).bind λa=>by exact aU)
theorem Ce(hP:bH PL PM){d:Nat}(ih:Nc ρ PL PM d)(t:TypeId)(a:TypeId)(v1:Value)(y:Value):aG ρ PL PM id (Op.equalIn (d+1) t (.iface a v1) y) (Op.equalIn (d+1) t (PI ρ (.iface a v1)) (PI ρ y)):=by
 unfold Op.equalIn;refine(aK hP t).bind λe=> ?_;cases e<;>cases y<;>try exact aU
 simp only[PI,id];refine aQ aU ((cS hP a).bind λi=>aQ (.program (.program ?_)) (ih a v1 _));simp only[Qo];rw[←hP.packed];unfold typeStr;exact aU
theorem Ip(hP:bH PL PM)(hF:IH PL PM ρ)(d:Nat)(t:TypeId)(a:Option Addr)(y:Value):aG ρ PL PM id (Op.equalIn (d+1) t (.pointer a) y) (Op.equalIn (d+1) t (PI ρ (.pointer a)) (PI ρ y)):=by
 unfold Op.equalIn;refine(aK hP t).bind λe=> ?_;cases y
 case pointer b=>
  have hi:=hF.1;simp only[PI];cases e<;>cases a<;>cases b<;>try exact aU
  ·rename_i a b;simp only[id,eZ];refine(dC a).bind λu=>(dC b).bind λv=> .program ?_;have c:decide (ρ u.1.block<PM.globals.size)=decide (u.1.block<PL.globals.size):=decide_eq_decide.2 (hF.2 u.1.block).symm;simp only[Qo];rw[PT,PT,lE hF.1,c,tK hF.1];exact aU
  ·exact un hF.1 (some _) (some _)
  ·simp only[id,eZ,tK hF.1];exact aU
 case int k n=>cases e<;>cases a<;>rcases n with(_|n)|n<;>exact aU
 all_goals cases e<;>cases a<;>exact aU
end
section
variable{α β:Type}{f:α->β}
theorem kK(c:∀x y,ρ x=ρ y->x=y)(a b:Option Nat):(a.map ρ==b.map ρ)=(a==b):=by cases a<;>cases b<;>first|rfl|exact lE c _ _
theorem eQ{s s':Sem Bool}(h:aG ρ PL PM id s s':=by simp only[PI,Option.map_none,Option.map_some];unfold Op.equalIn;refine(aK hP t).bind λe=> ?_;dsimp only[id];cases e<;>first|exact .dead trivial|exact aD _ rfl|exact aQ (aD _ rfl) (.dead trivial)|exact aD _ (kK hF.1 _ _)):aG ρ PL PM id s s':=h
theorem uv(hP:bH PL PM)(hF:IH PL PM ρ):∀d:Nat,Nc ρ PL PM d
 |0=>λ_ _ _=> .dead trivial
 |d+1=>λt x y=>by
  have ih:=uv hP hF d;cases x<;>first|exact Iq hP ih t _ y|exact Ce hP ih t _ _ y|exact Ip hP hF d t _ y|skip
  all_goals cases y<;>first|exact eQ|(rename_i a;cases a<;>exact eQ)|(rename_i a p;cases a<;>cases p<;>exact eQ)|(rename_i a p;cases p<;>rcases a with(_|a)|a<;>exact eQ)|(rename_i a _ _;cases a<;>exact eQ)|(rename_i a _ _ _ _;cases a<;>exact eQ)|(rename_i a _ _ _ _ _;cases a<;>exact eQ)|(rename_i a _ _ p;cases a<;>cases p<;>exact eQ)|(rename_i a _ _ p _ _;cases a<;>cases p<;>exact eQ)
end
section
variable{α β:Type}{f:α->β}
theorem ut(hP:bH PL PM):∀(d:Nat) (t:TypeId) (x y:Value),aG ρ PL PM id (Op.eqGuardIn d t x y) (Op.eqGuardIn d t (PI ρ x) (PI ρ y))
 |0,t,x,y=> .dead trivial
 |d+1,t,x,y=>by
  have ih:=ut hP d;unfold Op.eqGuardIn;refine(aK hP t).bind λe=> ?_;cases e<;>try exact aU
  all_goals cases x<;>cases y<;>try exact aU
  ·simp only[PI,id];refine(cQ hP _).bind λz=> ?_;exact(wD (λi st=>by exact aU) _ (none,())).bind λst=>by exact aU
  ·simp only[PI,id];exact(wC (λfd st=>by exact aU) _ (none,())).bind λst=>by exact aU
theorem Im(hP:bH PL PM)(op:BinOp)(t:TypeId)(a b:Operand)(x y:Value):aG ρ PL PM id (eqGuard op t a b x y) (eqGuard op t a b (PI ρ x) (PI ρ y)):=by unfold eqGuard;have c:=ut (ρ:=ρ) hP Op.maxDepth t x y;refine aQ aU ?_;cases x<;>cases y<;>simp only[PI]at c⊢<;>first|exact aD _ rfl|exact aQ aU (c.bind λq=>aU)|(refine .program (.program ?_);simp only[Qo];rw[←hP.guard];exact aQ aU (c.bind λq=>aU))
def ei(x y:Value):Bool:=
 match x,y with
 | .int _ _, .int _ _| .float _ _, .float _ _| .complex _ _ _, .complex _ _ _| .string _, .string _=>true
 |_,_=>false
theorem yh(x y:Value):ei (PI ρ x) (PI ρ y)=ei x y:=by cases x<;>cases y<;>simp only[PI,ei]
theorem Dr(t:TypeId){x y:Value}(h:ei x y=false):binOp .eql t x y=(do pure (.bool (←Op.equal t x y))):=by cases x<;>cases y<;>first|rfl|(simp[ei]at h;done)
theorem Dq(t:TypeId){x y:Value}(h:ei x y=false):binOp .neq t x y=(do pure (.bool (!(←Op.equal t x y)))):=by cases x<;>cases y<;>first|rfl|(simp[ei]at h;done)
theorem vj(hP:bH PL PM)(op:BinOp)(t:TypeId){x y:Value}(h:ei x y=true):aG ρ PL PM (PI ρ) (binOp op t x y) (binOp op t (PI ρ x) (PI ρ y)):=by
 cases x<;>cases y<;>first|(cases h;done)|skip
 all_goals cases op<;>simp only[PI,binOp]<;>exact aU
theorem xO(hP:bH PL PM)(op:BinOp)(t:TypeId)(k:IntKind)(n:Int)(p:Option Addr)(c:op≠ .eql)(b:op≠ .neq):aG ρ PL PM (PI ρ) (binOp op t (.int k n) (.pointer p)) (binOp op t (.int k n) (.pointer (p.map (aS ρ)))):=by have a:=nI (ρ:=ρ) hP t (.pointer p) (.int k n);simp only[PI]at a;cases op<;>first|exact a|contradiction|(cases p<;>simp only[Option.map_none,eZ,binOp]<;>exact aU)
theorem xN(hP:bH PL PM)(op:BinOp)(t:TypeId)(k:IntKind)(n:Int)(p:Option Addr)(e:op≠ .eql)(c:op≠ .neq):aG ρ PL PM (PI ρ) (binOp op t (.pointer p) (.int k n)) (binOp op t (.pointer (p.map (aS ρ))) (.int k n)):=by have a:=λn=>nI (ρ:=ρ) hP t (.pointer p) (.int k n);have b:=sJ (ρ:=ρ) hP t (.pointer p) (.int k n);simp only[PI]at a b;cases op<;>first|exact a _|exact(aK hP t).bind λd=>aQ b (a n)|contradiction|(cases p<;>simp only[Option.map_none,eZ,binOp]<;>exact aU)
theorem xM(hP:bH PL PM)(hF:IH PL PM ρ)(op:BinOp)(t:TypeId)(p q:Option Addr)(b:op≠ .eql)(a:op≠ .neq):aG ρ PL PM (PI ρ) (binOp op t (.pointer p) (.pointer q)) (binOp op t (.pointer (p.map (aS ρ))) (.pointer (q.map (aS ρ)))):=by cases op<;>first|contradiction|(cases p<;>cases q<;>first|exact .dead trivial|exact(dC _).bind λx=>(dC _).bind λy=>Cj hP hF _ x.1 y.1|exact(dC _).bind λx=>(dC _).bind λy=>mA hP hF _ x.1 y.1)
theorem I6(op:BinOp)(t:TypeId){x y:Value}(c:ei x y=false)(b:op≠ .eql)(a:op≠ .neq)(g:∀p,x= .pointer p->(∀k n,y≠ .int k n)/\∀q,y≠ .pointer q)(f:∀p,y= .pointer p->∀k n,x≠ .int k n):∃h,binOp op t x y= .halt h/\fE h:=by
 cases x with
 |pointer p=>
  obtain⟨e,d⟩:=g p rfl;cases y with
  |int k n=>exact absurd rfl (e k n)
  |pointer q=>exact absurd rfl (d q)
  |_=>cases p<;>cases op<;>first|exact⟨_,rfl,trivial⟩|exact absurd rfl b|exact absurd rfl a
 |int k n=>
  cases y with
  |pointer q=>exact absurd rfl (f q rfl k n)
  |_=>cases op<;>first|exact⟨_,rfl,trivial⟩|exact absurd rfl b|exact absurd rfl a|(simp[ei]at c;done)
 |_=>
  cases y with
  |pointer q=>cases q<;>cases op<;>first|exact⟨_,rfl,trivial⟩|exact absurd rfl b|exact absurd rfl a
  |_=>cases op<;>first|exact⟨_,rfl,trivial⟩|exact absurd rfl b|exact absurd rfl a|(simp[ei]at c;done)
theorem MQ(a:bH PL PM)(j:IH PL PM ρ)(op:BinOp)(t:TypeId)(x y:Value):aG ρ PL PM (PI ρ) (binOp op t x y) (binOp op t (PI ρ x) (PI ρ y)):=by
 cases d:ei x y with
 |true=>exact vj a op t d
 |false=>
  have c:=(yh (ρ:=ρ) x y).trans d;by_cases i:op= .eql
  ·subst i;rw[Dr t d,Dr t c];exact aG.bind (uv a j _ t x y) λb=>aD _ (by simp[PI])
  ·by_cases g:op= .neq
   ·subst g;rw[Dq t d,Dq t c];exact aG.bind (uv a j _ t x y) λb=>aD _ (by simp[PI])
   ·by_cases f:(∀p,x= .pointer p->(∀k n,y≠ .int k n)/\∀q,y≠ .pointer q)/\∀p,y= .pointer p->∀k n,x≠ .int k n
    ·obtain⟨h,e,l⟩:=I6 op t d i g f.1 f.2;rw[e];exact .dead l
    ·cases x with
     |pointer p=>
      cases y with
      |int k n=>
       have:=xN (ρ:=ρ) a op t k n p i g
       rwa [show PI ρ (.pointer p)= .pointer (p.map (aS ρ)) by simp only[PI],show PI ρ (.int k n)= .int k n by simp only[PI]]
      |pointer q=>
       have:=xM (ρ:=ρ) a j op t p q i g
       rwa [show PI ρ (.pointer p)= .pointer (p.map (aS ρ)) by simp only[PI],show PI ρ (.pointer q)= .pointer (q.map (aS ρ)) by simp only[PI]]
      |_=>exact absurd ⟨λ_ _=>⟨λ_ _ h=>by simp at h,λ_ h=>by simp at h⟩,λ_ h=>by simp at h⟩ f
     |int k n=>
      cases y with
      |pointer q=>
       have:=xO (ρ:=ρ) a op t k n q i g
       rwa [show PI ρ (.pointer q)= .pointer (q.map (aS ρ)) by simp only[PI],show PI ρ (.int k n)= .int k n by simp only[PI]]
      |_=>exact absurd ⟨λ_ h=>by simp at h,λ_ h=>by simp at h⟩ f
     |_=>exact absurd ⟨λ_ h=>by simp at h,λ_ _ _ _ h=>by simp at h⟩ f
end
def Gs(ρ:Nat->Nat):Place->Place
 | .val v=> .val (PI ρ v)
 | .var a=> .var (aS ρ a)
section
variable{α β:Type}{f:α->β}
theorem Ca(b:bH PL PM)(t:TypeId)(x:Place):aG ρ PL PM (PI ρ) (x.get t) ((Gs ρ x).get t):=by
 cases x with
 |val v=>exact aD _ rfl
 |var a=>exact jY b t a
theorem qZ(hP:bH PL PM):∀(l:List FieldStep) (t:TypeId) (x:Place),aG ρ PL PM (λy=>(y.1,Gs ρ y.2)) (follow l t x) (follow l t (Gs ρ x))
 |[],t,x=>aD _ rfl
 |s::rest,t,x=>by
  have ih:=qZ hP rest;unfold follow;refine(aK hP s.struct).bind λe=> ?_;dsimp only[id];cases e<;>try exact aU
  rename_i fs;dsimp only;cases fs[s.index]? with
   |none=>exact .dead trivial
   |some fd=>
    dsimp only;refine aQ ?_ ?_
    ·refine(Ca hP t x).bind λv=> ?_;refine(lH hP v).bind λa=> ?_;refine(kU hP a fd).bind λb=> ?_;exact ih fd.type (.var b)
    ·cases x with
     |var a=>
      refine(kU hP a fd).bind λb=> ?_;exact ih fd.type (.var b)
     |val v=>
      cases v with
      |agg cs=>
       simp only[Gs,PI];refine(gv hP fd.type cs fd.offset).bind λu=> ?_;exact ih fd.type (.val u)
      |_=>exact .dead trivial
theorem k8(l:Nat){k:Loop->Sem α}{a:Loop->Sem β}(h:∀r,cJ (.loop r)=true->aG ρ PL PM f (k r) (a (xj ρ r))):aG ρ PL PM f (Re l>>=k) (Re (ρ l)>>=a):=by
 unfold Re;refine .getObj λo b=> ?_;cases o with
 |loop r=>exact h r b
 |_=>exact .dead trivial
theorem oE(b:bH PL PM)(l:Nat):aG ρ PL PM id (Instr.beginRound l) (Instr.beginRound (ρ l)):=by
 unfold Instr.beginRound;refine k8 l λr a=>.setObj (o:= .loop {r with state:= .busy}) a ?_;show aG ρ PL PM id (match r.state with| .ready=>_| .done=>_| .busy=>_| .exhausted=>_) (match r.state with| .ready=>_| .done=>_| .busy=>_| .exhausted=>_);cases r.state with
 |ready=>exact aD _ rfl
 |_=>exact io b rfl
theorem sy(l:Nat)(a:Option Code)(c:a.all (ji 0)=true):aG ρ PL PM (PI ρ) (Instr.endRound l a) (Instr.endRound (ρ l) a):=by unfold Instr.endRound;refine k8 l λr b=>.setObj (o:= .loop {r with state:=if a.isNone then .ready else .done,pending:=a}) ?_ (aD _ (by simp[PI]));simp only[cJ,i5]at b⊢;exact⟨⟨b.1.1,c⟩,b.2⟩
theorem po(b:bH PL PM)(l:Nat):aG ρ PL PM id (QO l) (QO (ρ l)):=by unfold QO;refine k8 l λr a=> ?_;show aG ρ PL PM id (if (r.state==LoopState.busy)=true then _ else _) (if (r.state==LoopState.busy)=true then _ else _);refine aQ (jX b rfl _ _) ?_;exact .setObj (o:= .loop {r with state:= .exhausted}) a (aD _ rfl)
theorem jd(b:Nat):aG ρ PL PM (List.map (mJ ρ)) (Instr.takeDeferred b) (Instr.takeDeferred (ρ b)):=by
 unfold Instr.takeDeferred;refine .getObj λo c=> ?_;cases o with
 |deferred a=>
  cases a with
  |none=>exact .dead trivial
  |some a=>exact .setObj (o:= .deferred none) rfl (aD _ rfl)
 |_=>exact .dead trivial
theorem PQ(fn:FuncId)(tmps:Array Value)(params:Array Tmp)(assign body:Code)(a:Option Nat)(g:ji 0 assign=true)(f:ji 0 body=true)(e:dX fn=0):
 aG ρ PL PM (λx=>(ρ x.1,x.2.map (mJ ρ))) (Instr.enterLoop fn tmps params assign body a) (Instr.enterLoop fn (tmps.map (PI ρ)) params assign body (a.map ρ)):=by
 unfold Instr.enterLoop;have c:∀d,cJ (.loop {state:= .ready,pending:=none,fn,tmps,params,assign,body,defers:=d})=true:=λd=>by simp[cJ,g,f,e]
 cases a with
 |none=>
  refine .new (o:= .deferred (some [])) rfl λb=> ?_;exact .new (o:= .loop {state:= .ready,pending:=none,fn,tmps,params,assign,body,defers:=b}) (c b) λn=>aD _ (by simp[mJ,NW])
 |some l=>
  simp only[eZ];refine k8 l λr h=> ?_;exact .new (o:= .loop {state:= .ready,pending:=none,fn,tmps,params,assign,body,defers:=r.defers}) (c _) λn=>aD _ rfl
end
def fC(ρ:Nat->Nat):Next->Next
 | .value v=> .value (PI ρ v)
 | .enter f args=> .enter f (args.map (PI ρ))
 | .round l f tmps a b=> .round (ρ l) f (tmps.map (PI ρ)) a b
 |n=>n
section
variable{α β:Type}{f:α->β}
theorem C7(hP:bH PL PM)(ts:Array TypeId)(t:TypeId)(p:Value)(a b:ByteArray):aG ρ PL PM (PI ρ) (Builtin.ssaWrapNilChk_ ts t #[p, .string a, .string b]) (Builtin.ssaWrapNilChk_ ts t #[PI ρ p, .string a, .string b]):=by
 cases p<;>try exact .dead trivial
 rename_i p;simp only[PI];unfold Builtin.ssaWrapNilChk_;cases p
 ·refine .choose λn=>aQ aU ?_;cases ts[0]?<;>exact aU
 ·show aG ρ PL PM (PI ρ) (pure (Value.pointer (some _))) (pure (Value.pointer (some (aS ρ _))));exact aU
theorem oC(hP:bH PL PM)(t:TypeId)(x:Place)(ptr:Bool)(w:Option String):aG ρ PL PM (PI ρ) (receiverAt t x ptr w) (receiverAt t (Gs ρ x) ptr w):=by
 unfold receiverAt;refine(aK hP t).bind λd=> ?_;have hg:=Ca (ρ:=ρ) hP t x;cases d<;>cases ptr<;>try (cases x<;>first|exact hg|exact aU)
 refine hg.bind λv=> ?_;cases w
 ·simp only[pure_bind];exact(lH hP v).bind λa=>jY hP _ a
 ·exact(C7 hP _ _ v _ _).bind λp=>(lH hP p).bind λa=>jY hP _ a
theorem uq(b:bH PL PM)(t:TypeId)(v:Value)(path:Array FieldStep)(a:Bool):aG ρ PL PM (PI ρ) (receiverVia t v path a) (receiverVia t (PI ρ v) path a):=by unfold receiverVia;exact(qZ b path.toList t (.val v)).bind λy=>oC b y.1 y.2 a none
theorem wA(a:bH PL PM):∀(n:Nat) (t:TypeId) (v:Value) (name:String),aG ρ PL PM (λy=>(y.1,PI ρ y.2)) (method n t v name) (method n t (PI ρ v) name)
 |0,t,v,name=> .dead trivial
 |n+1,t,v,name=>by
  have d:=wA a n;unfold method;refine(cS a t).bind λi=> ?_;dsimp only[id];cases i.methods.find? (·.name==name)with
  |none=>exact .dead trivial
  |some m=>
   refine(qZ a m.path.toList t (.val v)).bind λy=> ?_;dsimp only;cases m.func with
   |none=>
    refine(Ca a y.1 y.2).bind λu=> ?_;cases u with
    |iface c b=>simp only[PI];exact d c b name
    |nilIface=>simp only[PI];exact io a rfl
    |_=>simp only[PI];exact .dead trivial
   |some p=>exact(oC a y.1 y.2 p.2 _).bind λr=>aD _ rfl
theorem Ad(hP:bH PL PM):∀(l:List FieldStep) (t:TypeId) (x:Option Value),aG ρ PL PM (λy=>y.map λz=>(z.1,z.2.map (PI ρ))) (followBlind l t x) (followBlind l t (x.map (PI ρ)))
 |[],t,x=>aD _ rfl
 |s::rest,t,x=>by
  have ih:=Ad hP rest;unfold followBlind;refine(aK hP s.struct).bind λe=> ?_;dsimp only[id];cases e<;>try exact .dead trivial
  rename_i fs;dsimp only;cases fs[s.index]?<;>try exact .dead trivial
  rename_i fd;dsimp only;cases s.deref<;>cases x<;>try first|exact aD _ rfl|exact ih fd.type none
  ·rename_i v;cases v<;>try exact .dead trivial
   simp only[eZ,PI];exact(gv hP fd.type _ fd.offset).bind λu=>ih fd.type (some u)
  ·rename_i v;cases v<;>try exact .dead trivial
   rename_i p;simp only[eZ,PI];cases p
   ·exact aD _ rfl
   ·exact ih fd.type none
theorem sv(hP:bH PL PM):∀(n:Nat) (t:TypeId) (v:Value) (name:String),aG ρ PL PM id (nilAhead n t v name) (nilAhead n t (PI ρ v) name)
 |0,t,v,name=>aD _ rfl
 |n+1,t,v,name=>by
  have ih:=sv hP n;unfold nilAhead;refine(cS hP t).bind λi=> ?_;dsimp only[id];cases i.methods.find? (·.name==name)with
  |none=>exact .dead trivial
  |some m=>
   refine(Ad hP m.path.toList t (some v)).bind λy=> ?_;cases y
   ·exact aD _ rfl
   rename_i z;obtain⟨xt,x⟩:=z;simp only[Except.map];cases m.func
   ·cases x
    ·exact aD _ rfl
    rename_i u;cases u<;>simp only[eZ,PI]<;>first|exact ih _ _ name|exact aD _ rfl|exact .dead trivial
   rename_i p;obtain⟨g,b⟩:=p;cases b
   ·refine(aK hP xt).bind λd=> ?_;cases d<;>cases x<;>try exact aD _ rfl
    rename_i u;cases u<;>simp only[id,eZ,PI]<;>first|exact aD _ rfl|(rename_i q;cases q<;>exact aD _ rfl)
   ·cases x<;>exact aD _ rfl
def iK(ρ:Nat->Nat)(PL PM:Program)(g:FuncId):Prop:=
 ∀fn,PL.funcs[g]?=some fn→fn.name≠ "runtime.NumGoroutine" ∧
  ((fn.body.isSome=true∧∃fn',PM.funcs[g]?=some fn'∧fn'.body.isSome=true∧fn'.name≠ "runtime.NumGoroutine")∨
   (fn.body=none∧RY fn=none∧Sr fn=none∧(fn.name.endsWith ".init" && !fn.name.startsWith "(" && !fn.name.startsWith "gosem.")=false)∨
   (fn.body=none/\RY fn=none/\PM.funcs[g]?=some fn/\∃e,Sr fn=some e/\∀args,aG ρ PL PM (PI ρ) (e args) (e (args.map (PI ρ)))))
theorem nJ(g:FuncId)(q:iK ρ PL PM g)(args:Array Value):aG ρ PL PM (fC ρ) (callFunc g args) (callFunc g (args.map (PI ρ))):=by
 unfold callFunc;refine .program ?_;simp only[Qo];cases s:PL.funcs[g]? with
 |none=>exact .dead trivial
 |some j=>
  obtain⟨p,r⟩:=q j s;have b:(j.name== "runtime.NumGoroutine")=false:=by simpa using p
  dsimp only;rw[b];simp only[Q7,↓reduceIte];rcases r with⟨c,d,i,h,f⟩|⟨c,m,l,k⟩|⟨c,m,i,e,l,k⟩
  ·have a:(d.name== "runtime.NumGoroutine")=false:=(by simpa using f);rw[i];dsimp only;rw[a];have o:j.body.isNone=false:=(by rw[Option.isNone_eq_false_iff];exact c);have n:d.body.isNone=false:=(by rw[Option.isNone_eq_false_iff];exact h);rw[o,n];simp only[Q7,↓reduceIte];exact aD _ rfl
  ·rw[c,m,l,k];exact .deadMark trivial
  ·rw[i];dsimp only;rw[b,c,m,l];refine .mark rfl ?_;exact(k args).bind λv=>aD _ rfl
theorem kV(a:bH PL PM)(b:∀g,iK ρ PL PM g)(r:Value)(name:String)(args:Array Value):aG ρ PL PM (fC ρ) (callMethod r name args) (callMethod (PI ρ r) name (args.map (PI ρ))):=by
 unfold callMethod;cases r with
 |iface t v=>
  simp only[PI];refine .program ?_;simp only[Qo];rw[←a.types];refine(wA a _ t v name).bind λy=> ?_;have:=nJ y.1 (b y.1) (#[y.2]++args);simpa only[Array.map_append,Rk,IN,Ri]using this
 |nilIface=>simp only[PI];exact io a rfl
 |_=>simp only[PI];exact .dead trivial
theorem Cu(a:Nat->Nat):∀(l:List (Tmp×Value)) (tmps:Array Value),(l.map λx=>(x.1,PI a x.2)).foldl (λb x=>b.setIfInBounds x.1 x.2) (tmps.map (PI a))=(l.foldl (λb x=>b.setIfInBounds x.1 x.2) tmps).map (PI a)
 |[],tmps=>rfl
 |x::l,tmps=>by simp only[IN,List.foldl_cons];rw[←Array.map_setIfInBounds,Cu a l]
theorem Ic(l:Nat)(args:Array Value):aG ρ PL PM (fC ρ) (Instr.yield l args) (Instr.yield (ρ l) (args.map (PI ρ))):=by
 unfold Instr.yield;refine k8 l λr a=> ?_;rw[Array.size_map];refine aQ (.dead trivial) (aD _ ?_);simp only[fC,xj,Next.round.injEq,true_and,and_true];have:=Cu ρ (r.params.zip args).toList r.tmps;rw[←Array.foldl_toList,←Array.foldl_toList];rw[←this]
 congr 1
 simp[Array.zip_eq_zipWith,List.zipWith_map_right,List.map_zipWith]
end
section
variable{α β:Type}{f:α->β}
theorem cg{s s':Sem Value}(h:aG ρ PL PM (PI ρ) s s'):aG ρ PL PM (fC ρ) (do pure (.value (←s))) (do pure (.value (←s'))):=h.bind λ_=>aD _ rfl
theorem xH{s s':Sem Unit}(h:aG ρ PL PM id s s'):aG ρ PL PM (fC ρ) (do s;pure .skip) (do s';pure .skip):=h.bind λ_=>aD _ rfl
theorem Ci(c:bH PL PM)(e:IH PL PM ρ)(b:Builtin)(d:JE b=true)(a:Array TypeId)(t:TypeId)(cs:Array Bool)(args:Array Value):aG ρ PL PM (fC ρ) (builtin b a t cs args) (builtin b a t cs (args.map (PI ρ))):=by
 cases b with
 |append=>exact cg (Fz c e.1 a t args)
 |cap=>exact cg (MO c a t args)
 |copy=>exact cg (KL c a t args)
 |len=>exact cg (MN c a t args)
 |min=>exact cg (ML a t args)
 |unsafeSliceData=>exact cg (pn c a t args)
 |unsafeString=>exact cg (sI c a t args)
 |_=>simp[JE]at d
theorem sx(e:bH PL PM)(c:∀g,iK ρ PL PM g)(fn:Fn)(cap args:Array Value):aG ρ PL PM (fC ρ) (invoke (.fn fn cap) args) (invoke (.fn (kv ρ fn) (cap.map (PI ρ))) (args.map (PI ρ))):=by
 cases fn with
 |func g=>
  have:=nJ g (c g) (args++cap);rw[Array.map_append]at this;exact this
 |method a=>
  unfold invoke;simp only[kv];rw[Array.getElem?_map];cases args[0]? with
  |none=>exact .dead trivial
  |some r=>
   have:=kV e c r a (args.extract 1 args.size);rw[Array.map_extract]at this;simp only[eZ,Array.size_map];exact this
 |methodOf t a=>
  unfold invoke;simp only[kv];rw[Array.getElem?_map];cases args[0]? with
  |none=>exact .dead trivial
  |some r=>
   simp only[eZ,Array.size_map];refine(aK e t).bind λd=> ?_;dsimp only[id];have i:=kV e c r a (args.extract 1 args.size);have h:=kV e c (.iface t r) a (args.extract 1 args.size);rw[Array.map_extract]at i h;rw[show PI ρ (.iface t r)= .iface t (PI ρ r) by simp only[PI]]at h;cases d with
   |interface j=>exact i
   |_=>exact h
 |via t b g f=>
  unfold invoke;simp only[kv];rw[Array.getElem?_map];cases args[0]? with
  |none=>exact .dead trivial
  |some r=>
   simp only[eZ,Array.size_map];refine(uq e t r b f).bind λv=> ?_;have:=nJ g (c g) (#[v]++args.extract 1 args.size);rw[Array.map_append,Array.map_extract]at this;simpa only[Rk,IN,Ri]using this
 |yield l=>exact Ic l args
variable{ev':Operand->Value}{z:Nat}
theorem evs(b:∀x,mO z x=true->ev' x=PI ρ (ev x)){xs:Array Operand}(h:xs.all (mO z)=true):xs.map ev'=(xs.map ev).map (PI ρ):=by rw[Array.map_map];refine RH λx a=> ?_;exact b x (Qm.1 h x a)
theorem P7(a:∀x,mO z x=true->ev' x=PI ρ (ev x)){x:Option Operand}(h:x.all (mO z)=true):x.map ev'=(x.map ev).map (PI ρ):=by
 cases x with
 |none=>rfl
 |some x=>simp only[eZ];rw[a x h]
theorem Pn(c:∀x,mO z x=true->ev' x=PI ρ (ev x)){a:Array (Nat×Operand)}(h:(a.all λx=>mO z x.2)=true):(a.map λ(i,x)=>(i,ev' x))=(a.map λ(i,x)=>(i,ev x)).map λx=>(x.1,PI ρ x.2):=by rw[Array.map_map];refine RH λx b=> ?_;have:=c x.2 (Qm.1 h x b);simp only[Function.comp,this]
theorem KM(i:bH PL PM)(n:IH PL PM ρ)(m:∀g,iK ρ PL PM g)(l:∀x,mO z x=true->ev' x=PI ρ (ev x))(c:Call)(t:TypeId)(h:oX z c=true):
 aG ρ PL PM (fC ρ) (do let d←resolve ev c t;invoke d.target d.args) (do let d←resolve ev' c t;invoke d.target d.args):=by
 unfold resolve;simp only[oX,i5]at h;rw[evs l h.1];have f:=h.2;cases a:c.callee with
 |builtin b=>
  rw[a]at f;exact Ci i n b f _ _ _ _
 |invoke r k=>rw[a]at f;cases f
 |value g=>
  rw[a]at f;dsimp only;rw[l g f];unfold Deferred.ofValue;cases ev g with
  |func o first j=>
   simp only[PI,pure_bind];rw[←Array.map_append];exact sx i m o j _
  |nilFunc=>
   simp only[PI,pure_bind];exact io (e:= .nilDeref) i rfl
  |_=>simp only[PI];exact .dead trivial
theorem A3(hP:bH PL PM)(v:Value)(x x':Operand)(hx:ev x=v)(hx':ev' x'=PI ρ v){o o':Oper}(ho:o.op= .nilCheck x)(ho':o'.op= .nilCheck x'):aG ρ PL PM (fC ρ) (execOp ev o) (execOp ev' o'):=by
 unfold execOp;rw[ho,ho'];dsimp only;rw[hx,hx'];cases v<;>simp only[PI]<;>try first|exact .program (.dead trivial)|exact aD _ (by simp[fC,PI];done)
 ·rename_i p;cases p
  ·exact .program (.dead trivial)
  ·exact aD (Next.value (.pointer (some _))) (by simp[fC,PI])
 ·rename_i fn first cap
  cases fn<;>try exact aD (Next.value (.func _ first cap)) (by simp[fC,PI])
  rename_i name;have hq:aG ρ PL PM (fC ρ) (pure (.value (.func (.method name) first cap))) (pure (.value (.func (.method name) (first.map (PI ρ)) (cap.map (PI ρ))))):=aD _ (by simp[fC,PI,kv]);simp only[kv];rw[Array.getElem?_map];cases first[0]?
  ·exact hq
  rename_i u;cases u<;>simp only[eZ,PI]<;>try first|exact .program (.dead trivial)|exact hq
  refine .program ?_;simp only[Qo];rw[←hP.types];exact(sv hP _ _ _ name).bind λq=>aQ (.dead trivial) hq
theorem xI(hP:bH PL PM)(hF:IH PL PM ρ)(hg:∀g,iK ρ PL PM g)(he:∀x,mO z x=true->ev' x=PI ρ (ev x))(o:Oper)(ho:kL z o.op=true):aG ρ PL PM (fC ρ) (execOp ev o) (execOp ev' o):=by
 by_cases hn:∃x,o.op= .nilCheck x
 ·obtain⟨x,hx⟩:=hn;rw[hx]at ho;exact A3 hP (ev x) x x rfl (he x ho) hx hx
 unfold execOp;cases hop:o.op
 case nilCheck x=>exact absurd ⟨x,hop⟩ hn
 all_goals rw[hop]at ho
 all_goals try simp only[kL,i5]at ho
 all_goals try simp only[he,evs he,Pn he,P7 he,ho]
 all_goals first
  |exact aD _ rfl
  |exact KM hP hF hg he _ o.type ho
  |exact cg (It hP _)
  |exact cg (MP _ _)
  |exact cg (Ir hP _ _)
  |exact cg (vi hP _ _ _)
  |exact cg (gI hP _ _)
  |exact xH (C8 hP _ _ _)
  |exact cg ((Im hP _ _ _ _ _ _).bind λ_=>MQ hP hF _ _ _ _)
  |exact cg (Ie _ _)
  |exact cg (Cf hP _ _ _)
  |exact cg (qW hP _ _)
  |exact cg (A9 _ ho.1.1 _ _)
  |exact cg (xJ hP _ _ _)
  |exact cg (C9 hP _ _ _ _ _)
  |exact cg (Cb hP _ _ _)
  |exact cg (Io hP _ _ _)
  |exact cg (k6 hP _ _ _)
  |exact cg (Il hP _ _ _)
  |exact cg (Cc _ _)
  |exact cg (Ii _)
  |exact(wH _).bind λq=>aD _ (by cases q<;>rfl)
  |cases ho
end
def dr(ρ:Nat->Nat):Item->Item
 | .inRangeFunc l=> .inRangeFunc (ρ l)
 | .endRangeFunc l=> .endRangeFunc (ρ l)
 | .call d w r s=> .call (mJ ρ d) w r (s.map (PI ρ))
 | .extern r a=> .extern r (a.map (PI ρ))
 |i=>i
def lx:Value->Bool
 | .pointer (some a)=>a.block==fh
 |_=>false
def iO(ρ:Nat->Nat)(v:Value):Value:=if lx v=true then v else PI ρ v
def mH(z:Nat)(ρ:Nat->Nat)(v:Value):Value:=if z=1 then iO ρ v else v
def ig(ρ:Nat->Nat)(fn:FuncId)(tmps:Array Value):Array Value:=
 tmps.mapIdx λi v=>if pr (dX fn) i=true then mH (dX fn) ρ v else PI ρ v
def bU(ρ:Nat->Nat)(fr:Frame):Frame:=
 {fr with tmps:=ig ρ fr.fn fr.tmps,todo:=fr.todo.map (dr ρ),defers:=fr.defers.map (mJ ρ),roundOf:=fr.roundOf.map ρ}
def mb(z:Nat):Item->Bool
 | .code c=>ji z c
 | .inLoop b| .inScope b=>ji z b
 | .inBlock _=>true
 | .inRegion ops _=>ops.all (GB z)
 | .inRangeFunc _| .endRangeFunc _| .beginRound=>z==0
 | .call ..| .extern ..=>false
def cY(ds:List Deferred):Bool:=ds.all λd=>match d.target with| .collected _=>true|_=>false
structure ie (fr:Frame):Prop where
 todo:fr.todo.all (mb (dX fr.fn))=true
 defers:cY fr.defers=true
 mode:fr.mode= .run\/fr.mode= .returning
 kind:fr.kind= .normal
 round:dX fr.fn≠0->fr.roundOf=none
theorem vH(a:Nat->Nat)(fn:FuncId)(tmps:Array Value):(ig a fn tmps).size=tmps.size:=by simp[ig]
theorem ek(a:Nat->Nat)(fn:FuncId)(tmps:Array Value)(t:Nat)(h:pr (dX fn) t=false):(ig a fn tmps)[t]?=(tmps[t]?).map (PI a):=by simp only[ig,RF,h,Q7,↓reduceIte]
theorem ku(a:Nat->Nat)(fn:FuncId)(tmps:Array Value)(t:Nat)(h:pr (dX fn) t=true):(ig a fn tmps)[t]?=(tmps[t]?).map (mH (dX fn) a):=by simp only[ig,RF,h,↓reduceIte]
theorem m6(a:Nat->Nat){fn:FuncId}(h:dX fn=0)(tmps:Array Value):ig a fn tmps=tmps.map (PI a):=by
 have:dX fn=0:=by simpa using h
 apply RL
 ·simp[ig]
 ·intro i c b;simp[ig,this,PF]
theorem fq(a:Nat->Nat):PI a undef=undef:=bI a undef rfl
theorem gZ(fr:Frame)(x:Operand)(h:mO (dX fr.fn) x=true):(bU ρ fr).eval x=PI ρ (fr.eval x):=by
 cases x with
 |tmp t=>
  have a:pr (dX fr.fn) t=false:=by simp only[mO,Bool.not_eq_true']at h;exact h
  have:=ek ρ fr.fn fr.tmps t a;simp only[Frame.eval,bU,Array.getD_eq_getD_getElem?];rw[this];cases fr.tmps[t]? with
  |none=>exact(fq ρ).symm
  |some v=>rfl
 |const v=>simp only[Frame.eval];exact(bI ρ v h).symm
 |func g=>simp[Frame.eval,PI,kv]
 |global g=>cases h
theorem Gr(a:Nat->Nat)(fn:FuncId)(tmps:Array Value)(d:Nat)(v:Value)(h:pr (dX fn) d=false):(ig a fn tmps).setIfInBounds d (PI a v)=ig a fn (tmps.setIfInBounds d v):=by
 apply Sd;intro i;by_cases f:pr (dX fn) i=true
 ·rw[ku a fn _ i f];have b:d≠i:=λe=>by subst e;rw[h]at f;cases f
  rw[sN b,sN b,ku a fn _ i f]
 ·have c:pr (dX fn) i=false:=by simpa using f
  rw[ek a fn _ i c];by_cases g:d=i
  ·subst g;rw[Array.getElem?_setIfInBounds,Array.getElem?_setIfInBounds,vH];simp only[↓reduceIte];split<;>rfl
  ·rw[sN g,sN g,ek a fn _ i c]
def cF(fr:Frame):Prop:=∀o d,fr.oper?=some o->o.dst=some d->pr (dX fr.fn) d=false
theorem fM(fr:Frame)(v:Value)(h:ie fr)(z:cF fr):(bU ρ fr).finish (PI ρ v)=bU ρ (fr.finish v):=by
 obtain⟨y,f,b,m,u,x,g⟩:=fr;cases b with
 |nil=>rfl
 |cons i k=>
  have p:=h.todo;simp only[List.all_cons,i5]at p;cases i with
  |inRegion c b=>
   cases b with
   |nil=>rfl
   |cons j t=>
    have q:∀d,(c[j]?).bind (·.dst)=some d->pr (dX y) d=false:=λd e=>by
     cases n:c[j]? with
     |none=>rw[n]at e;cases e
     |some o=>rw[n]at e;exact z o d n e
    simp only[bU,Frame.finish,IN,dr];cases e:(c[j]?).bind (·.dst)with
    |none=>simp
    |some d=>simp[Gr ρ y f d v (q d e)]
  |inRangeFunc l=>rfl
  |beginRound=>rfl
  |call d w r s=>cases p.1
  |extern r a=>cases p.1
  |_=>rfl
theorem ew(fr:Frame)(v:Value)(h:ie fr):ie (fr.finish v):=by
 obtain⟨z,q,b,f,u,x,e⟩:=fr;have p:=h;obtain⟨c,o,n,m,g⟩:=h;cases b with
 |nil=>exact p
 |cons i k=>
  simp only[List.all_cons,i5]at c;cases i with
  |inRegion y b=>
   cases b with
   |nil=>exact p
   |cons j t=>exact⟨by simp only[Frame.finish,List.all_cons,i5];exact⟨c.1,c.2⟩,o,n,m,g⟩
  |inRangeFunc l=>exact⟨by simp only[Frame.finish,List.all_cons,i5];exact⟨c.1,c.2⟩,o,n,m,g⟩
  |beginRound=>exact⟨c.2,o,n,m,g⟩
  |call d w r s=>cases c.1
  |extern r a=>cases c.1
  |_=>exact p
theorem qP(l:∃fn a,PL.funcs[f]?=some fn/\PM.funcs[f]?=some a/\fn.ntmps=a.ntmps/\fn.body=a.body)(args:Array Value)(k:∀v∈args,lx v=false)(g:dX f≠2):Qc PM f (args.map (PI ρ)) .normal=bU ρ (Qc PL f args .normal):=by
 obtain⟨fn,a,r,q,p,o⟩:=l;simp only[Qc,bU,r,q,eZ,Q2,QA,p,o,IN,Ri,dr,Option.map_none,Array.size_map]
 congr 1
 apply Sd;intro i;by_cases b:pr (dX f) i=true
 ·rw[ku ρ f _ i b,←Array.getElem?_map,Array.map_append,Array.map_replicate];have c:dX f=1:=by
   unfold pr at b;simp only[Bool.or_eq_true,i5,beq_iff_eq]at b;rcases b with h|h
   ·exact h.1
   ·exact absurd h.1 g
  have e:∀v,mH (dX f) ρ v=iO ρ v:=λv=>by simp[mH,c]
  have n:args.map (mH (dX f) ρ)=args.map (PI ρ):=RH λv j=>by rw[e];simp[iO,k v j]
  have m:mH (dX f) ρ undef=undef:=(e _).trans (fq ρ);rw[n,m]
 ·have d:pr (dX f) i=false:=by simpa using b
  rw[ek ρ f _ i d,←Array.getElem?_map,Array.map_append,Array.map_replicate,fq]
def xR:Next->Bool
 | .value _| .skip| .enter ..| .round ..=>true
 |_=>false
def cN(P:Program)(s:Sem Next):Prop:=∀w n w',s.run P w= .ok n w'->xR n=true
theorem cN.pure{n:Next}(h:xR n=true):cN P (pure n):=λw m a e=>by cases e;exact h
theorem cN.halt(x:Halt):cN P (.halt x):=λw m a e=>by cases e
theorem cN.after{b:Type}{s:Sem b}{k:b->Sem Next}(h:∀a,cN P (k a)):cN P (s>>=k):=λw n f e=>by
 rw[QC]at e;cases d:s.run P w with
 |ok a c=>rw[d]at e;exact h a c n f e
 |halt x c=>rw[d]at e;cases e
theorem cN.ite{c:Prop}[Decidable c]{A B:Sem Next}(b:cN P A)(a:cN P B):cN P (if c then A else B):=by
 split
 ·exact b
 ·exact a
theorem cN.rt(e:RuntimeError):cN P (runtimePanic e):=λw n c h=>by obtain⟨x,b,a,_⟩:=jz (PL:=P) (α:=Next) e w;rw[a]at h;cases h
theorem fL(s:Sem Value):cN P (do pure (.value (←s))):=cN.after λ_=> .pure rfl
theorem qL(s:Sem Unit):cN P (do s;pure .skip):=cN.after λ_=> .pure rfl
theorem kP(g:FuncId)(m:iK ρ P PM g)(args:Array Value):cN P (callFunc g args):=by
 unfold callFunc;intro w n j h;rw[QC]at h
 change (match P.funcs[g]? with|none=>_|some b=>_:Sem Next).run P w=_ at h
 cases d:P.funcs[g]? with
 |none=>rw[d]at h;cases h
 |some b=>
  rw[d]at h;obtain⟨l,o⟩:=m b d;have c:(b.name== "runtime.NumGoroutine")=false:=by simpa using l
  simp only[c,Q7,↓reduceIte]at h;rcases o with⟨a,_⟩|⟨a,i,f,p⟩|⟨a,i,_,e,f,_⟩
  ·have k:b.body.isNone=false:=(by rw[Option.isNone_eq_false_iff];exact a);simp only[k,Q7,↓reduceIte]at h;cases h;rfl
  ·rw[a,i,f,p]at h;cases h
  ·rw[a,i,f]at h;exact cN.after (P:=P) (s:=mark (.extern g)) (λ_=>fL (e args)) w n j h
theorem mI(a:∀g,iK ρ P PM g)(r:Value)(name:String)(args:Array Value):cN P (callMethod r name args):=by
 unfold callMethod;cases r with
 |iface t v=>exact cN.after λp=>cN.after λy=>kP y.1 (a y.1) _
 |nilIface=>exact cN.rt _
 |_=>exact cN.halt _
theorem BI(l:Nat)(args:Array Value):cN P (Instr.yield l args):=by unfold Instr.yield;refine cN.after λr=> ?_;exact cN.ite (cN.halt _) (.pure rfl)
theorem ox(b:∀g,iK ρ P PM g)(fn:Fn)(cap args:Array Value):cN P (invoke (.fn fn cap) args):=by
 cases fn with
 |func g=>exact kP g (b g) _
 |method a=>
  unfold invoke;dsimp only;cases args[0]? with
  |none=>exact cN.halt _
  |some r=>exact mI b _ _ _
 |methodOf t a=>
  unfold invoke;dsimp only;cases args[0]? with
  |none=>exact cN.halt _
  |some r=>exact cN.after λd=>mI b _ _ _
 |via t c g e=>
  unfold invoke;dsimp only;cases args[0]? with
  |none=>exact cN.halt _
  |some r=>exact cN.after λd=>kP g (b g) _
 |yield l=>exact BI l args
theorem xv(b:Builtin)(c:JE b=true)(a:Array TypeId)(t:TypeId)(cs:Array Bool)(args:Array Value):cN P (builtin b a t cs args):=by cases b<;>first|exact fL _|(simp[JE]at c;done)
theorem EP(j:∀g,iK ρ P PM g)(ev:Operand->Value){z:Nat}(c:Call)(t:TypeId)(i:oX z c=true):cN P (do let d←resolve ev c t;invoke d.target d.args):=by
 unfold resolve;simp only[oX,i5]at i;have e:=i.2;cases a:c.callee with
 |builtin b=>rw[a]at e;exact xv b e _ _ _ _
 |invoke r h=>rw[a]at e;cases e
 |value g=>
  dsimp only;unfold Deferred.ofValue;cases ev g with
  |func k first f=>exact ox j k f _
  |nilFunc=>exact cN.rt .nilDeref
  |_=>exact cN.halt _
theorem vZ(f:∀g,iK ρ P PM g)(ev:Operand->Value){z:Nat}(o:Oper)(e:kL z o.op=true):cN P (execOp ev o):=by
 unfold execOp;cases d:o.op with
 |move x=>exact .pure rfl
 |assign x=>exact .pure rfl
 |pick a b c=>exact cN.after λ_=> .pure rfl
 |store t a x=>exact qL _
 |nilCheck x=>
  dsimp only;split<;>first
   |exact cN.rt _
   |exact .pure rfl
   |(split<;>first
      |exact cN.rt _
      |exact .pure rfl
      |(refine cN.after λ_=>cN.after λ_=> ?_;exact cN.ite (cN.halt _) (.pure rfl)))
 |call c=>rw[d]at e;exact EP f ev c o.type e
 |_=>first
  |exact fL _
  |(rw[d]at e;cases e)
def gB(P:Program)(fr:Frame)(cs:List Frame):Next->Goroutine
 | .value v=>{frame:=fr.finish v,callers:=cs,status:= .running,dying:=none}
 | .enter f args=>{frame:=Qc P f args .normal,callers:=fr::cs,status:= .running,dying:=none}
 | .round l f tmps a b=>{frame:=Frame.round l f tmps a b .normal,callers:=fr::cs,status:= .running,dying:=none}
 |_=>{frame:=fr.finish undef,callers:=cs,status:= .running,dying:=none}
def eJ(fr:Frame):Prop:=∀d w r s k,fr.todo≠ .call d w r s::k
theorem ie.noCall(h:ie fr):eJ fr:=λd w r s k e=>by have:=h.todo;rw[e]at this;simp[mb]at this
section
variable{s:Sem Next}
theorem dF(g:eJ fr){n:Next}(b:s.runT P w #[]=(.ok n w',es))(c:xR n=true):
 stepG.apply P true fr cs none s w= .go (gB P fr cs n) w' (seen P fr.fn (if fr.kind== .early then #[]else es)):=by
 have d:=g;unfold stepG.apply;simp only[b,↓reduceIte];cases n with
 |enter f a=>
  simp only[AS,gB,Array.append_empty];split
  ·rename_i e;exact absurd e (d _ _ _ _ _)
  ·rfl
 |_=>first
  |(simp[xR]at c;done)
  |simp[AS,gB]
theorem lI{a:Array Event}{x:GStep}(h:AS es x= .go g w a):∃es1,x= .go g w es1:=by cases x<;>simp only[AS,GStep.go.injEq,reduceCtorEq]at h;obtain⟨rfl,rfl,_⟩:=h;exact⟨_,rfl⟩
theorem rY{m:String}(h:endFatal P fr cs none m w= .go g w' es)(a:g.dying=none):False:=by
 unfold endFatal at h;dsimp only at h;split at h
 ·simp only[dieOf,GStep.go.injEq]at h;obtain⟨rfl,_,_⟩:=h;cases a
 ·cases h
 ·cases h
theorem jK(fr:Frame)(a:List PanicEntry)(b:fr.mode= .run\/fr.mode= .returning):∃c,(fr.raise a).mode= .panicking c:=by unfold Frame.raise;rcases b with h|h<;>rw[h]<;>exact⟨_,rfl⟩
theorem qe(t:eJ fr)(j:fr.mode= .run\/fr.mode= .returning)(z:cN P s)(h:stepG.apply P listen fr cs none s w= .go g w' es)
 (d:g.status= .running/\∀c,g.frame.mode≠ .panicking c) (y:∀k a,s.run P w≠ .halt (.unsupported (.initOrder k)) a)
 (l:g.dying=none):∃n,s.run P w= .ok n w'/\xR n=true/\g=gB P fr cs n:=by
 have i:(if listen=true then s.runT P w #[]else(s.run P w,#[])).1=s.run P w:=by
  split
  ·exact Sem.runT_fst P s w #[]
  ·rfl
 unfold stepG.apply at h;generalize (if listen=true then s.runT P w #[]else(s.run P w,#[]))=q at h i;obtain⟨r,B⟩:=q;simp only at i;subst i;simp only at h;cases b:s.run P w with
 |ok n a=>
  rw[b]at h;have p:=z w n a b;cases n with
  |enter f o=>
   simp only[AS,GStep.go.injEq]at h;obtain⟨rfl,rfl,_⟩:=h;refine⟨_,rfl,rfl, ?_⟩;simp only[gB];split
   ·rename_i e;exact absurd e (t _ _ _ _ _)
   ·rfl
  |_=>first
   |(simp[xR]at p;done)
   |(simp only[AS,GStep.go.injEq]at h
     obtain⟨rfl,rfl,_⟩:=h;exact⟨_,rfl,rfl,rfl⟩)
 |halt x a=>
  rw[b]at h;exfalso;cases x with
  |panic v=>
   simp only[AS,GStep.go.injEq]at h;obtain⟨rfl,_,_⟩:=h;obtain⟨c,e⟩:=jK fr _ j;exact d.2 c e
  |goexit=>
   simp only[AS,GStep.go.injEq]at h;obtain⟨rfl,_,_⟩:=h;obtain⟨c,e⟩:=jK fr _ j;exact d.2 c e
  |blocked=>
   simp only[AS,GStep.go.injEq]at h;obtain⟨rfl,_,_⟩:=h;cases d.1
  |waiting=>
   simp only[AS,GStep.go.injEq]at h;obtain⟨rfl,_,_⟩:=h;cases d.1
  |unsupported u=>
   cases u with
   |initOrder k=>exact y _ _ b
   |_=>simp[AS]at h
  |stuck m=>simp[AS]at h
  |exit c=>simp[AS]at h
  |throw m=>
   simp only[endThrow,dieOf,AS,GStep.go.injEq]at h;obtain⟨rfl,_,_⟩:=h;cases l
  |fatal m=>
   obtain⟨A,C⟩:=lI h;exact rY C l
end
theorem dZ(P:Program)(fn:FuncId)(es:Array Event):∀e∈seen P fn es,e∈es:=by
 intro e b;unfold seen at b;dsimp only at b;revert b;refine Array.foldl_induction (motive:=λ_ (x:Bool×Array Event)=>e∈x.2->e∈es) s_ ?_;intro i c a;obtain⟨q,d⟩:=c;dsimp only;split
 ·exact a
 ·intro h;dsimp only at h;split at h
  ·exact a h
  ·rcases Array.mem_push.1 h with h|h
   ·exact a h
   ·rw[h];exact Array.getElem_mem _
structure eN (G:Nat) (D:Nat->Prop) (ρ:Nat->Nat) (base:List Frame) (gL gM:Goroutine):Prop where
 frame:∀ρ',aR G D ρ ρ'->gM.frame=bU ρ' gL.frame
 callers:∀ρ',aR G D ρ ρ'->gM.callers=gL.callers.map (bU ρ')++base
 ok:ie gL.frame
 oks:∀c∈gL.callers,ie c/\cF c
 run:gL.status= .running/\gM.status= .running/\gL.dying=none/\gM.dying=none
theorem CN(a:Nat->Nat)(n:Next):xR (fC a n)=xR n:=by cases n<;>rfl
theorem tT{f g:Value->Value}{xs:Array Value}(h:xs.map f=xs.map g)(hv:v∈xs):f v=g v:=by obtain⟨i,hi,rfl⟩:=Array.mem_iff_getElem.1 hv;have:=congrArg (λys:Array Value=>ys[i]?) h;simpa[hi]using this
theorem cT.noTab{G T:Nat}{c:Nat->Nat}{wL d:World}(h:cT G T D c wL d)(g:fh<G)(hv:∀b,aR G D c b->PI b v=PI c v):lx v=false:=by
 cases v with
 |pointer p=>
  cases p with
  |none=>rfl
  |some a=>
   have e:D a.block:=h.dom λb f=>by have:=hv b f;simp only[PI,eZ,Value.pointer.injEq,Option.some.injEq]at this;exact congrArg Addr.block this
   have:=h.out _ e;simp only[lx,beq_eq_false_iff_ne];omega
 |_=>rfl
section
variable{G T:Nat}{base:List Frame}
def kH(PL PM:Program)(f:FuncId):Prop:=∃fn fn',PL.funcs[f]?=some fn/\PM.funcs[f]?=some fn'/\fn.ntmps=fn'.ntmps/\fn.body=fn'.body/\∃c,fn.body=some c/\rN f c=true
theorem kD(hG:fh<G)(hV:∀w a b,World.farLoad PM w a b=World.farLoad PL w a b)(hS:∀w a v b,World.farStore PM w a v b=World.farStore PL w a v b)(V:cT G T D ρ wL wM)
 {fr':Frame} {cs':List Frame} (y:∀g,aR G D ρ g->fr'=bU g fr) (A:∀g,aR G D ρ g->cs'=cs.map (bU g)++base) (ok:ie fr) (z:∀c∈cs,ie c/\cF c) (o:cF fr)
 {s s':Sem Next} (hs:∀g,aR G D ρ g->aG g PL PM (fC g) s s') (h4:cN PL s) (hI:∀k E,s.run PL wL≠ .halt (.unsupported (.initOrder k)) E)
 (hE:∀f args E,s.run PL wL= .ok (.enter f args) E->kH PL PM f)
 (hR:∀l f tmps a b E,s.run PL wL= .ok (.round l f tmps a b) E->ji 0 a=true/\ji 0 b=true/\dX f=0)
  {I:Goroutine} {wL':World} {R:Array Event} (h:stepG.apply PL listen fr cs none s wL= .go I wL' R) (hT:wL'.drawn<=T) (hq:I.status= .running/\∀c,I.frame.mode≠ .panicking c) (hd:I.dying=none):
 ∃D' g W wM' J,stepG.apply PM true fr' cs' none s' wM= .go W wM' J/\eN G D' g base I W/\jf G T D ρ wL wM D' g wL' wM'/\∀e∈J,j6 D' g e:=by
 obtain⟨n,u,U,rfl⟩:=qe ok.noCall ok.mode h4 h hq hI hd;obtain⟨D',p,r',wM',a0,e1,e2,B,e4⟩:=fp hV hS fC s s' D ρ wL wM V hs #[] _ wL' u rfl hT;cases e2 with
 | @ok _ Z _ _ j=>
   have H:=y ρ V.self;have P:eJ fr':=by
    intro d w r s k e;rw[H]at e;have:=ok.noCall;cases M:fr.todo with
    |nil=>simp[bU,M]at e
    |cons i t=>
     simp only[bU,M,IN,List.cons.injEq]at e;cases i<;>simp[dr]at e;exact this _ _ _ _ _ M
   have O:xR Z=true:=(by rw[j p B.rel.self,CN];exact U);have N:=dF (cs:=cs') P e1 O;refine⟨D',p,_,wM',_,N, ?_,B,λe he=> ?_⟩
   ·have q:=λg (m:aR G D' p g)=>aR.of_ran B m;cases n with
    |value v=>
     refine⟨λg m=> ?_,λg m=> ?_,ew fr v ok,z, ?_⟩
     ·rw[j g m];show fr'.finish (PI g v)=bU g (fr.finish v);rw[y g (q g m),fM fr v ok o]
     ·rw[j g m];exact A g (q g m)
     ·rw[j p B.rel.self];exact⟨rfl,rfl,rfl,rfl⟩
    |skip=>
     refine⟨λg m=> ?_,λg m=> ?_,ew fr undef ok,z, ?_⟩
     ·rw[j g m];show fr'.finish undef=bU g (fr.finish undef);rw[y g (q g m),←fM fr undef ok o,fq]
     ·rw[j g m];exact A g (q g m)
     ·rw[j p B.rel.self];exact⟨rfl,rfl,rfl,rfl⟩
    |enter f args=>
     obtain⟨fn,Q,K,L,F,Y,c,X,S⟩:=hE f args wL' u;have ha:∀v∈args,lx v=false:=λv hv=>by refine B.rel.noTab hG λg m=> ?_;have:=(j g m).symm.trans (j p B.rel.self);simp only[fC,Next.enter.injEq,true_and]at this;exact tT this hv
     refine⟨λg m=> ?_,λg m=> ?_, ?_, ?_, ?_⟩
     ·rw[j g m];exact qP ⟨fn,Q,K,L,F,Y⟩ args ha (GC S)
     ·rw[j g m];show fr'::cs'=_;rw[y g (q g m),A g (q g m)];rfl
     ·refine⟨?_,rfl, .inl rfl,rfl,λ_=>rfl⟩;simp only[gB,Qc,K,QA,X,Q2,List.all_cons,List.all_nil,Bool.and_true];exact GD S
     ·intro x C;rcases PZ.1 C with rfl|C
      ·exact⟨ok,o⟩
      ·exact z x C
     ·rw[j p B.rel.self];exact⟨rfl,rfl,rfl,rfl⟩
    |round l f tmps a b=>
     obtain⟨K,L,F⟩:=hR l f tmps a b wL' u;refine⟨λg m=> ?_,λg m=> ?_, ?_, ?_, ?_⟩
     ·rw[j g m];show Frame.round (g l) f (tmps.map (PI g)) a b .normal=bU g (Frame.round l f tmps a b .normal);simp only[Frame.round,bU,m6 g F,IN,Ri,dr,eZ]
     ·rw[j g m];show fr'::cs'=_;rw[y g (q g m),A g (q g m)];rfl
     ·have hz:dX f=0:=(by simpa using F);refine⟨?_,rfl, .inl rfl,rfl,λe=>absurd F e⟩;simp[gB,Frame.round,hz,mb,K,L]
     ·intro x C;rcases PZ.1 C with rfl|C
      ·exact⟨ok,o⟩
      ·exact z x C
     ·rw[j p B.rel.self];exact⟨rfl,rfl,rfl,rfl⟩
    |_=>simp[xR]at U
   ·have:=dZ _ _ _ e he;split at this
    ·simp at this
    ·exact e4 e (by simpa using this)
end
theorem pe(a:Nat->Nat)(id:Nat):∀k:List Item,exitTo id (k.map (dr a))=(exitTo id k).map (List.map (dr a))
 |[]=>rfl
 |i::k=>by
  have b:=pe a id k;cases i with
  |inBlock c=>
   simp only[IN,dr,exitTo];split
   ·rfl
   ·exact b
  |_=>simp only[IN,dr,exitTo];exact b
theorem qN(z:Nat)(id:Nat):∀(k:List Item) {t:List Item},exitTo id k=some t->k.all (mb z)=true->t.all (mb z)=true
 |[],t,h,_=>by cases h
 |i::k,t,h,ha=>by
  simp only[List.all_cons,i5]at ha;cases i with
  |inBlock a=>
   simp only[exitTo]at h;split at h
   ·cases h;exact ha.2
   ·exact qN z id k h ha.2
  |_=>simp only[exitTo]at h;exact qN z id k h ha.2
theorem fG(a:Nat->Nat)(fn:FuncId)(ops:Array Oper)(tmps:Array Value)(j:Nat):yielded ops (ig a fn tmps) j=yielded ops tmps j:=by
 unfold yielded;cases (ops[j]?).bind (·.dst)with
 |none=>rfl
 |some d=>
  simp only[QA];by_cases h:pr (dX fn) d=true
  ·rw[ku a fn tmps d h];cases tmps[d]? with
   |none=>rfl
   |some v=>
    by_cases b:dX fn=1
    ·by_cases c:lx v=true
     ·simp[mH,b,iO,c]
     ·simp only[eZ,mH,b,iO,c];cases v<;>simp[PI]
    ·simp[mH,b]
  ·rw[ek a fn tmps d (by simpa using h)];cases tmps[d]? with
   |none=>rfl
   |some v=>cases v<;>simp[PI]
theorem Ax{G:Nat}{b:Nat->Nat}{base:List Frame}{fr':Frame}{cs':List Frame}(g:∀a,aR G D b a->fr'=bU a fr)(h:∀a,aR G D b a->cs'=cs.map (bU a)++base)(d:ie fr)(e:∀c∈cs,ie c/\cF c)
 {t i:List Item} (k:∀a,aR G D b a->i=t.map (dr a)) (f:t.all (mb (dX fr.fn))=true):
 eN G D b base {frame:={fr with todo:=t},callers:=cs,status:= .running,dying:=none} {frame:={fr' with todo:=i},callers:=cs',status:= .running,dying:=none}:=by refine⟨λa j=> ?_,h,⟨f,d.defers,d.mode,d.kind,d.round⟩,e,rfl,rfl,rfl,rfl⟩;rw[g a j,k a j];rfl
section
variable{G T:Nat}{base:List Frame}
def ca(fr:Frame):Option (List Item):=
 match fr.todo with
 | .inRegion _ []::k=>some k
 | .inScope _::k=>some k
 | .inBlock _::k=>some k
 | .inLoop b::k=>some (.code b:: .inLoop b::k)
 | .code c::k=>
   match c with
   | .label _=>some k
   | .skip=>some k
   | .region _ ops false=>some (.inRegion ops (List.range ops.size)::k)
   | .exit id=>exitTo id k
   | .scope b=>some (.code b:: .inScope b::k)
   | .loop b=>some (.code b:: .inLoop b::k)
   | .block id b=>some (.code b:: .inBlock id::k)
   | .cond x a b=>match fr.eval x with| .bool q=>some (.code (if q then a else b)::k)|_=>none
   | .seq a b=>some (.code a:: .code b::k)
   |_=>none
 |_=>none
theorem j0{t:List Item}(h:ca fr=some t):
 stepG.exec P main listen fr cs none w= .go {frame:={fr with todo:=t},callers:=cs,status:= .running,dying:=none} w:=by
 obtain⟨o,l,todo,g,m,n,d⟩:=fr;unfold ca at h;unfold stepG.exec;cases todo with
 |nil=>cases h
 |cons i k=>
  cases i with
  |code c=>
   cases c with
   |region id j f=>cases f<;>first|(cases h;rfl)|cases h
   |exit id=>simp only at h⊢;rw[h];rfl
   |cond c a b=>
    simp only at h⊢;split at h
    ·rename_i q e;cases h;rw[e]
    ·cases h
   |_=>first|(cases h;rfl)|cases h
  |inRegion j todo=>cases todo<;>first|(cases h;rfl)|cases h
  |_=>first|(cases h;rfl)|cases h
theorem vJ(o:ie fr){t:List Item}(h:ca fr=some t):ca (bU ρ fr)=some (t.map (dr ρ)):=by
 have m:=λx j=>gZ (ρ:=ρ) fr x j;have l:=o.todo;unfold ca at h⊢;rw[show(bU ρ fr).todo=fr.todo.map (dr ρ)from rfl];cases n:fr.todo with
 |nil=>rw[n]at h;cases h
 |cons i k=>
  rw[n]at h l;simp only[List.all_cons,i5]at l;cases i with
  |code c=>
   cases c with
   |region id g f=>cases f<;>first|(cases h;rfl)|cases h
   |exit id=>
    simp only[IN,dr]at h⊢;rw[pe,h];rfl
   |cond x a b=>
    have j:mO (dX fr.fn) x=true:=by have:=l.1;simp only[mb,ji,i5]at this;exact this.1.1
    simp only[IN,dr]at h⊢;rw[m x j];split at h
    ·rename_i q e;cases h;rw[e];simp[PI,dr]
    ·cases h
   |_=>first|(cases h;rfl)|cases h
  |inRegion g d=>cases d<;>first|(cases h;rfl)|cases h
  |_=>first|(cases h;rfl)|cases h
theorem Gv(p:ie fr){t:List Item}(h:ca fr=some t):t.all (mb (dX fr.fn))=true:=by
 have n:=p.todo;unfold ca at h;cases o:fr.todo with
 |nil=>rw[o]at h;cases h
 |cons i k=>
  rw[o]at h n;simp only[List.all_cons,i5]at n;obtain⟨d,f⟩:=n;cases i with
  |code c=>
   cases c with
   |region id m j=>
    cases j with
    |false=>cases h;simp only[mb,ji]at d;simp only[List.all_cons,mb,d,f,Bool.and_self]
    |true=>cases h
   |exit id=>exact qN _ id k h f
   |cond x a b=>
    simp only at h;simp only[mb,ji,i5]at d;split at h
    ·rename_i q e;cases h;cases q
     ·simp[mb,d.2,f]
     ·simp[mb,d.1.2,f]
    ·cases h
   |seq a b=>
    cases h;simp only[mb,ji,i5]at d;simp[mb,d.1,d.2,f]
   |block id b=>cases h;simp only[mb,ji]at d;simp[mb,d,f]
   |loop b=>cases h;simp only[mb,ji]at d;simp[mb,d,f]
   |scope b=>cases h;simp only[mb,ji]at d;simp[mb,d,f]
   |skip=>cases h;exact f
   |label l=>cases h;exact f
   |_=>cases h
  |inRegion m g=>cases g<;>first|(cases h;exact f)|cases h
  |inLoop b=>cases h;simp only[mb]at d;simp[mb,d,f]
  |inBlock id=>cases h;exact f
  |inScope b=>cases h;exact f
  |_=>cases h
theorem yJ{fr':Frame}{cs':List Frame}(m:cT G T D ρ wL wM)(b:∀a,aR G D ρ a->fr'=bU a fr)(f:∀a,aR G D ρ a->cs'=cs.map (bU a)++base)(d:ie fr)(e:∀c∈cs,ie c/\cF c)
 {t:List Item} (h:ca fr=some t) (k mM l lM:Bool):∃j i,stepG.exec PL k l fr cs none wL= .go j wL/\stepG.exec PM mM lM fr' cs' none wM= .go i wM/\eN G D ρ base j i:=by
 have g:ca fr'=some (t.map (dr ρ)):=by rw[b ρ m.self];exact vJ d h
 refine⟨_,_,j0 h,j0 g,Ax b f d e (λa n=> ?_) (Gv d h)⟩;have o:ca fr'=some (t.map (dr a)):=by rw[b a n];exact vJ d h
 exact Option.some.inj (g.symm.trans o)
end
section
variable{α β:Type}{f:α->β}
theorem rP(h:aT w)(a:Addr)(b:String):fE (w.noCell a b):=by
 unfold World.noCell;split
 ·rename_i c e d;have:=h _ _ d;cases this
 ·trivial
 ·trivial
theorem xx{p:Program}(h:aT w){a:Addr}{b:Bool}{x:Halt}(e:w.farLoad p a b= .error x):fE x:=by
 unfold World.farLoad at e;split at e
 ·split at e<;>cases e;trivial
 ·cases e;exact rP h _ _
theorem uU{p:Program}(h:aT w){a:Addr}{b:Bool}{x:Halt}(e:w.farStore p a v b= .error x):fE x:=by
 unfold World.farStore at e;split at e
 ·split at e<;>cases e;trivial
 ·cases e;exact rP h _ _
theorem aT.set(h:aT w)(r:Nat){o:Obj}(c:cJ o=true):aT {w with heap:=w.heap.setIfInBounds r o}:=by
 intro b x a;dsimp only at a;rw[Array.getElem?_setIfInBounds]at a;split at a
 ·split at a
  ·exact Option.some.inj a▸c
  ·cases a
 ·exact h b x a
theorem aT.modify(h:aT w)(r:Nat){g:Obj->Obj}(d:∀o,cJ o=true->cJ (g o)=true):aT {w with heap:=w.heap.modify r g}:=by
 intro b x a;dsimp only at a;rw[Array.getElem?_modify]at a;split at a
 ·cases c:w.heap[b]? with
  |none=>rw[c]at a;cases a
  |some o=>
   rw[c]at a;exact Option.some.inj a▸d o (h b o c)
 ·exact h b x a
theorem aT.setCell(h:aT w)(a:Addr)(v:Value):aT (w.setCell a v):=by unfold Q6;refine h.modify a.block λo b=> ?_;cases o<;>first|exact b|(dsimp only;split<;>rfl)|rfl
theorem aT.freeze(h:aT w)(a:Addr)(n:Nat):aT (w.freeze a n):=by
 unfold World.freeze;split
 ·exact h
 ·refine h.modify a.block λo b=> ?_;cases o<;>first|exact b|rfl
theorem iP{p:Program}{g:World}(h:aT w){a:Addr}{b:Bool}{l:List Addr}(e:w.farStore p a v b= .ok (g,l)):aT g:=by
 unfold World.farStore at e;split at e
 ·rename_i d u q;split at e
  ·rename_i r f;cases e;cases i:w.seen p d u a b with
   |error x=>
    unfold World.viewStore at f;by_cases j:(!tight p p.depth u)=true
    ·rw[if_pos j]at f;cases f
    ·rw[if_neg j,i]at f;cases f
   |ok y=>
    obtain⟨c,o,m,k⟩:=lS i;obtain⟨s,n,_⟩:=iL p (w':={w with heap:=w.heap.setIfInBounds d.block (.cells (c.map (PI λx=>x)) o m)}) (λx=>x) k (by simp[de k]) f;rw[n];exact h.set d.block rfl
  ·cases e
 ·cases e
theorem gz{s:Sem α}{s':Sem β}(h:aG ρ PL PM f s s'):∀w,aT w->∀k w',s.run PL w= .halt k w'->fE k:=by
 induction h with
 |pure a=>intro w b k w' e;cases e
 | @load a l t h g=>
   intro w b k w' e;rw[Sem.run]at e;cases n:w.cell? a with
   |some v=>rw[n]at e;exact g v w b k w' e
   |none=>
    rw[n]at e;cases i:w.farLoad PL a (Mode.plain==Mode.atomic)with
    |ok y=>rw[i]at e;exact g y.1 w b k w' e
    |error x=>
     rw[i]at e;cases e;exact xx b i
 | @store a v l t h g=>
   intro w b k w' e;cases j:pT v with
   |false=>
    obtain⟨A,B⟩:=gQ (p:=PL) (w:=w) (m:= .plain) (a:=a) (k:=l) j;rw[B]at e;cases e;trivial
   |true=>
    rw[gf j]at e;cases n:w.cell? a with
    |some u=>
     simp only[n]at e;split at e
     ·cases e;trivial
     ·exact g _ (b.setCell a v) k w' e
    |none=>
     simp only[n]at e;cases i:w.farStore PL a v (Mode.plain==Mode.atomic)with
     |ok y=>rw[i]at e;exact g y.1 (iP b i) k w' e
     |error x=>
      rw[i]at e;cases e;exact uU b i
 |new z h g=>intro w b k w' e;exact g _ _ (b.push z) k w' e
 |shape h g=>intro w b k w' e;exact g _ w b k w' e
 |freeze h g=>intro w b k w' e;exact g _ (b.freeze _ _) k w' e
 |frozen h g=>intro w b k w' e;exact g _ w b k w' e
 | @getObj r l t h g=>
   intro w b k w' e;rw[Sem.run]at e;split at e
   ·cases e;trivial
   ·rename_i o z _;exact g o (b _ _ ‹_›) w b k w' e
   ·cases e;trivial
 | @setObj r o l t z h g=>
   intro w b k w' e;rw[Sem.run]at e;split at e
   ·cases e;trivial
   ·exact g _ (b.set r z) k w' e
   ·cases e;trivial
 | @choose q l t h g=>
   intro w b k w' e;rw[Sem.run]at e;split at e
   ·exact g _ w b k w' e
   ·exact g _ {w with drawn:=w.drawn+1} b k w' e
 |program h g=>intro w b k w' e;exact g w b k w' e
 |mark F h g=>intro w b k w' e;exact g w b k w' e
 |panic v=>intro w b k w' e;cases e;trivial
 |dead d=>intro w b k w' e;cases e;exact d
 |deadMark d=>intro w b k w' e;cases e;exact d
 | @sys c l E d=>
   intro w b k w' e;obtain⟨x,D,i,C⟩:=d (w.sys c).1 (w.sys c).2;rw[Sem.run,i]at e;cases e;exact C.1
theorem fe{s:Sem α}{s':Sem β}(h:aG ρ PL PM f s s')(w:World)(a:aT w)(k:Nat)(w':World):s.run PL w≠ .halt (.unsupported (.initOrder k)) w':=λe=>gz h w a _ w' e
end
structure Env (PL PM:Program) (G:Nat):Prop where
 same:bH PL PM
 gl:PL.globals.size=G
 tab:fh<G
 gm:PM.globals.size=G
 load:∀w a b,World.farLoad PM w a b=World.farLoad PL w a b
 store:∀w a v b,World.farStore PM w a v b=World.farStore PL w a v b
 fn:∀(ρ:Nat->Nat) (g:FuncId),iK ρ PL PM g
section
variable{G T:Nat}{base:List Frame}
theorem Env.far(E:Env PL PM G){a:Nat->Nat}(h:aR G D ρ a):IH PL PM a:=⟨h.1.1,λb=>by rw[E.gl,E.gm];exact h.1.2 b⟩
theorem jy{k:List Item}{z:Nat}
 (b:fr.todo= .inRegion ops (i::rest)::k) (c:ops[i]?=some o) (d:mw o (yielded ops fr.tmps)=true) (a:kL z o.op=true):
 stepG.exec P main listen fr cs none w=stepG.apply P listen fr cs none (execOp fr.eval o) w:=by
 unfold stepG.exec;simp only[b,c,eZ,Q2,d,↓reduceIte];unfold stepG.oper;simp only[Frame.oper?,b,c];split
 ·rename_i e;rw[e]at a;cases a
 ·rfl
theorem AZ(E:Env PL PM G)(A:cT G T D ρ wL wM)(S:aT wL)
 {fr':Frame} {cs':List Frame} (n:∀d,aR G D ρ d->fr'=bU d fr) (y:∀d,aR G D ρ d->cs'=cs.map (bU d)++base) (K:ie fr) (u:∀c∈cs,ie c/\cF c) (p:cF fr)
    {k:List Item}  (F:fr.todo= .inRegion ops (i::rest)::k) (H:ops[i]?=some o) (C:mw o (yielded ops fr.tmps)=true) (g:kL (dX fr.fn) o.op=true)
 (U:∀f args q,(execOp fr.eval o).run PL wL= .ok (.enter f args) q->kH PL PM f)
 (R:∀l f tmps a b q,(execOp fr.eval o).run PL wL= .ok (.round l f tmps a b) q->ji 0 a=true/\ji 0 b=true/\dX f=0)
 {L mM M:Bool} {s:Goroutine} {wL':World} {B:Array Event} (h:stepG.exec PL L M fr cs none wL= .go s wL' B) (Q:wL'.drawn<=T) (O:s.status= .running/\∀c,s.frame.mode≠ .panicking c) (P:s.dying=none):
 ∃D' d J wM' t,stepG.exec PM mM true fr' cs' none wM= .go J wM' t/\eN G D' d base s J/\jf G T D ρ wL wM D' d wL' wM'/\∀e∈t,j6 D' d e:=by
 have m:=n ρ A.self;have w:fr'.todo= .inRegion ops (i::rest)::k.map (dr ρ):=by rw[m];show fr.todo.map (dr ρ)=_;rw[F];rfl
 have v:mw o (yielded ops fr'.tmps)=true:=by rw[m];have:yielded ops (bU ρ fr).tmps=yielded ops fr.tmps:=funext λj=>fG ρ fr.fn ops fr.tmps j;rw[this];exact C
 have r:∀d,aR G D ρ d->aG d PL PM (fC d) (execOp fr.eval o) (execOp fr'.eval o):=λd I=>
  xI (z:=dX fr.fn) E.same (E.far I) (E.fn d) (λx N=>by rw[n d I];exact gZ fr x N) o g
 rw[jy F H C g]at h;rw[jy w H v g];exact kD E.tab E.load E.store A n y K u p r (vZ (E.fn ρ) fr.eval o g) (λk q=>fe (r ρ A.self) wL S k q) U R h Q O P
end
end
end Go.Proofs.YtkmoglhgkcnalaaGreatDoor
