/- A part of what the last text of the claim imports: texts laid together, and made small, by a program. -/
import Derived.Conc.Own
import Derived.Below
import Derived.Laws.Sem
import GoSem.Dispatch
set_option maxHeartbeats 16000000
set_option maxRecDepth 100000
namespace Go.Proofs.YtkmoglhgkcnalaaGreatDoor
open Go
variable{n b i N l m k j:Nat}{w w':World}{fr:Frame}{v:Value}{cs:List Frame}{args cv:Array Value}{V RO D:Nat->Prop}{q main listen:Bool}{g:Goroutine}{a:Act}{K:List Item}{P:Program}{x:Operand}{ops:Array Oper}{KS:List Int}{t u:TypeId}{o:Oper}{f:FuncId}{es:Array Event}{Goal:Goroutine->World->Prop}{fn:Func}{rest:List Nat}{ds:List Deferred}{F:List (Nat×Value)}{e:Event}{listed:Array Bool}{c:Int}{s msg key sig:ByteArray}
end Go.Proofs.YtkmoglhgkcnalaaGreatDoor
namespace Go.Value
@[match_pattern] abbrev i (n : Int) : Value := .int .i64 n
end Go.Value
namespace Go.Proofs.YtkmoglhgkcnalaaGreatDoor
open Go
variable{n b i N l m k j:Nat}{w w':World}{fr:Frame}{v:Value}{cs:List Frame}{args cv:Array Value}{V RO D:Nat->Prop}{q main listen:Bool}{g:Goroutine}{a:Act}{K:List Item}{P:Program}{x:Operand}{ops:Array Oper}{KS:List Int}{t u:TypeId}{o:Oper}{f:FuncId}{es:Array Event}{Goal:Goroutine->World->Prop}{fn:Func}{rest:List Nat}{ds:List Deferred}{F:List (Nat×Value)}{e:Event}{listed:Array Bool}{c:Int}{s msg key sig:ByteArray}
end Go.Proofs.YtkmoglhgkcnalaaGreatDoor
namespace Go.Value
abbrev pt(b:Nat):Value:= .pointer (some ⟨b,0,none⟩)
end Go.Value
namespace Go.Proofs.YtkmoglhgkcnalaaGreatDoor
open Go
variable{n b i N l m k j:Nat}{w w':World}{fr:Frame}{v:Value}{cs:List Frame}{args cv:Array Value}{V RO D:Nat->Prop}{q main listen:Bool}{g:Goroutine}{a:Act}{K:List Item}{P:Program}{x:Operand}{ops:Array Oper}{KS:List Int}{t u:TypeId}{o:Oper}{f:FuncId}{es:Array Event}{Goal:Goroutine->World->Prop}{fn:Func}{rest:List Nat}{ds:List Deferred}{F:List (Nat×Value)}{e:Event}{listed:Array Bool}{c:Int}{s msg key sig:ByteArray}
section
open Go.RowKit
theorem gA{a:Type}{l:Array a}{v:a}(h:l[i]?=some v):∃h:i<l.size,l[i]=v:=Array.getElem?_eq_some_iff.1 h
theorem mG{a:Type}{l:List a}{v:a}(h:l[i]?=some v):v∈l:=List.mem_of_getElem? h
theorem sN{a:Type}{l:Array a}{v:a}(h:i≠j):(l.setIfInBounds i v)[j]?=l[j]?:=Array.getElem?_setIfInBounds_ne h
theorem bR:Below N w w:=Below.refl _ _
end
section
open Go
def Lo(ρ:Nat->Nat)(a:Addr):Addr:={a with block:=ρ a.block}
def jb(ρ:Nat->Nat):Fn->Fn
 | .yield l=> .yield (ρ l)
 |f=>f
def dM(ρ:Nat->Nat):Value->Value
 | .pointer a=> .pointer (a.map (Lo ρ))
 | .slice a l c=> .slice (a.map (Lo ρ)) l c
 | .map r=> .map (r.map ρ)
 | .chan r=> .chan (r.map ρ)
 | .func fn first cap=> .func (jb ρ fn) (first.map (dM ρ)) (cap.map (dM ρ))
 | .iface t v=> .iface t (dM ρ v)
 | .agg cs=> .agg (cs.map (dM ρ))
 | .tuple vs=> .tuple (vs.map (dM ρ))
 | .bool b=> .bool b
 | .int k n=> .int k n
 | .float k b=> .float k b
 | .complex k a b=> .complex k a b
 | .string s=> .string s
 | .nilFunc=> .nilFunc
 | .nilIface=> .nilIface
def o7:Fn->Bool
 | .yield _=>false
 |_=>true
mutual
def aL:Value->Bool
 | .pointer a=>a.isNone
 | .slice a _ _=>a.isNone
 | .map r=>r.isNone
 | .chan r=>r.isNone
 | .func fn ⟨first⟩ ⟨cap⟩=>o7 fn&&iK first&&iK cap
 | .iface _ v=>aL v
 | .agg ⟨cs⟩=>iK cs
 | .tuple ⟨vs⟩=>iK vs
 | .bool _| .int _ _| .float _ _| .complex _ _ _| .string _| .nilFunc| .nilIface=>true
def iK:List Value->Bool
 |[]=>true
 |v::r=>aL v&&iK r
end
theorem gj:∀{l:List Value},iK l=true->∀v∈l,aL v=true
 |[],_,v,h=>by cases h
 |x::r,h,v,hv=>by
  simp only[iK,Bool.and_eq_true]at h;rcases List.mem_cons.1 hv with rfl|hv
  ·exact h.1
  ·exact gj h.2 v hv
theorem iO{f:Value->Value}{cs:Array Value}(h:∀v∈cs,f v=v):cs.map f=cs:=by
 apply Array.ext
 ·simp
 ·intro i b a;simp[h cs[i] (Array.getElem_mem _)]
theorem pD(a:Nat->Nat){fn:Fn}(h:o7 fn=true):jb a fn=fn:=by
 cases fn<;>first|rfl|simp[o7]at h
theorem cJ(i:Nat->Nat):∀v:Value,aL v=true->dM i v=v:=by
 intro v;induction v using dM.induct with
 |case1 a=>intro h;simp[aL]at h;subst h;simp[dM]
 |case2 a l c=>intro h;simp[aL]at h;subst h;simp[dM]
 |case3 r=>intro h;simp[aL]at h;subst h;simp[dM]
 |case4 r=>intro h;simp[aL]at h;subst h;simp[dM]
 |case5 m first e g f=>
  intro h;obtain⟨first⟩:=first
  obtain⟨e⟩:=e;simp only[aL,Bool.and_eq_true]at h;rw[dM,pD i h.1.1,iO λv b=>g v b (gj h.1.2 v (by simpa using b)),iO λv b=>f v b (gj h.2 v (by simpa using b))]
 |case6 t v d=>intro h;simp[aL]at h;simp[dM,d h]
 |case7 k d=>
  intro h;obtain⟨k⟩:=k;simp only[aL]at h;rw[dM,iO λv b=>d v b (gj h v (by simpa using b))]
 |case8 j d=>
  intro h;obtain⟨j⟩:=j;simp only[aL]at h;rw[dM,iO λv b=>d v b (gj h v (by simpa using b))]
 |_=>intro _;simp[dM]
def JV(ρ:Nat->Nat):Target->Target
 | .fn fn cap=> .fn (jb ρ fn) (cap.map (dM ρ))
 | .nil=> .nil
 | .builtin b a t c=> .builtin b a t c
 | .collected r=> .collected (ρ r)
 | .coroexit c=> .coroexit (ρ c)
def lG(ρ:Nat->Nat)(d:Deferred):Deferred:=⟨JV ρ d.target,d.args.map (dM ρ)⟩
def uU(ρ:Nat->Nat)(l:Loop):Loop:={l with tmps:=l.tmps.map (dM ρ),defers:=ρ l.defers}
def dA(ρ:Nat->Nat):Obj->Obj
 | .cells c e f=> .cells (c.map (dM ρ)) e f
 | .pending c e=> .pending (c.map (dM ρ)) e
 | .view a t=> .view (Lo ρ a) t
 | .number a l=> .number (Lo ρ a) l
 | .map es c=> .map (es.map λe=>⟨dM ρ e.key,dM ρ e.val,e.born⟩) c
 | .chan cap buf closed s r t=> .chan cap (buf.map (dM ρ)) closed s r t
 | .stringIter s p=> .stringIter s p
 | .mapIter m a b c=> .mapIter (m.map ρ) a b c
 | .loop l=> .loop (uU ρ l)
 | .deferred ds=> .deferred (ds.map (List.map (lG ρ)))
 | .coro p=> .coro p
 | .finalizers fs r=> .finalizers (fs.map λx=>(ρ x.1,lG ρ x.2)) r
def aY:FuncId:=131
def bU:Tmp:=54
def dV:Nat:=0
def qn:TypeId:=162
def ls(x:Bool):Operand->Bool
 | .tmp t=> !(x&&t==bU)
 | .func _=>true
 | .const v=>aL v
 | .global _=>false
def FT:Builtin->Bool
 | .append| .cap| .copy| .len| .min| .unsafeSliceData| .unsafeString=>true
 |_=>false
def ng(x:Bool)(c:Call):Bool:=
 c.args.all (ls x)&&match c.callee with
  | .builtin b=>FT b
  | .value f=>ls x f
  | .invoke _ _=>false
def jn(z:Bool):Op->Bool
 | .move x| .assign x| .box _ x| .load _ x| .nilCheck x| .unOp _ _ x| .convert _ _ x| .makeInterface _ x| .fieldAddr _ x _| .field _ x _| .extract x _| .panic x=>ls z x
 | .alloc _=>true
 | .pick a b c=>ls z a&&ls z b&&ls z c
 | .build _ ps| .buildSlice _ _ ps=>ps.all λx=>ls z x.2
 | .store _ a b| .binOp _ _ a b _| .makeSlice _ a b| .indexAddr _ a b| .index _ a b=>ls z a&&ls z b
 | .makeFunc fn a b=>o7 fn&&a.all (ls z)&&b.all (ls z)
 | .slice _ x l h m=>ls z x&&l.all (ls z)&&h.all (ls z)&&m.all (ls z)
 | .call c=>ng z c
 |_=>false
def FR(z:Bool)(o:Oper):Bool:=
 (jn z o.op&& !(z&&o.dst==some bU))||
 (z&&match o.op with
   | .indexAddr _ (.global g) i=>g==dV&&ls z i&&o.dst==some bU
   | .load ty (.tmp t)=>ty==qn&&t==bU&&o.dst !=some bU
   |_=>false)
def eY(z:Bool):Code->Bool
 | .skip| .exit _| .label _| .ret| .refuse _=>true
 | .region _ ops _=>ops.all (FR z)
 | .seq a b=>eY z a&&eY z b
 | .cond c a b=>ls z c&&eY z a&&eY z b
 | .block _ b| .loop b| .scope b=>eY z b
 | .rangeFunc f _ a b=> !z&&ls z f&&eY z a&&eY z b
 | .goto _=>false
def bX:Obj->Bool
 | .cells _ _ _| .stringIter _ _| .view _ _| .number _ _=>true
 | .deferred ds=>(ds.getD []).isEmpty
 | .loop l=>eY false l.assign&&eY false l.body&&l.pending.all (eY false)&&l.fn !=aY
 |_=>false
def eF:Mark->Bool
 | .extern _| .noRoom=>true
 |_=>false
def eo:Halt->Prop
 | .unsupported (.initOrder _)=>False
 | .blocked| .waiting| .goexit=>False
 |_=>True
def aD(w:World):Prop:=∀(b:Nat) (o:Obj),w.heap[b]?=some o->bX o=true
inductive kL (ρ:Nat->Nat) (PL PM:Program) {α β:Type} (f:α->β):Sem α->Sem β->Prop
 |pure (a:α):kL ρ PL PM f (.pure a) (.pure (f a))
 |load {a:Addr} {k:Value->Sem α} {k':Value->Sem β} (h:∀v,kL ρ PL PM f (k v) (k' (dM ρ v))):kL ρ PL PM f (.load .plain a k) (.load .plain (Lo ρ a) k')
 |store {a:Addr} {v:Value} {k:Sem α} {k':Sem β} (h:kL ρ PL PM f k k'):kL ρ PL PM f (.store .plain a v k) (.store .plain (Lo ρ a) (dM ρ v) k')
 |new {o:Obj} {k:Nat->Sem α} {k':Nat->Sem β} (ho:bX o=true) (h:∀b,kL ρ PL PM f (k b) (k' (ρ b))):kL ρ PL PM f (.new o k) (.new (dA ρ o) k')
 |shape {r:Nat} {k:Option (TypeId×Nat)->Sem α} {k':Option (TypeId×Nat)->Sem β} (h:∀s,kL ρ PL PM f (k s) (k' s)):kL ρ PL PM f (.shape r k) (.shape (ρ r) k')
 |freeze {a:Addr} {n:Nat} {k:Sem α} {k':Sem β} (h:kL ρ PL PM f k k'):kL ρ PL PM f (.freeze a n k) (.freeze (Lo ρ a) n k')
 |frozen {a:Addr} {k:Bool->Sem α} {k':Bool->Sem β} (h:∀b,kL ρ PL PM f (k b) (k' b)):kL ρ PL PM f (.frozen a k) (.frozen (Lo ρ a) k')
 |getObj {r:Nat} {k:Obj->Sem α} {k':Obj->Sem β} (h:∀o,bX o=true->kL ρ PL PM f (k o) (k' (dA ρ o))):kL ρ PL PM f (.getObj r k) (.getObj (ρ r) k')
 |setObj {r:Nat} {o:Obj} {k:Sem α} {k':Sem β} (ho:bX o=true) (h:kL ρ PL PM f k k'):kL ρ PL PM f (.setObj r o k) (.setObj (ρ r) (dA ρ o) k')
 |choose {q:Question} {k:Nat->Sem α} {k':Nat->Sem β} (h:∀n,kL ρ PL PM f (k n) (k' n)):kL ρ PL PM f (.choose q k) (.choose q k')
 |program {k:Program->Sem α} {k':Program->Sem β} (h:kL ρ PL PM f (k PL) (k' PM)):kL ρ PL PM f (.program k) (.program k')
 |mark {m:Mark} {k:Sem α} {k':Sem β} (hm:eF m=true) (h:kL ρ PL PM f k k'):kL ρ PL PM f (.mark m k) (.mark m k')
 |panic (v:Value):kL ρ PL PM f (.halt (.panic v)) (.halt (.panic (dM ρ v)))
 |dead {h:Halt} {s:Sem β} (d:eo h):kL ρ PL PM f (.halt h) s
 |deadMark {m:Mark} {h:Halt} {s:Sem β} (d:eo h):kL ρ PL PM f (.mark m (.halt h)) s
 |sys {c:Sys} {k:SysRet->Sem α} {s:Sem β} (d:∀r w,∃h w',(k r).run PL w= .halt h w'/\eo h/\(aD w->aD w')):kL ρ PL PM f (.sys c k) s
section
variable{ρ:Nat->Nat}{PL PM:Program}
theorem kL.bind{j i e c:Type}{f:j->i}{g:e->c}{s:Sem j}{s':Sem i}{k:j->Sem e}{l:i->Sem c}(h:kL ρ PL PM f s s')(o:∀a,kL ρ PL PM g (k a) (l (f a))):kL ρ PL PM g (s>>=k) (s'>>=l):=by
 show kL ρ PL PM g (s.bind k) (s'.bind l);induction h with
 |pure a=>exact o a
 |load _ b=>exact .load b
 |store _ b=>exact .store (b)
 |new _ _ b=>exact .new ‹_› b
 |shape _ b=>exact .shape b
 |freeze _ b=>exact .freeze (b)
 |frozen _ b=>exact .frozen b
 |getObj _ b=>exact .getObj b
 |setObj _ _ b=>exact .setObj ‹_› b
 |choose _ b=>exact .choose b
 |program _ b=>exact .program (b)
 |mark _ _ b=>exact .mark ‹_› b
 |panic v=>exact .panic v
 |dead d=>exact .dead d
 |deadMark d=>exact .deadMark d
 |sys d=>
  refine .sys λr w=> ?_;obtain⟨x,m,n,p⟩:=d r w;exact⟨x,m,by rw[Sem.run_bind',n];rfl,p⟩
end
def aB(G:Nat)(D:Nat->Prop)(ρ ρ':Nat->Nat):Prop:=((∀x y,ρ' x=ρ' y->x=y)/\∀b,b<G↔ρ' b<G)/\∀b,D b->ρ' b=ρ b
structure cr (G T:Nat) (D:Nat->Prop) (ρ:Nat->Nat) (wL wM:World):Prop where
 inj:∀x y,ρ x=ρ y->x=y
 obj:∀b,D b->∃o,wL.heap[b]?=some o/\bX o=true/\∀ρ',aB G D ρ ρ'->wM.heap[ρ b]?=some (dA ρ' o)
 tape:∀i,wL.drawn+i<T->wM.tape (wM.drawn+i)=wL.tape (wL.drawn+i)
 glob:∀b,b<G↔ρ b<G
 far:2<=G/\G<=wL.heap.size/\G<=wM.heap.size
 out:∀b,D b->G<=b
def jF(a b v:Nat):Nat:=if v=a then b else if v=b then a else v
theorem oE{a x y:Nat}(h:jF a b x=jF a b y):x=y:=by
 unfold jF at h;split at h<;>split at h<;>(try split at h)<;>(try split at h)<;>omega
theorem kt(a b:Nat):jF a b a=b:=by simp[jF]
theorem qS{a G:Nat}(h:b<G↔a<G)(v:Nat):v<G↔jF a b v<G:=by
 unfold jF;split
 ·subst v;exact h.symm
 ·split
  ·subst v;exact h
  ·exact Iff.rfl
theorem lz{a v:Nat}(d:v≠a)(c:v≠b):jF a b v=v:=by simp[jF,d,c]
section
variable{G T:Nat}{D:Nat->Prop}{ρ:Nat->Nat}{wL wM:World}
theorem cj{o:Obj}(h:w.heap[b]?=some o):b<w.heap.size:=(gA h).1
theorem cr.self(h:cr G T D ρ wL wM):aB G D ρ ρ:=⟨⟨h.inj,h.glob⟩,λ_ _=>rfl⟩
theorem cr.ltL(h:cr G T D ρ wL wM)(a:D b):b<wL.heap.size:=let ⟨_,h1,_⟩:=h.obj b a;cj h1
theorem cr.ltM(h:cr G T D ρ wL wM)(a:D b):ρ b<wM.heap.size:=let ⟨_,_,_,h1⟩:=h.obj b a;cj (h1 ρ h.self)
theorem cr.dom(h:cr G T D ρ wL wM){x:Nat}(k:∀c,aB G D ρ c->c x=ρ x):D x:=by
 refine Classical.byContradiction λl=> ?_;obtain⟨y,j,f,d⟩:∃y,(wM.heap.size<=y\/y<G)/\y≠ρ x/\(y<G↔ρ x<G):=by
  have:=h.far;by_cases n:ρ x<G
  ·by_cases i:ρ x=0
   ·exact⟨1,by omega,by omega,by omega⟩
   ·exact⟨0,by omega,by omega,by omega⟩
  ·by_cases i:ρ x=wM.heap.size
   ·exact⟨wM.heap.size+1,by omega,by omega,by omega⟩
   ·exact⟨wM.heap.size,by omega,λe=>i e.symm,by omega⟩
 have m:aB G D ρ (λz=>jF (ρ x) y (ρ z)):=by
  refine⟨⟨λa b e=>h.inj _ _ (oE e),λb=>(h.glob b).trans (qS d _)⟩,λb g=>lz (λe=>l (h.inj _ _ e▸g)) ?_⟩;have n:=h.ltM g;have p:=h.out b g;have o:=h.glob b;omega
 have:=k _ m;rw[kt]at this;exact f this
theorem cr.fresh(h:cr G T D ρ wL wM):∃a:Nat->Nat,((∀x y,a x=a y->x=y)/\∀b,b<G↔a b<G)/\a wL.heap.size=wM.heap.size/\∀b,D b->a b=ρ b:=
 ⟨λz=>jF (ρ wL.heap.size) wM.heap.size (ρ z),⟨λ_ _ e=>h.inj _ _ (oE e),λb=>(h.glob b).trans (qS (by have:=h.far;have:=h.glob wL.heap.size;omega) _)⟩,kt _ _,λb c=>lz (λe=>by have:=h.inj _ _ e;have:=h.ltL c;omega) (by have:=h.ltM c;omega)⟩
end
structure ic (G T:Nat) (D:Nat->Prop) (ρ:Nat->Nat) (wL wM:World) (D':Nat->Prop) (ρ':Nat->Nat) (wL' wM':World):Prop where
 rel:cr G T D' ρ' wL' wM'
 ext:∀b,D b->D' b/\ρ' b=ρ b
 new:∀b,D' b->D b\/(wL.heap.size<=b/\wM.heap.size<=ρ' b)
 size:wM.heap.size<=wM'.heap.size
 sizeL:wL.heap.size<=wL'.heap.size
 keep:∀r,r<wM.heap.size->(∀b,D b->ρ b≠r)->wM'.heap[r]?=wM.heap[r]?
 os:wM'.os=wM.os
 output:wM'.output=wM.output
 tape:wM'.tape=wM.tape
 tapeL:wL'.tape=wL.tape
 keepL:∀r,r<wL.heap.size->¬D r->wL'.heap[r]?=wL.heap[r]?
 newL:∀r,wL.heap.size<=r->r<wL'.heap.size->D' r
 drawn:wL.drawn<=wL'.drawn
 drew:wM'.drawn+wL.drawn=wL'.drawn+wM.drawn
theorem ic.refl{G T:Nat}{a:Nat->Nat}{wL b:World}(h:cr G T D a wL b):ic G T D a wL b D a wL b:=
 ⟨h,λ_ c=>⟨c,rfl⟩,λ_ c=> .inl c,Nat.le_refl _,Nat.le_refl _,λ_ _ _=>rfl,rfl,rfl,rfl,rfl,λ_ _ _=>rfl,λ_ e d=>by omega,Nat.le_refl _,Nat.add_comm _ _⟩
theorem ic.trans{G T:Nat}{s q:Nat->Prop}{o j i:Nat->Nat}{wL p d k wL2 wM2:World}(h:ic G T D o wL p s j d k)(a:ic G T s j d k q i wL2 wM2):ic G T D o wL p q i wL2 wM2:=by
 refine⟨a.rel,λb e=> ?_,λb e=> ?_,Nat.le_trans h.size a.size,Nat.le_trans h.sizeL a.sizeL,λr l m=> ?_,a.os.trans h.os,a.output.trans h.output,a.tape.trans h.tape,a.tapeL.trans h.tapeL,λr l m=> ?_,λr c g=> ?_,Nat.le_trans h.drawn a.drawn,by have:=h.drew;have:=a.drew;omega⟩
 ·obtain⟨c,g⟩:=h.ext b e;obtain⟨f,n⟩:=a.ext b c;exact⟨f,n.trans g⟩
 ·rcases a.new b e with c|⟨c,g⟩
  ·rcases h.new b c with f|⟨f,n⟩
   ·exact .inl f
   ·exact .inr ⟨f,by rw[(a.ext b c).2];exact n⟩
  ·exact .inr ⟨Nat.le_trans h.sizeL c,Nat.le_trans h.size g⟩
 ·rw[a.keep r (Nat.lt_of_lt_of_le l h.size) λb e=> ?_,h.keep r l m];rcases h.new b e with c|⟨_,g⟩
  ·rw[(h.ext b c).2];exact m b c
  ·omega
 ·rw[a.keepL r (Nat.lt_of_lt_of_le l h.sizeL) λe=> ?_,h.keepL r l m];rcases h.new r e with c|⟨c,_⟩
  ·exact m c
  ·omega
 ·by_cases f:r<d.heap.size
  ·exact(a.ext r (h.newL r c f)).1
  ·exact a.newL r (by omega) g
def gS(D:Nat->Prop)(ρ:Nat->Nat)(e:Event):Prop:=
 match e.loc with
 | .cell a=>e.sync=false/\∃b,D b/\ρ b=a.block
 | .obj r=>e.sync=false/\∃b,D b/\ρ b=r
 | .mark m=>eF m=true
 |_=>False
theorem gS.mono{D':Nat->Prop}{d a:Nat->Nat}(h:gS D d e)(f:∀b,D b->D' b/\a b=d b):gS D' a e:=by
 obtain⟨c,k,l⟩:=e;cases c<;>simp only[gS]at h⊢<;>first
  |exact h
  |(obtain⟨j,b,g,i⟩:=h;exact⟨j,b,(f b g).1,(f b g).2.trans i⟩)
inductive AX (G:Nat) {α β:Type} (F:(Nat->Nat)->α->β) (D:Nat->Prop) (ρ:Nat->Nat):Result α->World->Result β->World->Prop
 |ok {a:α} {a':β} {wL wM:World} (h:∀ρ',aB G D ρ ρ'->a'=F ρ' a):AX G F D ρ (.ok a wL) wL (.ok a' wM) wM
def EO{α:Type}:Result α->World->Prop
 | .ok _ w,w'=>w'=w
 |_,_=>False
def oe:Value->Bool
 | .agg _| .tuple _=>false
 |_=>true
theorem wR(a:Nat->Nat)(v:Value):oe (dM a v)=oe v:=by cases v<;>simp[dM,oe]
section
variable{α β:Type}{p:Program}{w:World}{es:Array Event}
theorem fE{m:Mode}{a:Addr}{k:Sem α}(hv:oe v=false):∃b,(Sem.store m a v k).run p w= .halt (.stuck b) w:=by
 cases v<;>simp[oe]at hv<;>exact⟨_,rfl⟩
theorem fa{m:Mode}{a:Addr}{k:Sem α}(hv:oe v=true):(Sem.store m a v k).run p w=match w.cell? a with
 |some _=>if w.frozen? a then .halt (.unsupported (.unsafePointer "a write to bytes that a string shares")) w else k.run p (w.setCell a v)
 |none=>match w.farStore p a v (m== .atomic)with
  | .ok (w,_)=>k.run p w
  | .error h=> .halt h w:=by
 cases v<;>simp[oe]at hv<;>rfl
theorem lE{m:Mode}{a:Addr}{k:Sem α}(hv:oe v=true):(Sem.store m a v k).runT p w es=match w.cell? a with
 |some _=>if w.frozen? a then(.halt (.unsupported (.unsafePointer "a write to bytes that a string shares")) w,es)else k.runT p (w.setCell a v) (es.push ⟨.cell a,true,m== .atomic⟩)
 |none=>match w.farStore p a v (m== .atomic)with
  | .ok (w,touched)=>k.runT p w (es++touched.toArray.map (⟨.cell ·,true,m== .atomic⟩))
  | .error h=>(.halt h w,es):=by
 cases v<;>simp[oe]at hv<;>rfl
end
section
variable{G T:Nat}{D:Nat->Prop}{ρ:Nat->Nat}{wL wM:World}
theorem AG{a:Addr}(h:w.cell? a=some v):∃c e f,w.heap[a.block]?=some (.cells c e f)/\a.spot=none/\c[a.off]?=some v:=by
 unfold World.cell? at h;split at h
 ·rename_i c e f g;split at h
  ·cases h
  ·rename_i b;exact⟨c,e,f,g,by cases d:a.spot with|none=>rfl|some _=>simp[d]at b,h⟩
 ·cases h
theorem AH{a:Addr}{c:Array Value}{e:TypeId}{f:Nat×Nat}(h:w.heap[a.block]?=some (.cells c e f))(b:a.spot=none):w.cell? a=c[a.off]?:=by
 unfold World.cell?;simp[h,b]
theorem ul(a:Nat->Nat)(v:Value):(dM a v).bytes?=v.bytes?:=by cases v<;>simp[dM,Value.bytes?]
theorem wU(a:Nat->Nat)(v:Value)(bs:List UInt8):(dM a v).ofBytes bs=v.ofBytes bs:=by cases v<;>simp[dM,Value.ofBytes]
theorem mD{u:Value}{bs:List UInt8}(h:v.ofBytes bs=some u):∀a,dM a u=u:=by
 intro a;unfold Value.ofBytes at h;split at h
 ·split at h<;>first|(cases h;simp[dM];done)|cases h
 ·split at h
  ·cases h;simp[dM]
  ·cases h
 ·split at h
  ·cases h;simp[dM]
  ·cases h
 ·split at h
  ·cases h;simp[dM]
  ·cases h
 ·cases h
theorem mB(p:Program)(b:Nat->Nat)(c:Array Value)(e:TypeId):∀f x a,seenCells p (c.map (dM b)) e f x a=seenCells p c e f x a
 |0,_,_=>rfl
 |f+1,x,a=>by
  unfold seenCells;simp only[Array.getElem?_map,mB p b c e f];split
  ·rfl
  split
  ·rfl
  split
  ·rfl
  rename_i i s _;cases c[i]? with
  |none=>rfl
  |some v=>simp only[Option.map_some,ul]
theorem wi(p:Program)(g:Nat->Nat){a:Addr}{k:Addr}{b:Bool}{c:Array Value}{e:TypeId}{fr:Nat×Nat}(h:w.heap[a.block]?=some (.cells c e fr))(o:w'.heap[g a.block]?=some (.cells (c.map (dM g)) e fr)):
 w'.seen p (Lo g a) u (Lo g k) b=(w.seen p a u k b).map λx=>(x.1.map (dM g),x.2):=by
 unfold World.seen;simp only[Lo,h,o,mB];by_cases n:(k.spot.isSome||a.spot.isSome)=true
 ·rw[if_pos n,if_pos n];rfl
 rw[if_neg n,if_neg n];cases plainCell p p.depth u k.off with
 |none=>rfl
 |some j=>
  dsimp only;cases Option.map (λx=>x.length) j.bytes? with
  |none=>rfl
  |some d=>
   dsimp only;cases byteOfCell p p.depth u k.off with
   |none=>rfl
   |some i=>
    dsimp only;by_cases m:p.cellsOf e=0
    ·rw[if_pos m,if_pos m];rfl
    rw[if_neg m,if_neg m];cases byteOfCell p p.depth e (a.off%p.cellsOf e)with
    |none=>rfl
    |some l=>
     dsimp only;cases seenCells p c e (d+1) (a.off/p.cellsOf e*p.bytesOf e+l+i) (a.off/p.cellsOf e*p.bytesOf e+l+i+d)with
     |error x=>rfl
     |ok f=>
      cases b with
      |false=>rfl
      |true=>
       match f with
       |[]=>rfl
       |[(_,s,bs)]=>
        show(if (decide (s≠a.off/p.cellsOf e*p.bytesOf e+l+i)||decide (bs.length≠d))=true then _ else _)=Except.map _ (if (decide (s≠a.off/p.cellsOf e*p.bytesOf e+l+i)||decide (bs.length≠d))=true then _ else _);generalize (decide (s≠a.off/p.cellsOf e*p.bytesOf e+l+i)||decide (bs.length≠d))=q;cases q<;>rfl
       |_::_::_=>rfl
theorem kz{p:Program}{d:Addr}{k:Addr}{b:Bool}{y:Array Value×TypeId×(Nat×Nat)×Nat×Value×List (Nat×Nat×List UInt8)}(a:w.seen p d u k b= .ok y):∃c e f,w.heap[d.block]?=some (.cells c e f):=by
 refine Classical.byContradiction λq=> ?_;unfold World.seen at a;by_cases j:(k.spot.isSome||d.spot.isSome)=true
 ·rw[if_pos j]at a;cases a
 rw[if_neg j]at a;cases n:plainCell p p.depth u k.off with
 |none=>rw[n]at a;cases a
 |some g=>
  simp only[n]at a;cases m:Option.map (λx=>x.length) g.bytes? with
  |none=>simp only[m]at a;cases a
  |some i=>
   simp only[m]at a;cases l:byteOfCell p p.depth u k.off with
   |none=>simp only[l]at a;cases a
   |some r=>
    simp only[l]at a;cases h:w.heap[d.block]? with
    |none=>simp only[h]at a;cases a
    |some o=>
     cases o<;>first|exact q ⟨_,_,_,h⟩|(simp only[h]at a;cases a)
theorem uJ(p:Program)(g:Nat->Nat){a:Addr}{k:Addr}{b:Bool}{c:Array Value}{e:TypeId}{fr:Nat×Nat}(h:w.heap[a.block]?=some (.cells c e fr))(o:w'.heap[g a.block]?=some (.cells (c.map (dM g)) e fr)){j:List Addr}(hv:w.viewLoad p a u k b= .ok (v,j)):
 w'.viewLoad p (Lo g a) u (Lo g k) b= .ok (v,j.map (Lo g))/\(∀i,dM i v=v)/\∀x∈j,x.block=a.block:=by
 unfold World.viewLoad at hv⊢;rw[wi p g h o];cases m:w.seen p a u k b with
 |error x=>rw[m]at hv;cases hv
 |ok y=>
  obtain⟨t,s,q,first,d,f⟩:=y;rw[m]at hv;simp only[Except.map,bind,Except.bind]at hv⊢;cases l:d.ofBytes (f.flatMap λx=>(x.2.2.drop (first- x.2.1)).take (first+((d.bytes?.map (·.length)).getD 0)- max first x.2.1))with
  |none=>simp only[l]at hv;cases hv
  |some r=>
   simp only[l]at hv⊢;cases hv;refine⟨?_,mD l,λx n=> ?_⟩
   ·simp[Lo,pure,Except.pure,Function.comp_def]
   ·obtain⟨y,_,rfl⟩:=List.mem_map.1 n;rfl
theorem uf{b:Type}(a:Nat->Nat)(g:Array Value->b->Except String (Array Value))(d:∀c x,g (c.map (dM a)) x=(g c x).map (Array.map (dM a))):∀(xs:List b) (c:Array Value),xs.foldlM g (c.map (dM a))=(xs.foldlM g c).map (Array.map (dM a))
 |[],_=>rfl
 |x::xs,c=>by
  rw[List.foldlM_cons,List.foldlM_cons,d];cases g c x with
  |error y=>rfl
  |ok e=>exact uf a g d xs e
theorem gy(p:Program)(ρ:Nat->Nat){at_:Addr}{k:Addr}{b:Bool}{c:Array Value}{e:TypeId}{fr:Nat×Nat}(h:w.heap[at_.block]?=some (.cells c e fr))(h':w'.heap[ρ at_.block]?=some (.cells (c.map (dM ρ)) e fr)){w1:World}{tc:List Addr}(hv:w.viewStore p at_ u k v b= .ok (w1,tc)):
 ∃c1,w1={w with heap:=w.heap.setIfInBounds at_.block (.cells c1 e fr)}/\w'.viewStore p (Lo ρ at_) u (Lo ρ k) (dM ρ v) b= .ok ({w' with heap:=w'.heap.setIfInBounds (ρ at_.block) (.cells (c1.map (dM ρ)) e fr)},tc.map (Lo ρ))/\∀x∈tc,x.block=at_.block:=by
 have hce:∀y,w.seen p at_ u k b= .ok y->y.1=c/\y.2.1=e/\y.2.2.1=fr:=by
  intro y hy;unfold World.seen at hy;simp only[h]at hy;by_cases hk:(k.spot.isSome||at_.spot.isSome)=true
  ·rw[if_pos hk]at hy;cases hy
  rw[if_neg hk]at hy;cases h1:plainCell p p.depth u k.off with
  |none=>rw[h1]at hy;cases hy
  |some like=>
   simp only[h1]at hy;cases h2:Option.map (λx=>x.length) like.bytes? with
   |none=>simp only[h2]at hy;cases hy
   |some size=>
    simp only[h2]at hy;cases h3:byteOfCell p p.depth u k.off with
    |none=>simp only[h3]at hy;cases hy
    |some β=>
     simp only[h3]at hy;by_cases hs:p.cellsOf e=0
     ·rw[if_pos hs]at hy;cases hy
     rw[if_neg hs]at hy;cases h4:byteOfCell p p.depth e (at_.off%p.cellsOf e)with
     |none=>simp only[h4]at hy;cases hy
     |some b0=>
      simp only[h4]at hy;cases h5:seenCells p c e (size+1) (at_.off/p.cellsOf e*p.bytesOf e+b0+β) (at_.off/p.cellsOf e*p.bytesOf e+b0+β+size)with
      |error x=>simp only[h5]at hy;cases hy
      |ok cells=>
       simp only[h5]at hy;cases b with
       |false=>cases hy;exact⟨rfl,rfl,rfl⟩
       |true=>
        match cells,hy with
        |[],hy=>cases hy
        |[(_,s,bs)],hy=>
         dsimp only[bind,Except.bind]at hy;rw[if_pos rfl]at hy;split at hy
         ·cases hy
         ·cases hy;exact⟨rfl,rfl,rfl⟩
        |_::_::_,hy=>cases hy
 unfold World.viewStore at hv⊢;rw[wi p ρ h h',ul];by_cases ht:(!tight p p.depth u)=true
 ·rw[if_pos ht]at hv;cases hv
 rw[if_neg ht]at hv⊢;cases hq:w.seen p at_ u k b with
 |error x=>rw[hq]at hv;cases hv
 |ok y=>
  obtain⟨h1,h2,h3⟩:=hce y hq;obtain⟨c1,e1,fr1,first,like,cells⟩:=y;dsimp only at h1 h2 h3;subst h1 h2 h3;rw[hq]at hv;simp only[Except.map,bind,Except.bind]at hv⊢;cases hb:v.bytes? with
  |none=>simp only[hb]at hv;cases hv
  |some bytes=>
   simp only[hb]at hv⊢;by_cases hn:some bytes.length≠Option.map (λx=>x.length) like.bytes?
   ·rw[if_pos hn]at hv;cases hv
   rw[if_neg hn]at hv⊢;rw[uf ρ]
   ·generalize (List.foldlM (m:=Except String) _ c1 cells)=q at hv⊢;cases q with
    |error x=>cases hv
    |ok c2=>
     cases hv;refine⟨c2,rfl, ?_,λx hx=> ?_⟩
     ·simp[Lo,pure,Except.pure,Except.map,Function.comp_def]
     ·obtain⟨y,_,rfl⟩:=List.mem_map.1 hx;rfl
   ·intro c x;by_cases h1:(decide (x.2.1<first)||decide (x.2.1+x.2.2.length>first+bytes.length))=true
    ·rw[if_pos h1,if_pos h1];rfl
    rw[if_neg h1,if_neg h1];by_cases h2:(decide (fr1.1<=x.1)&&decide (x.1<fr1.2))=true
    ·rw[if_pos h2,if_pos h2];rfl
    rw[if_neg h2,if_neg h2,Array.getElem?_map];cases c[x.1]? with
    |none=>rfl
    |some old=>
     simp only[Option.map_some,wU];cases ho:old.ofBytes (List.take x.2.2.length (List.drop (x.2.1- first) bytes))with
     |none=>rfl
     |some new=>
      simp[pure,Except.pure,Except.map,Array.map_setIfInBounds,mD ho ρ]
theorem cr.turn(h:cr G T D ρ wL wM)(d:D b){wL' wM':World}{o o':Obj}(A:bX o=true)(B:∀a,aB G D ρ a->o'=dA a o)
 (F:wL'.heap[b]?=some o) (E:wM'.heap[ρ b]?=some o') (q:∀k,k≠b->wL'.heap[k]?=wL.heap[k]?) (p:∀k,k≠ρ b->wM'.heap[k]?=wM.heap[k]?)
 (w:wL'.heap.size=wL.heap.size) (v:wM'.heap.size=wM.heap.size) (n:wL'.tape=wL.tape) (m:wM'.tape=wM.tape) (u:wL'.drawn=wL.drawn) (I:wM'.drawn=wM.drawn) (g:wM'.os=wM.os) (f:wM'.output=wM.output):
 ic G T D ρ wL wM D ρ wL' wM':=by
 refine⟨⟨h.inj,λx z=> ?_,λi C=>by rw[n,m,u,I];exact h.tape i (by rw[←u];exact C),h.glob,by rw[w,v];exact h.far,h.out⟩,λ_ d=>⟨d,rfl⟩,λ_ d=> .inl d,by omega,by omega,λr _ j=>p r λe=>j b d e.symm,g,f,m,n,λr _ j=>q r λe=>j (e▸d),λr t s=>by omega,by omega,by omega⟩;by_cases c:x=b
 ·subst c;exact⟨o,F,A,λa l=>by rw[E,B a l]⟩
 ·obtain⟨y,t,s,H⟩:=h.obj x z;exact⟨y,by rw[q x c];exact t,s,λa l=>by rw[p _ λe=>c (h.inj _ _ e)];exact H a l⟩
theorem cr.viewDom(h:cr G T D ρ wL wM)(f:D b){a:Addr}(g:wL.heap[b]?=some (.view a u)):D a.block:=by
 obtain⟨o,e,_,d⟩:=h.obj b f;rw[g]at e;cases e;refine h.dom λc i=> ?_;have:=(d c i).symm.trans (d ρ h.self);simp only[dA,Option.some.injEq,Obj.view.injEq,and_true]at this;exact congrArg Addr.block this
theorem sT(h:cr G T D ρ wL wM){p:Program}{a:Addr}{k:Bool}(t:D a.block){m:List Addr}(hv:wL.farLoad p a k= .ok (v,m)):
 wM.cell? (Lo ρ a)=none/\wM.farLoad p (Lo ρ a) k= .ok (v,m.map (Lo ρ))/\(∀l,dM l v=v)/\∀x∈m,D x.block:=by
 obtain⟨o,w,C,E⟩:=h.obj _ t;have g:=E ρ h.self;unfold World.farLoad at hv⊢;cases o<;>simp[bX]at C<;>simp only[w]at hv<;>first|(cases hv;done)|skip
 rename_i b u;have r:=h.viewDom t w;cases d:wL.viewLoad p b u a k with
 |error x=>rw[d]at hv;cases hv
 |ok y=>
  rw[d]at hv;cases hv;obtain⟨J,i,B,n⟩:=h.obj _ r;obtain⟨c,e,f,s⟩:∃c e f,wL.heap[b.block]?=some (.cells c e f):=by
   unfold World.viewLoad at d;cases q:wL.seen p b u a k with
   |error x=>rw[q]at d;cases d
   |ok z=>exact kz q
  rw[i]at s;cases s;obtain⟨I,H,F⟩:=uJ p ρ i (n ρ h.self) d;refine⟨?_, ?_,H,λx A=>by rw[F x A];exact r⟩
  ·unfold World.cell?;simp only[Lo,g,dA]
  ·simp only[Lo,g,dA];have j:=I;simp only[Lo]at j;rw[j]
theorem rQ(h:cr G T D ρ wL wM){p:Program}{a:Addr}{bb:Bool}(hb:D a.block){w1:World}{tc:List Addr}(hsame:∀ρ',aB G D ρ ρ'->dM ρ' v=dM ρ v)(hv:wL.farStore p a v bb= .ok (w1,tc)):
 ∃wM1,wM.cell? (Lo ρ a)=none/\wM.farStore p (Lo ρ a) (dM ρ v) bb= .ok (wM1,tc.map (Lo ρ))/\ic G T D ρ wL wM D ρ w1 wM1/\∀x∈tc,D x.block:=by
 obtain⟨o,hL,hq,hM⟩:=h.obj _ hb;have hM0:=hM ρ h.self;unfold World.farStore at hv⊢;cases o<;>simp[bX]at hq<;>simp only[hL]at hv<;>first|(cases hv;done)|skip
 rename_i at_ u;have hd:=h.viewDom hb hL;cases hl:wL.viewStore p at_ u a v bb with
 |error x=>rw[hl]at hv;cases hv
 |ok y=>
  rw[hl]at hv;cases hv;obtain⟨o2,hL2,hq2,hM2⟩:=h.obj _ hd;obtain⟨c,e,f,hc⟩:∃c e f,wL.heap[at_.block]?=some (.cells c e f):=by
   unfold World.viewStore at hl;by_cases ht:(!tight p p.depth u)=true
   ·rw[if_pos ht]at hl;cases hl
   rw[if_neg ht]at hl;cases hs:wL.seen p at_ u a bb with
   |error x=>rw[hs]at hl;cases hl
   |ok z=>exact kz hs
  rw[hL2]at hc;cases hc;obtain⟨c1,rfl,h1,h3⟩:=gy p ρ hL2 (hM2 ρ h.self) hl;refine⟨{wM with heap:=wM.heap.setIfInBounds (ρ at_.block) (.cells (c1.map (dM ρ)) e f)}, ?_, ?_,h.turn hd (o:= .cells c1 e f) (o':= .cells (c1.map (dM ρ)) e f) rfl (λρ' hA=> ?_) ?_ ?_ (λk hk=> ?_) (λk hk=> ?_) (by simp) (by simp) rfl rfl rfl rfl rfl rfl,λx hx=>by rw[h3 x hx];exact hd⟩
  ·unfold World.cell?;simp only[Lo,hM0,dA]
  ·simp only[Lo,hM0,dA];have h1':=h1;simp only[Lo]at h1';rw[h1']
  ·obtain⟨c1',he,h1'',_⟩:=gy p ρ' hL2 (w':=wM) (by rw[hA.2 _ hd];exact hM2 ρ' hA) hl;have e1:Lo ρ' at_=Lo ρ at_:=(by simp[Lo,hA.2 _ hd]);have e2:Lo ρ' a=Lo ρ a:=(by simp[Lo,hA.2 _ hb]);rw[e1,e2,hsame ρ' hA,h1,hA.2 _ hd]at h1'';have hlt:=cj (hM2 ρ h.self);have ec:c1'=c1:=by
    have h5:=congrArg (λw:World=>w.heap[at_.block]?) he;simp only[Array.getElem?_setIfInBounds_self_of_lt (cj hL2),Option.some.injEq,Obj.cells.injEq,and_true]at h5;exact h5.symm
   subst ec;simp only[Except.ok.injEq,Prod.mk.injEq,World.mk.injEq,and_true]at h1'';have h6:=congrArg (λhp:Array Obj=>hp[ρ at_.block]?) h1''.1;simp only[Array.getElem?_setIfInBounds_self_of_lt hlt,Option.some.injEq]at h6;exact h6
  ·simp[cj hL2]
  ·simp[cj (hM2 ρ h.self)]
  ·rw[Array.getElem?_setIfInBounds,if_neg (λe=>hk e.symm)]
  ·rw[Array.getElem?_setIfInBounds,if_neg (λe=>hk e.symm)]
theorem aB.of_ran{D':Nat->Prop}{a c:Nat->Nat}{wL' wM':World}(h:ic G T D ρ wL wM D' a wL' wM')(e:aB G D' a c):aB G D ρ c:=
 ⟨e.1,λb d=>(e.2 b (h.ext b d).1).trans (h.ext b d).2⟩
end
section
variable{PL PM:Program}{α β:Type}
theorem jp{xs:Array Obj}{f:Obj->Obj}(h:k≠i):(xs.modify i f)[k]?=xs[k]?:=by grind
theorem D8{xs:Array Obj}{o:Obj}(h:k≠i):(xs.setIfInBounds i o)[k]?=xs[k]?:=by grind
theorem tH(a:Nat->Nat)(o:Obj):bX (dA a o)=bX o:=by
 cases o with
 |deferred b=>rcases b with _|_|⟨_,_⟩<;>rfl
 |_=>rfl
theorem rr{o:Obj}(h:bX o=true):o.isChan=false:=by cases o<;>simp[bX]at h<;>rfl
theorem cO{F:(Nat->Nat)->α->β}{G T:Nat}{k:Nat->Prop}{l d:Nat->Nat}{wL i g c:World}(n:ic G T D l wL i k d g c){s' s1:Sem β}{es1:Array Event}{r:Result α}{wL':World}
 (q:s'.runT PM i es=s1.runT PM c (es++es1)) (o:∀e∈es1,gS k d e)
 (h:∃D' a f wM' b,s1.runT PM c (es++es1)=(f,es++es1++b)/\AX G F D' a r wL' f wM'/\ic G T k d g c D' a wL' wM'/\∀e∈b,gS D' a e):
 ∃D' a f wM' b,s'.runT PM i es=(f,es++b)/\AX G F D' a r wL' f wM'/\ic G T D l wL i D' a wL' wM'/\∀e∈b,gS D' a e:=by
 obtain⟨D',a,f,wM',b,t,p,m,s⟩:=h;refine⟨D',a,f,wM',es1++b,by grind,p,n.trans m,λe j=> ?_⟩;rcases Array.mem_append.1 j with j|j
 ·exact(o e j).mono m.ext
 ·grind
theorem mK{x:Halt}(a:EO (α:=α) (.halt x w) w'):False:=a
theorem Eb{b:Nat->Nat}{c:List Addr}{f:Bool}(h:∀x∈c,D x.block):∀e∈(c.map (Lo b)).toArray.map (λa=>(⟨.cell a,f,false⟩:Event)),gS D b e:=by
 intro e d;simp only[List.map_toArray,List.mem_toArray,List.mem_map]at d;obtain⟨a,⟨x,g,rfl⟩,rfl⟩:=d;exact⟨rfl,x.block,h x g,rfl⟩
theorem ea(hV:∀w a b,World.farLoad PM w a b=World.farLoad PL w a b)(hS:∀w a v b,World.farStore PM w a v b=World.farStore PL w a v b){G T:Nat}(F:(Nat->Nat)->α->β):∀(s:Sem α) (s':Sem β) (D:Nat->Prop) (l:Nat->Nat) (wL C:World),cr G T D l wL C->(∀g,aB G D l g->kL g PL PM (F g) s s')->
 ∀(es:Array Event) (r:Result α) (wL':World),s.run PL wL=r->EO r wL'->wL'.drawn<=T->
  ∃D' g r' wM' a8,s'.runT PM C es=(r',es++a8)/\AX G F D' g r wL' r' wM'/\ic G T D l wL C D' g wL' wM'/\∀e∈a8,gS D' g e:=by
 intro s;induction s with
 |pure a=>
  intro s' D l wL C z H es r wL' j I M;cases H l z.self;subst j;have:wL'=wL:=I;subst this;refine⟨D,l, .ok (F l a) C,C,#[],by simp[Sem.runT], .ok λg A=> ?_,ic.refl z,λe K=>by simp at K⟩;have:=H g A;generalize F l a=x at this;cases this;rfl
 |load m a k O=>
  intro s' D l wL C z H es r wL' j I M;cases H l z.self with
  | @load _ _ E h0=>
    have B:D a.block:=z.dom λg A=>by
     have:=H g A;generalize R:Lo l a=x at this;cases this;exact congrArg Addr.block R.symm
    obtain⟨o,U,Q,P⟩:=z.obj _ B;rw[Sem.run]at j;cases Y:wL.cell? a with
    |none=>
     simp only[Y]at j;cases R:wL.farLoad PL a (Mode.plain==Mode.atomic)with
     |error x=>
      rw[R]at j;subst j;exact(mK I).elim
     |ok y=>
      obtain⟨v,tc⟩:=y;rw[R]at j;obtain⟨f1,f2,f3,f4⟩:=sT z B R;refine cO (ic.refl z) (s1:=E v) (es1:=(tc.map (Lo l)).toArray.map (⟨.cell ·,false,false⟩)) ?_ (Eb f4) (O v (E v) D l wL C z (λg A=> ?_) _ r wL' j I M)
      ·rw[Sem.runT,f1];simp only;rw[hV,f2];rfl
      ·have:=H g A;generalize Lo l a=x at this;cases this with
       |load h=>
        have:=h v
        rwa [f3 g]at this
    |some v=>
     simp only[Y]at j;obtain⟨c,e,f,L,hs,hv⟩:=AG Y;rw[U]at L;cases L;have a2:∀g,aB G D l g->C.cell? (Lo l a)=some (dM g v):=λg A=>by
      rw[AH (w:=C) (a:=Lo l a) (P g A) hs];show(c.map (dM g))[a.off]?=_;rw[Array.getElem?_map,hv];rfl
     have V:∀g,aB G D l g->dM g v=dM l v:=λg A=>Option.some.inj ((a2 g A).symm.trans (a2 l z.self));refine cO (ic.refl z) (s1:=E (dM l v)) (es1:=#[⟨.cell (Lo l a),false,false⟩]) ?_ ?_ (O v (E (dM l v)) D l wL C z (λg A=> ?_) _ r wL' j I M)
     ·rw[Sem.runT,a2 l z.self];rfl
     ·intro e K;simp at K;subst K;exact⟨rfl,a.block,B,rfl⟩
     ·have:=H g A;rw[←V g A];generalize Lo l a=x at this;cases this with
      |load h=>exact h v
 |store m a v k O=>
  intro s' D l wL C z H es r wL' j I M;cases H l z.self with
  | @store _ _ _ E h0=>
    have t:∀g,aB G D l g->Lo l a=Lo g a/\dM l v=dM g v/\kL g PL PM (F g) k E:=λg A=>by
     have:=H g A;generalize R:Lo l a=x at this;generalize hy:dM l v=y at this;cases this with
     |store h=>exact⟨rfl,rfl,h⟩
    have B:D a.block:=z.dom λg A=>(congrArg Addr.block (t g A).1).symm;obtain⟨o,U,Q,P⟩:=z.obj _ B;cases X:oe v with
    |false=>
     obtain⟨ac,hw⟩:=fE (p:=PL) (w:=wL) (m:= .plain) (a:=a) (k:=k) X;rw[hw]at j;subst j;exact I.elim
    |true=>
     rw[fa X]at j;cases Y:wL.cell? a with
     |none=>
      simp only[Y]at j;cases R:wL.farStore PL a v (Mode.plain==Mode.atomic)with
      |error x=>
       rw[R]at j;subst j;exact(mK I).elim
      |ok y=>
       obtain⟨w1,tc⟩:=y;rw[R]at j;obtain⟨ad,f1,f2,f3,f4⟩:=rQ z B (λg A=>(t g A).2.1.symm) R;refine cO f3 (s1:=E) (es1:=(tc.map (Lo l)).toArray.map (⟨.cell ·,true,false⟩)) ?_ (Eb f4) (O E D l _ _ f3.rel (λg A=>(t g A).2.2) _ r wL' j I M);rw[lE (by rw[wR];exact X),f1];simp only;rw[hS,f2];rfl
     |some u=>
      simp only[Y]at j;obtain⟨c,e,f,L,hs,hv⟩:=AG Y;rw[U]at L;cases L;by_cases hf:wL.frozen? a=true
      ·rw[if_pos hf]at j;subst j;exact I.elim
      ·rw[if_neg hf]at j;have a2:C.cell? (Lo l a)=some (dM l u):=by
        rw[AH (w:=C) (a:=Lo l a) (P l z.self) hs];show(c.map (dM l))[a.off]?=_;rw[Array.getElem?_map,hv];rfl
       have ab:C.frozen? (Lo l a)=wL.frozen? a:=by
        have:=P l z.self;unfold World.frozen?;simp only[Lo,U,this,dA];rfl
       have J:ic G T D l wL C D l (wL.setCell a v) (C.setCell (Lo l a) (dM l v)):=by
        refine z.turn B (o:= .cells (c.setIfInBounds a.off v) e f) (o':= .cells ((c.map (dM l)).setIfInBounds a.off (dM l v)) e f) rfl (λg A=> ?_) ?_ ?_ (λk hk=> ?_) (λk hk=> ?_) (by simp[World.setCell]) (by simp[World.setCell]) rfl rfl rfl rfl rfl rfl
        ·have Z:=(P g A).symm.trans (P l z.self);simp only[dA,Option.some.injEq,Obj.cells.injEq,and_true]at Z;simp only[dA,Obj.cells.injEq,and_true];rw[←Z,(t g A).2.1,Array.map_setIfInBounds]
        ·simp[World.setCell,Array.getElem?_modify,U,hs]
        ·have:=P l z.self;simp[World.setCell,Array.getElem?_modify,Lo,this,hs,dA]
        ·exact jp hk
        ·exact jp hk
       refine cO J (s1:=E) (es1:=#[⟨.cell (Lo l a),true,false⟩]) ?_ ?_ (O E D l _ _ J.rel (λg A=>(t g A).2.2) _ r wL' j I M)
       ·rw[lE (by rw[wR];exact X),a2,ab];simp only[hf];rfl
       ·intro e K;simp at K;subst K;exact⟨rfl,a.block,B,rfl⟩
 |new o k O=>
  intro s' D l wL C z H es r wL' j I M;cases H l z.self with
  | @new _ _ E Q h0=>
    have t:∀g,aB G D l g->dA l o=dA g o/\∀b,kL g PL PM (F g) (k b) (E (g b)):=λg A=>by
     have:=H g A;generalize R:dA l o=x at this;cases this with
     |new _ h=>exact⟨rfl,h⟩
    obtain⟨a5,hi,hn,K⟩:=z.fresh;have a6:∀g,aB G (λb=>D b\/b=wL.heap.size) a5 g->aB G D l g:=λg A=>⟨A.1,λb L=>(A.2 b (.inl L)).trans (K b L)⟩;have S:ic G T D l wL C (λb=>D b\/b=wL.heap.size) a5 {wL with heap:=wL.heap.push o} {C with heap:=C.heap.push (dA l o)}:=by
     refine⟨⟨hi.1,λb L=> ?_,z.tape,hi.2,by have:=z.far;simp only[Array.size_push];omega,λb L=> ?_⟩,λb L=>⟨.inl L,K b L⟩,λb L=> ?_,by simp,by simp,λr hr _=> ?_,rfl,rfl,rfl,rfl,λr hr _=> ?_,λr Z h2=> .inr (by simp only[Array.size_push]at h2;omega),Nat.le_refl _,Nat.add_comm _ _⟩
     ·rcases L with L|rfl
      ·obtain⟨ob,Z,h2,h3⟩:=z.obj b L;refine⟨ob, ?_,h2,λg A=> ?_⟩
       ·rw[Array.getElem?_push,if_neg (by have:=cj Z;omega)];exact Z
       ·rw[K b L,Array.getElem?_push,if_neg (by have:=z.ltM L;omega)];exact h3 g (a6 g A)
      ·refine⟨o,by simp,Q,λg A=> ?_⟩;rw[hn,(t g (a6 g A)).1];simp
     ·rcases L with L|rfl
      ·exact z.out b L
      ·exact z.far.2.1
     ·rcases L with L|rfl
      ·exact .inl L
      ·exact .inr ⟨Nat.le_refl _,by rw[hn];exact Nat.le_refl _⟩
     ·rw[Array.getElem?_push,if_neg (by omega)]
     ·rw[Array.getElem?_push,if_neg (by omega)]
    refine cO S (s1:=E C.heap.size) (es1:=#[]) (by simp[Sem.runT]) (λe K=>by simp at K) (O wL.heap.size (E C.heap.size) _ a5 _ _ S.rel (λg A=> ?_) _ r wL' j I M);have Z:=(t g (a6 g A)).2 wL.heap.size;rwa [A.2 _ (.inr rfl),hn]at Z
 |shape N k O=>
  intro s' D l wL C z H es r wL' j I M;cases H l z.self with
  | @shape _ _ E h0=>
    have t:∀g,aB G D l g->l N=g N/\∀b,kL g PL PM (F g) (k b) (E b):=λg A=>by
     have:=H g A;generalize R:l N=x at this;cases this with
     |shape h=>exact⟨rfl,h⟩
    have B:D N:=z.dom λg A=>(t g A).1.symm;obtain⟨o,U,Q,P⟩:=z.obj _ B;have a9:C.shape? (l N)=wL.shape? N:=by
     have:=P l z.self;unfold World.shape?;rw[U,this];cases o<;>simp[bX]at Q<;>simp[dA]
    refine cO (ic.refl z) (s1:=E (wL.shape? N)) (es1:=#[]) (by simp[Sem.runT,a9]) (λe K=>by simp at K) (O _ (E (wL.shape? N)) D l wL C z (λg A=>(t g A).2 _) _ r wL' j I M)
 |freeze a n k O=>
  intro s' D l wL C z H es r wL' j I M;cases H l z.self with
  | @freeze _ _ _ E h0=>
    have t:∀g,aB G D l g->Lo l a=Lo g a/\kL g PL PM (F g) k E:=λg A=>by
     have:=H g A;generalize R:Lo l a=x at this;cases this with
     |freeze h=>exact⟨rfl,h⟩
    have B:D a.block:=z.dom λg A=>(congrArg Addr.block (t g A).1).symm;obtain⟨o,U,Q,P⟩:=z.obj _ B;have J:ic G T D l wL C D l (wL.freeze a n) (C.freeze (Lo l a) n):=by
     by_cases hn:n=0
     ·have e1:wL.freeze a n=wL:=(by simp[World.freeze,hn]);have e2:C.freeze (Lo l a) n=C:=(by simp[World.freeze,hn]);rw[e1,e2];exact ic.refl z
     ·have a4:=P l z.self;refine z.turn B (o:=match o with| .cells c a3 (lo,hi)=> .cells c a3 (if lo==hi then(a.off,a.off+n)else(min lo a.off,max hi (a.off+n)))|o=>o) (o':=match dA l o with| .cells c a3 (lo,hi)=> .cells c a3 (if lo==hi then(a.off,a.off+n)else(min lo a.off,max hi (a.off+n)))|o=>o) ?_ (λg A=> ?_) ?_ ?_ (λk hk=> ?_) (λk hk=> ?_) ?_ ?_ ?_ ?_ ?_ ?_ ?_ ?_
      ·cases o<;>first|exact Q|(simp[bX]at Q;done)|rfl
      ·have Z:=(P g A).symm.trans (P l z.self);rw[Option.some.injEq]at Z;rw[←Z];cases o<;>simp[bX]at Q<;>rfl
      ·simp only[World.freeze,if_neg hn,Array.getElem?_modify,U];cases o<;>simp[bX]at Q<;>simp
      ·simp only[World.freeze,if_neg hn,Array.getElem?_modify,Lo,a4];cases o<;>simp[bX]at Q<;>simp[dA]
      ·simp only[World.freeze,if_neg hn];exact jp hk
      ·simp only[World.freeze,if_neg hn];exact jp hk
      all_goals simp[World.freeze,hn]
    refine cO J (s1:=E) (es1:=#[]) (by simp[Sem.runT]) (λe K=>by simp at K) (O E D l _ _ J.rel (λg A=>(t g A).2) _ r wL' j I M)
 |frozen a k O=>
  intro s' D l wL C z H es r wL' j I M;cases H l z.self with
  | @frozen _ _ E h0=>
    have t:∀g,aB G D l g->Lo l a=Lo g a/\∀b,kL g PL PM (F g) (k b) (E b):=λg A=>by
     have:=H g A;generalize R:Lo l a=x at this;cases this with
     |frozen h=>exact⟨rfl,h⟩
    have B:D a.block:=z.dom λg A=>(congrArg Addr.block (t g A).1).symm;obtain⟨o,U,Q,P⟩:=z.obj _ B;have aa:C.frozen? (Lo l a)=wL.frozen? a:=by
     have:=P l z.self;unfold World.frozen?;simp only[Lo,U,this];cases o<;>simp[bX]at Q<;>rfl
    refine cO (ic.refl z) (s1:=E (wL.frozen? a)) (es1:=#[]) (by simp[Sem.runT,aa]) (λe K=>by simp at K) (O _ (E (wL.frozen? a)) D l wL C z (λg A=>(t g A).2 _) _ r wL' j I M)
 |getObj N k O=>
  intro s' D l wL C z H es r wL' j I M;cases H l z.self with
  | @getObj _ _ E h0=>
    have t:∀g,aB G D l g->l N=g N/\∀o,bX o=true->kL g PL PM (F g) (k o) (E (dA g o)):=λg A=>by
     have:=H g A;generalize R:l N=x at this;cases this with
     |getObj h=>exact⟨rfl,h⟩
    have B:D N:=z.dom λg A=>(t g A).1.symm;obtain⟨o,U,Q,P⟩:=z.obj _ B;have V:∀g,aB G D l g->dA g o=dA l o:=λg A=>Option.some.inj ((P g A).symm.trans (P l z.self));rw[Sem.run,U]at j;have a1:∀c e f,o≠ .cells c e f:=λc e f h=>by
     subst h;simp only at j;subst j;exact I.elim
    have W:(k o).run PL wL=r:=by cases o<;>first|exact j|exact absurd rfl (a1 _ _ _)
    refine cO (ic.refl z) (s1:=E (dA l o)) (es1:=#[⟨.obj (l N),false,false⟩]) ?_ ?_ (O o (E (dA l o)) D l wL C z (λg A=>by rw[←V g A];exact(t g A).2 o Q) _ r wL' W I M)
    ·have:=P l z.self;have Y:=rr (o:=dA l o) (by rw[tH];exact Q);rw[Sem.runT,this];cases o<;>simp[bX]at Q<;>first|exact absurd rfl (a1 _ _ _)|(simp only[dA]at Y⊢;rw[Y];rfl)
    ·intro e K;simp at K;subst K;exact⟨rfl,N,B,rfl⟩
 |setObj N o k O=>
  intro s' D l wL C z H es r wL' j I M;cases H l z.self with
  | @setObj _ _ _ E a7 h0=>
    have t:∀g,aB G D l g->l N=g N/\dA l o=dA g o/\kL g PL PM (F g) k E:=λg A=>by
     have:=H g A;generalize R:l N=x at this;generalize hy:dA l o=y at this;cases this with
     |setObj _ h=>exact⟨rfl,rfl,h⟩
    have B:D N:=z.dom λg A=>(t g A).1.symm;obtain⟨o0,U,Q,P⟩:=z.obj _ B;rw[Sem.run,U]at j;have a1:∀c e f,o0≠ .cells c e f:=λc e f h=>by
     subst h;simp only at j;subst j;exact I.elim
    have W:k.run PL {wL with heap:=wL.heap.setIfInBounds N o}=r:=by cases o0<;>first|exact j|exact absurd rfl (a1 _ _ _)
    have a4:=P l z.self;have J:ic G T D l wL C D l {wL with heap:=wL.heap.setIfInBounds N o} {C with heap:=C.heap.setIfInBounds (l N) (dA l o)}:=by
     refine z.turn B (o:=o) (o':=dA l o) a7 (λg A=>(t g A).2.1) ?_ ?_ (λk hk=> ?_) (λk hk=> ?_) (by simp) (by simp) rfl rfl rfl rfl rfl rfl
     ·simp[cj U]
     ·simp[cj a4]
     ·exact D8 hk
     ·exact D8 hk
    refine cO J (s1:=E) (es1:=#[⟨.obj (l N),true,false⟩]) ?_ ?_ (O E D l _ _ J.rel (λg A=>(t g A).2.2) _ r wL' W I M)
    ·have Y:=rr (o:=dA l o) (by rw[tH];exact a7);generalize dA l o=x at Y⊢;rw[Sem.runT,a4];cases o0<;>simp[bX]at Q<;>first|exact absurd rfl (a1 _ _ _)|(simp only[dA,Y];rfl)
    ·intro e K;simp at K;subst K;exact⟨rfl,N,B,rfl⟩
 |choose q k O=>
  intro s' D l wL C z H es r wL' j I M;cases H l z.self with
  | @choose _ _ E h0=>
    have t:∀g,aB G D l g->∀b,kL g PL PM (F g) (k b) (E b):=λg A=>by
     cases H g A with
     |choose h=>exact h
    rw[Sem.run]at j;by_cases hf:q.forced=true
    ·rw[if_pos hf]at j;refine cO (ic.refl z) (s1:=E 0) (es1:=#[]) (by simp[Sem.runT,hf]) (λe K=>by simp at K) (O 0 (E 0) D l wL C z (λg A=>t g A 0) _ r wL' j I M)
    ·rw[if_neg hf]at j;have S:ic G T D l wL C D l {wL with drawn:=wL.drawn+1} {C with drawn:=C.drawn+1}:=by
      refine⟨⟨z.inj,z.obj,λi hi=> ?_,z.glob,z.far,z.out⟩,λ_ L=>⟨L,rfl⟩,λ_ L=> .inl L,Nat.le_refl _,Nat.le_refl _,λ_ _ _=>rfl,rfl,rfl,rfl,rfl,λ_ _ _=>rfl,λr Z h2=>absurd h2 (Nat.not_lt.2 Z),Nat.le_succ _,by show C.drawn+1+wL.drawn=wL.drawn+1+C.drawn;omega⟩;have:=z.tape (1+i) (by have:wL.drawn+1+i<T:=hi;omega);rwa [←Nat.add_assoc,←Nat.add_assoc]at this
     have a0:=λes1=>O _ (E (q.cut (wL.tape wL.drawn q))) D l _ _ S.rel (λg A=>t g A _) es1 r wL' j I M;have ht:C.tape C.drawn=wL.tape wL.drawn:=by
      obtain⟨_,_,_,_,_,_,_,h3,_⟩:=a0 #[];have:wL.drawn+1<=wL'.drawn:=h3.drawn;exact z.tape 0 (by omega)
     exact cO S (s1:=E (q.cut (wL.tape wL.drawn q))) (es1:=#[]) (by simp[Sem.runT,hf,ht]) (λe K=>by simp at K) (a0 _)
 |sys c k O=>
  intro s' D l wL C z H es r wL' j I M;cases H l z.self with
  |sys d=>
   obtain⟨x,w',R,_⟩:=d (wL.sys c).1 (wL.sys c).2;rw[Sem.run,R]at j;subst j;exact I.elim
 |program k O=>
  intro s' D l wL C z H es r wL' j I M;cases H l z.self with
  | @program _ E h0=>
    have t:∀g,aB G D l g->kL g PL PM (F g) (k PL) (E PM):=λg A=>by
     cases H g A with
     |program h=>exact h
    exact cO (ic.refl z) (s1:=E PM) (es1:=#[]) (by simp[Sem.runT]) (λe K=>by simp at K) (O PL (E PM) D l wL C z t _ r wL' j I M)
 |mark m k O=>
  intro s' D l wL C z H es r wL' j I M;cases H l z.self with
  | @mark _ _ E hm h0=>
    have t:∀g,aB G D l g->kL g PL PM (F g) k E:=λg A=>by
     cases H g A with
     |mark _ h=>exact h
     |deadMark=>rw[Sem.run,Sem.run]at j;subst j;exact I.elim
    refine cO (ic.refl z) (s1:=E) (es1:=#[⟨.mark m,false,true⟩]) rfl ?_ (O E D l wL C z t _ r wL' j I M);intro e K;simp at K;subst K;exact hm
  |deadMark=>rw[Sem.run,Sem.run]at j;subst j;exact I.elim
 |halt h=>
  intro s' D l wL C z H es r wL' j I M;subst j;exact I.elim
end
structure aK (PL PM:Program):Prop where
 info:∀t,PL.info? t=PM.info? t
 under:∀t,PL.underlying t=PM.underlying t
 zero:∀t i z,PL.info? t=some i->i.zero=some z->aL z=true
 rt:PL.rt=PM.rt
 cells:∀t,PL.cellsOf t=PM.cellsOf t
 bytes:∀t,PL.bytesOf t=PM.bytesOf t
 byteOf:∀t o,byteOfCell PL PL.depth t o=byteOfCell PM PM.depth t o
 lies:∀e n o u m,liesAt PL PL.depth e n o u m=liesAt PM PM.depth e n o u m
 atBytes:∀e n o b,cellAtBytes PL PL.depth e n o b=cellAtBytes PM PM.depth e n o b
 held:∀e,PL.holdsStoodIn PL.depth e=PM.holdsStoodIn PM.depth e
 guard:∀t,PL.eqGuardType PL.depth t=PM.eqGuardType PM.depth t
 stood:∀t,PL.stoodInHeld t=PM.stoodInHeld t
 types:PL.types.size=PM.types.size
 packed:∀t,PL.holdsPacked PL.depth t=PM.holdsPacked PM.depth t
section
variable{ρ:Nat->Nat}{PL PM:Program}{α β:Type}{f:α->β}
theorem dL(a:α){b:β}(h:b=f a):kL ρ PL PM f (pure a:Sem α) (pure b):=h▸kL.pure a
theorem cC(a:String)(s:Sem β):kL ρ PL PM f (stuck a) s:= .dead trivial
theorem cc(a:aK PL PM)(t:TypeId):kL ρ PL PM id (typeInfo t) (typeInfo t):=by
 refine .program ?_;show kL ρ PL PM id (match PL.info? t with|some i=>pure i|none=>stuck "no such type") (match PM.info? t with|some i=>pure i|none=>stuck "no such type");rw[a.info t];split
 ·exact dL _ rfl
 ·exact cC _ _
theorem om(a:aK PL PM)(t:TypeId):kL ρ PL PM id (underlying t) (underlying t):=by
 refine .program ?_;show kL ρ PL PM id (match PL.underlying t with|some i=>pure i|none=>stuck "no such type") (match PM.underlying t with|some i=>pure i|none=>stuck "no such type");rw[a.under t];split
 ·exact dL _ rfl
 ·exact cC _ _
theorem l8(a:aK PL PM)(t:TypeId):kL ρ PL PM (dM ρ) (zeroValue t) (zeroValue t):=by
 unfold zeroValue;show kL ρ PL PM (dM ρ) (typeInfo t>>=λi=>match i.zero with|some v=>pure v|none=>unsupported _) (typeInfo t>>=λi=>match i.zero with|some v=>pure v|none=>unsupported _);refine .program ?_;show kL ρ PL PM _ ((match PL.info? t with|some i=>pure i|none=>stuck "no such type" :Sem TypeInfo).bind _) ((match PM.info? t with|some i=>pure i|none=>stuck "no such type" :Sem TypeInfo).bind _);rw[←a.info t];cases c:PL.info? t with
 |none=>exact cC _ _
 |some i=>
  show kL ρ PL PM _ (match i.zero with|some v=>pure v|none=>unsupported _) (match i.zero with|some v=>pure v|none=>unsupported _);cases b:i.zero with
  |none=>exact .dead trivial
  |some z=>exact dL _ (cJ ρ z (a.zero t i z c b)).symm
theorem bY(a:aK PL PM)(t:TypeId):kL ρ PL PM id (sizeOf t) (sizeOf t):=
 (cc a t).bind λ_=>dL _ rfl
theorem y9(a:aK PL PM)(t:TypeId):kL ρ PL PM id (isAgg t) (isAgg t):=
 (om a t).bind λd=>by
   show kL ρ PL PM id _ _;cases d<;>exact dL _ rfl
theorem dU(b:Nat->Nat)(a:Addr)(n:Nat):Lo b (a.add n)=(Lo b a).add n:=by
 unfold Addr.add Lo;split<;>rfl
theorem ef(a:Nat->Nat)(v:Value):(dM a v).cells=v.cells.map (dM a):=by
 cases v<;>simp[dM,Value.cells]
theorem vB(a:Addr):kL ρ PL PM (dM ρ) (load a) (load (Lo ρ a)):= .load λv=> .pure v
theorem Et(a:Addr)(v:Value):kL ρ PL PM id (store a v) (store (Lo ρ a) (dM ρ v)):= .store (.pure ())
theorem oZ(o:Obj)(a:bX o=true):kL ρ PL PM ρ (newObj o) (newObj (dA ρ o)):= .new a λb=> .pure b
theorem ko(a:Addr):∀(n i:Nat) (b:Array Value),kL ρ PL PM (Array.map (dM ρ)) (loadCellsFrom a i n b) (loadCellsFrom (Lo ρ a) i n (b.map (dM ρ)))
 |0,_,b=>dL _ rfl
 |n+1,i,b=>by
  unfold loadCellsFrom;refine kL.bind (f:=dM ρ) (by rw[←dU];exact vB _) λv=> ?_;have:=ko a n (i+1) (b.push v);rwa [Array.map_push]at this
theorem il(a:Addr)(n:Nat):kL ρ PL PM (Array.map (dM ρ)) (loadCells a n) (loadCells (Lo ρ a) n):=by
 have:=ko (ρ:=ρ) (PL:=PL) (PM:=PM) a n 0 #[];simpa[loadCells]using this
theorem ei(a:Addr):∀(b:List Value) (i:Nat),kL ρ PL PM id (storeCells a b i) (storeCells (Lo ρ a) (b.map (dM ρ)) i)
 |[],_=>by unfold storeCells;exact dL _ rfl
 |v::r,i=>by
  unfold storeCells;exact kL.bind (f:=id) (by rw[←dU];exact Et _ _) λ_=>ei a r (i+1)
theorem iU(c:aK PL PM)(t:TypeId)(a:Addr):kL ρ PL PM (dM ρ) (loadVar t a) (loadVar t (Lo ρ a)):=by
 unfold loadVar;refine(y9 c t).bind λb=> ?_;cases b with
 |true=>exact(bY c t).bind λn=>(il a n).bind λd=>dL _ (by simp[dM])
 |false=>exact vB a
theorem xT(b:aK PL PM)(t:TypeId)(a:Addr)(v:Value):kL ρ PL PM id (storeVar t a v) (storeVar t (Lo ρ a) (dM ρ v)):=by
 unfold storeVar;refine(bY b t).bind λn=> ?_;rw[ef,Array.size_map];show kL ρ PL PM id (if v.cells.size≠n then _ else _) (if v.cells.size≠n then _ else _);split
 ·exact(cC (f:=id) _ _:kL ρ PL PM id _ _).bind λa=>by
   rw[Array.toList_map];exact ei _ _ _
 ·rw[Array.toList_map];exact ei _ _ _
theorem ek(e:TypeId)(cs:Array Value):kL ρ PL PM (Lo ρ) (newRow e cs) (newRow e (cs.map (dM ρ))):=
 (oZ (.cells cs e) rfl).bind λ_=>dL _ rfl
theorem ut(t:TypeId)(v:Value):kL ρ PL PM (Lo ρ) (newVar t v) (newVar t (dM ρ v)):=by
 unfold newVar;rw[ef];exact ek _ _
theorem fi(a:aK PL PM)(t:TypeId)(cs:Array Value)(off:Nat):kL ρ PL PM (dM ρ) (part t cs off) (part t (cs.map (dM ρ)) off):=by
 unfold part;refine(y9 a t).bind λb=> ?_;cases b with
 |true=>exact(bY a t).bind λn=>dL _ (by simp[dM,Array.map_extract])
 |false=>
  show kL ρ PL PM (dM ρ) (match cs[off]? with|some v=>pure v|none=>stuck _) (match (cs.map (dM ρ))[off]? with|some v=>pure v|none=>stuck _);rw[Array.getElem?_map];cases cs[off]? with
  |none=>exact cC _ _
  |some v=>exact dL _ rfl
theorem lh(v:Value):kL ρ PL PM id (asIntOf v) (asIntOf (dM ρ v)):=by
 cases v<;>simp only[dM,asIntOf]<;>first|exact dL _ rfl|exact cC _ _|skip
 rename_i a;cases a with
 |none=>exact cC _ _
 |some a=>exact .dead trivial
theorem ma(v:Value):kL ρ PL PM id (asInt v) (asInt (dM ρ v)):=(lh v).bind λ_=>dL _ rfl
theorem uA(v:Value):kL ρ PL PM id (asBool v) (asBool (dM ρ v)):=by
 cases v<;>simp only[dM,asBool]<;>first|exact dL _ rfl|exact cC _ _
theorem ED(v:Value):kL ρ PL PM (Array.map (dM ρ)) (asAgg v) (asAgg (dM ρ v)):=by
 cases v<;>simp only[dM,asAgg]<;>first|exact dL _ rfl|exact cC _ _
theorem gQ(v:Value):kL ρ PL PM (Lo ρ) (Instr.sureAddr v) (Instr.sureAddr (dM ρ v)):=by
 cases v<;>simp only[dM,Instr.sureAddr]<;>first|exact cC _ _|skip
 rename_i a;cases a with
 |none=>exact cC _ _
 |some a=>exact dL _ rfl
end
section
variable{ρ:Nat->Nat}{PL PM:Program}{α β:Type}{f:α->β}
theorem Lm{c:Prop}[Decidable c]{A B:Sem α}{b a:Sem β}(e:kL ρ PL PM f A b)(d:kL ρ PL PM f B a):kL ρ PL PM f (if c then A else B) (if c then b else a):=by
 split
 ·exact e
 ·exact d
theorem lb(hv:aL v=true):kL ρ PL PM f (goPanic v) (goPanic v):=by
 have:=kL.panic (ρ:=ρ) (PL:=PL) (PM:=PM) (f:=f) v
 rwa [cJ ρ v hv]at this
def o8:RuntimeError->Bool
 | .bounds _ _ _ _| .error _| .plain _| .nilDeref=>true
 |_=>false
theorem g6(a:aK PL PM){e:RuntimeError}(b:o8 e=true):kL ρ PL PM f (runtimePanic e) (runtimePanic e):=by
 refine .program ?_;cases e<;>simp[o8]at b
 ·show kL ρ PL PM f (goPanic (.iface PL.rt.boundsError _)) (goPanic (.iface PM.rt.boundsError _));rw[a.rt];exact lb (by simp[aL,iK])
 ·show kL ρ PL PM f (goPanic (.iface PL.rt.errorString _)) (goPanic (.iface PM.rt.errorString _));rw[a.rt];exact lb (by simp[aL,strVal])
 ·show kL ρ PL PM f (goPanic (.iface PL.rt.plainError _)) (goPanic (.iface PM.rt.plainError _));rw[a.rt];exact lb (by simp[aL,strVal])
 ·show kL ρ PL PM f (goPanic (.iface PL.rt.errorString _)) (goPanic (.iface PM.rt.errorString _));rw[a.rt];exact lb (by simp[aL,strVal])
theorem iC(a:aK PL PM)(k:IntKind)(x y:Int)(c:BoundsCode):kL ρ PL PM f (boundsPanic k x y c) (boundsPanic k x y c):=by
 unfold boundsPanic;dsimp only;split
 ·exact .choose λn=>g6 (e:= .bounds (IntKind.i64.wrap x) y (n==1) c) a rfl
 ·exact g6 (e:= .bounds (IntKind.i64.wrap x) y (k != .u64) c) a rfl
theorem EE(b:aK PL PM)(t:TypeId):kL ρ PL PM (dM ρ) (Instr.alloc t true (.tuple #[])) (Instr.alloc t true (.tuple #[])):=by
 unfold Instr.alloc;refine(l8 b t).bind λz=> ?_;exact(ut t z).bind λa=>dL _ (by simp[dM])
theorem J6(t:TypeId)(v:Value):kL ρ PL PM (dM ρ) (Instr.box t v) (Instr.box t (dM ρ v)):=
 (ut t v).bind λa=>dL _ (by simp[dM])
theorem fy(b:aK PL PM)(t:TypeId)(v:Value):kL ρ PL PM (dM ρ) (Instr.loadAt t v) (Instr.loadAt t (dM ρ v)):=
 (gQ v).bind λa=>iU b t a
theorem zG(b:aK PL PM)(t:TypeId)(v x:Value):kL ρ PL PM id (Instr.storeAt t v x) (Instr.storeAt t (dM ρ v) (dM ρ x)):=
 (gQ v).bind λa=>xT b t a x
theorem dj(r:Nat):kL ρ PL PM id (shape r) (shape (ρ r)):= .shape λs=> .pure s
theorem mu(r:Nat):kL ρ PL PM (Option.map λx=>(Lo ρ x.1,x.2)) (viewAt r) (viewAt (ρ r)):=by
 unfold viewAt;refine(dj r).bind λs=> ?_;cases s with
 |some x=>exact dL _ rfl
 |none=>exact .getObj λo _=>by cases o<;>exact dL _ rfl
theorem oY(a:Addr):kL ρ PL PM id (noView a) (noView (Lo ρ a)):=by
 unfold noView;refine(mu a.block).bind λv=> ?_;cases v with
 |none=>exact dL _ rfl
 |some x=>exact .dead trivial
theorem gw(c:aK PL PM)(a:Addr):kL ρ PL PM id (byteOf a) (byteOf (Lo ρ a)):=by
 unfold byteOf;show kL ρ PL PM id (match a.spot with|some s=>_|_=>_) (match a.spot with|some s=>_|_=>_);cases a.spot with
 |some s=>exact dL _ rfl
 |none=>
  refine .program ?_;show kL ρ PL PM id ((noView a).bind _) ((noView (Lo ρ a)).bind _);refine(oY a).bind λ_=> ?_;refine(dj a.block).bind λs=> ?_;cases s with
  |none=>exact cC _ _
  |some x=>
   obtain⟨e,n⟩:=x;show kL ρ PL PM id (if PL.cellsOf e=0 then _ else _) (if PM.cellsOf e=0 then _ else _);rw[←c.cells e];split
   ·exact dL _ rfl
   ·show kL ρ PL PM id (match byteOfCell PL PL.depth e (a.off%PL.cellsOf e)with|some b=>_|_=>_) (match byteOfCell PM PM.depth e (a.off%PL.cellsOf e)with|some b=>_|_=>_);rw[←c.byteOf];cases byteOfCell PL PL.depth e (a.off%PL.cellsOf e)with
    |none=>exact cC _ _
    |some b=>exact dL _ (by rw[←c.bytes e];rfl)
theorem CG(d:aK PL PM)(a:Addr)(c b:Nat):kL ρ PL PM (Lo ρ) (partAt a c b) (partAt (Lo ρ a) c b):=by
 unfold partAt;refine(gw d a).bind λx=> ?_;refine(gw d {block:=a.block,off:=a.off+c}).bind λy=>dL _ ?_;simp only[id];split<;>rfl
theorem jv(c:aK PL PM)(a:Addr)(b:Field):kL ρ PL PM (Lo ρ) (fieldPlace a b) (fieldPlace (Lo ρ a) b):=by
 unfold fieldPlace;refine(bY c b.type).bind λn=> ?_;show kL ρ PL PM (Lo ρ) (if n=0 then _ else _) (if n=0 then _ else _);split
 ·exact CG c _ _ _
 ·exact dL _ (dU ρ a _).symm
theorem zJ(e:aK PL PM)(t:TypeId)(v:Value)(i:Nat):kL ρ PL PM (dM ρ) (Instr.fieldAt t v i) (Instr.fieldAt t (dM ρ v) i):=by
 unfold Instr.fieldAt;refine(om e t).bind λd=> ?_;cases d<;>first|exact cC _ _|skip
 rename_i c;show kL ρ PL PM (dM ρ) (match c[i]? with|some x=>_|_=>_) (match c[i]? with|some x=>_|_=>_);cases c[i]? with
 |none=>exact cC _ _
 |some f=>exact(gQ v).bind λa=>(jv e a f).bind λb=>dL _ (by simp[dM])
theorem iW(b:aK PL PM)(t:TypeId)(x f:Value):kL ρ PL PM (dM ρ) (Instr.indexAt t x f) (Instr.indexAt t (dM ρ x) (dM ρ f)):=by
 unfold Instr.indexAt;refine(lh f).bind λh=> ?_;obtain⟨k,i⟩:=h;refine(om b t).bind λd=> ?_;dsimp only[id];cases d with
 |array n e=>
  dsimp only;refine(gQ x).bind λa=> ?_;refine(om b t).bind λj=> ?_;dsimp only[id];split
  ·exact(bY b _).bind λn=>dL _ (by simp[dM,dU])
  ·exact Lm (.dead trivial) (iC b _ _ _ _)
 |slice e=>
  cases x with
  |slice c g l=>
   simp only[dM];refine(om b t).bind λj=> ?_;cases c with
   |none=>exact iC b _ _ _ _
   |some a=>
    dsimp only[id,Option.map_some];split
    ·exact(bY b _).bind λn=>dL _ (by simp[dM,dU])
    ·exact Lm (.dead trivial) (iC b _ _ _ _)
  |_=>simp only[dM];exact .dead trivial
 |_=>exact .dead trivial
theorem dr(b:aK PL PM)(x:Value)(y:Nat)(c:BoundsCode):kL ρ PL PM id (Instr.sliceBound x y c) (Instr.sliceBound (dM ρ x) y c):=by
 unfold Instr.sliceBound;refine(lh x).bind λa=> ?_;obtain⟨k,i⟩:=a;dsimp only[id];split
 ·exact dL _ rfl
 ·exact iC b _ _ _ _
theorem fS(a:aK PL PM)(s:Bool)(len cap:Nat)(c d b:Option Value):kL ρ PL PM id (Instr.sliceBounds s len cap c d b) (Instr.sliceBounds s len cap (c.map (dM ρ)) (d.map (dM ρ)) (b.map (dM ρ))):=by
 unfold Instr.sliceBounds;cases b<;>cases d<;>cases c<;>dsimp only[Option.map_none,Option.map_some]<;>first
  |exact dL _ rfl
  |exact .dead trivial
  |exact(dr a _ _ _).bind λ_=>dL _ rfl
  |exact(dr a _ _ _).bind λ_=>(dr a _ _ _).bind λ_=>dL _ rfl
  |exact(dr a _ _ _).bind λ_=>(dr a _ _ _).bind λ_=>(dr a _ _ _).bind λ_=>dL _ rfl
  |exact(dr a _ _ _).bind λ_=> .dead trivial
theorem kp(b:aK PL PM)(v:Value):kL ρ PL PM (Lo ρ) (asAddr v) (asAddr (dM ρ v)):=by
 cases v<;>simp only[dM,asAddr]<;>first|exact cC _ _|skip
 rename_i a;cases a with
 |none=>exact g6 b rfl
 |some a=>exact dL _ rfl
theorem Eu(b:aK PL PM)(t:TypeId)(x:Value)(f g c:Option Value):kL ρ PL PM (dM ρ) (Instr.slice t x f g c) (Instr.slice t (dM ρ x) (f.map (dM ρ)) (g.map (dM ρ)) (c.map (dM ρ))):=by
 unfold Instr.slice;refine(om b t).bind λd=> ?_;have j:(Option.map (dM ρ) c).isSome=c.isSome:=by cases c<;>rfl
 cases d with
 |string=>
  cases x with
  |string s=>
   simp only[dM,id,j];refine Lm (cC _ _) ?_;exact(fS b false s.size s.size f g none).bind λy=>dL _ (by simp[dM])
  |_=>simp only[dM];exact .dead trivial
 |pointer h=>
  refine(kp b x).bind λa=>(om b h).bind λd=> ?_;cases d with
  |array n e=>
   refine(fS b _ _ _ _ _ _).bind λy=>(bY b _).bind λn=>dL _ ?_;simp only[id,dM,Option.map_some];split<;>simp[dU]
  |_=>exact .dead trivial
 |slice e=>
  cases x with
  |slice a i k=>
   simp only[dM];refine(fS b _ _ _ _ _ _).bind λy=>(bY b _).bind λn=>dL _ ?_;simp only[id,dM];split
   ·rfl
   ·cases a<;>simp[dU]
  |_=>simp only[dM];exact .dead trivial
 |_=>exact .dead trivial
theorem zH(b:aK PL PM)(t:TypeId)(x:Value)(f g c:Option Value):kL ρ PL PM (dM ρ) (Instr.sliceAt t x f g c) (Instr.sliceAt t (dM ρ x) (f.map (dM ρ)) (g.map (dM ρ)) (c.map (dM ρ))):=by
 unfold Instr.sliceAt;refine(om b t).bind λd=> ?_;cases d with
 |array n e=>
  refine(gQ x).bind λa=>(fS b _ _ _ _ _ _).bind λy=>(bY b _).bind λn=>dL _ ?_;simp only[id,dM,Option.map_some];split<;>simp[dU]
 |_=>exact Eu b t x f g c
theorem Ex(a:aK PL PM)(t:TypeId)(x b:Value):kL ρ PL PM (dM ρ) (Instr.index t x b) (Instr.index t (dM ρ x) (dM ρ b)):=by
 unfold Instr.index;refine(lh b).bind λc=> ?_;obtain⟨k,i⟩:=c;refine(om a t).bind λd=> ?_;dsimp only[id];cases d with
 |array n e=>
  cases x with
  |agg f=>
   simp only[dM];exact Lm ((bY a _).bind λm=>fi a _ _ _) (iC a _ _ _ _)
  |_=>simp only[dM];exact .dead trivial
 |string=>
  cases x with
  |string s=>
   simp only[dM];split
   ·exact dL _ (by simp[dM])
   ·exact iC a _ _ _ _
  |_=>simp only[dM];exact .dead trivial
 |_=>exact .dead trivial
theorem Ez(a:aK PL PM)(t:TypeId)(x:Value)(i:Nat):kL ρ PL PM (dM ρ) (Instr.field t x i) (Instr.field t (dM ρ x) i):=by
 unfold Instr.field;refine(om a t).bind λd=> ?_;cases d with
 |struct b=>
  dsimp only[id];split
  ·exact(ED x).bind λc=>fi a _ _ _
  ·exact cC _ _
 |_=>exact .dead trivial
theorem zK(x:Value)(i:Nat):kL ρ PL PM (dM ρ) (Instr.extract x i) (Instr.extract (dM ρ x) i):=by
 unfold Instr.extract;cases x with
 |tuple a=>
  simp only[dM,Array.getElem?_map];cases a[i]? with
  |none=>exact cC _ _
  |some v=>exact dL _ rfl
 |_=>simp only[dM];exact .dead trivial
theorem y7(fn:Fn)(b:o7 fn=true)(first a:Array Value):kL ρ PL PM (dM ρ) (Instr.makeFunc fn first a) (Instr.makeFunc fn (first.map (dM ρ)) (a.map (dM ρ))):=
 dL _ (by rw[dM,pD ρ b])
theorem lg(n:Nat):kL ρ PL PM id (askRoom n) (askRoom n):=by
 unfold askRoom;split
 ·exact .mark rfl (.pure ())
 ·exact dL _ rfl
theorem G4(a:Nat->Nat)(z:Array Value)(i:Nat):(z.map (dM a))[i]! =dM a (z[i]!):=by
 have b:dM a (default:Value)=default:=cJ a _ (by rfl);by_cases h:i<z.size
 ·simp[h]
 ·simp[h,b]
theorem ol(a:Nat->Nat)(z:Array Value)(n:Nat):((Array.range n).map λx=>(z.map (dM a))[x%(z.map (dM a)).size]!)=((Array.range n).map λx=>z[x%z.size]!).map (dM a):=by
 rw[Array.map_map];apply Array.map_congr_left;intro i _;rw[G4,Array.size_map];rfl
end
section
variable{ρ:Nat->Nat}{PL PM:Program}{α β:Type}{f:α->β}
theorem ji(hv:aL v=true){b a:Type}(k:b->Sem α)(c:a->Sem β):kL ρ PL PM f (goPanic v>>=k) (goPanic v>>=c):=by
 have:=kL.panic (ρ:=ρ) (PL:=PL) (PM:=PM) (f:=f) v;rw[cJ ρ v hv]at this;exact this
theorem iT(b:aK PL PM){e:RuntimeError}(g:o8 e=true){d c:Type}(k:d->Sem α)(a:c->Sem β):kL ρ PL PM f (runtimePanic e>>=k) (runtimePanic e>>=a):=by
 refine .program ?_;cases e<;>simp[o8]at g
 ·show kL ρ PL PM f (goPanic (.iface PL.rt.boundsError _)>>=k) (goPanic (.iface PM.rt.boundsError _)>>=a);rw[b.rt];exact ji (by simp[aL,iK]) _ _
 ·show kL ρ PL PM f (goPanic (.iface PL.rt.errorString _)>>=k) (goPanic (.iface PM.rt.errorString _)>>=a);rw[b.rt];exact ji (by simp[aL,strVal]) _ _
 ·show kL ρ PL PM f (goPanic (.iface PL.rt.plainError _)>>=k) (goPanic (.iface PM.rt.plainError _)>>=a);rw[b.rt];exact ji (by simp[aL,strVal]) _ _
 ·show kL ρ PL PM f (goPanic (.iface PL.rt.errorString _)>>=k) (goPanic (.iface PM.rt.errorString _)>>=a);rw[b.rt];exact ji (by simp[aL,strVal]) _ _
theorem vA(e:aK PL PM)(t:TypeId)(l c:Value):kL ρ PL PM (dM ρ) (Instr.makeSlice t l c) (Instr.makeSlice t (dM ρ l) (dM ρ c)):=by
 unfold Instr.makeSlice;refine(om e t).bind λd=> ?_;cases d with
 |slice b=>
  refine(ma l).bind λl=>(ma c).bind λc=>(cc e b).bind λi=> ?_;dsimp only[id];refine Lm ?_ ?_
  ·refine Lm (iT e rfl _ _) (Lm (iT e rfl _ _) ?_);exact kL.bind (f:=id) (.choose λn=> .pure n) λn=>iT e rfl _ _
  ·refine(lg _).bind λ_=>(bY e b).bind λg=> ?_;dsimp only[id];refine Lm ?_ ?_
   ·have h:=ol ρ #[] ((IntKind.i64.wrap c).toNat*g);rw[Array.map_empty]at h;refine kL.bind (f:=Lo ρ) ?_ λa=>dL _ (by simp[dM]);have:=ek (ρ:=ρ) (PL:=PL) (PM:=PM) b ((Array.range ((IntKind.i64.wrap c).toNat*g)).map λx=>(#[]:Array Value)[x%(#[]:Array Value).size]!);rwa [←h]at this
   ·refine(l8 e b).bind λz=> ?_;refine kL.bind (f:=Lo ρ) ?_ λa=>dL _ (by simp[dM]);rw[ef,ol];exact ek _ _
 |_=>exact .dead trivial
theorem pS(a:Nat->Nat)(off:Nat):∀(l:List (Value×Nat)) (cs:Array Value),
 (l.map λx=>(dM a x.1,x.2)).foldl (λcs x=>cs.setIfInBounds (off+x.2) x.1) (cs.map (dM a))=(l.foldl (λcs x=>cs.setIfInBounds (off+x.2) x.1) cs).map (dM a)
 |[],_=>rfl
 |x::l,cs=>by
  rw[List.map_cons,List.foldl_cons,List.foldl_cons,←Array.map_setIfInBounds,pS a off l]
theorem lU(c:Nat->Nat)(a:Nat->Option (Nat×Nat)):∀(b:List (Nat×Value)) (cells:Array Value),
 Instr.fill a (cells.map (dM c)) (b.map λx=>(x.1,dM c x.2))=(Instr.fill a cells b).map (Array.map (dM c))
 |[],_=>rfl
 |(i,v)::rest,cells=>by
  rw[List.map_cons];unfold Instr.fill;cases a i with
  |none=>rfl
  |some p=>
   obtain⟨off,size⟩:=p;simp only[ef,Array.size_map];split
   ·rfl
   ·rw[←lU c a rest]
    congr 1
    have h:=pS c off v.cells.zipIdx.toList cells;simp only[←Array.foldl_toList];rw[←h]
    congr 1
    simp[List.zipIdx_map]
theorem AU{a b:Type}{g g':a->Sem b}(h:∀x,kL ρ PL PM id (g x) (g' x)):∀l:List a,kL ρ PL PM id (l.mapM g) (l.mapM g')
 |[]=>by simp only[List.mapM_nil];exact dL _ rfl
 |x::l=>by
  simp only[List.mapM_cons];exact(h x).bind λy=>(AU h l).bind λc=>dL _ rfl
theorem GM{a b:Type}{g g':a->Sem b}(h:∀x,kL ρ PL PM id (g x) (g' x))(xs:Array a):kL ρ PL PM id (xs.mapM g) (xs.mapM g'):=by
 rw[Array.mapM_eq_mapM_toList,Array.mapM_eq_mapM_toList,map_eq_pure_bind,map_eq_pure_bind];exact(AU h _).bind λc=>dL _ rfl
theorem EC(g:aK PL PM)(t:TypeId)(a:Array (Nat×Value)):kL ρ PL PM (dM ρ) (Instr.build t a) (Instr.build t (a.map λx=>(x.1,dM ρ x.2))):=by
 unfold Instr.build;refine(l8 g t).bind λz=>(om g t).bind λd=> ?_;have j:(a.map λx=>(x.1,dM ρ x.2)).toList=a.toList.map λx=>(x.1,dM ρ x.2):=by simp
 cases d with
 |struct k=>
  dsimp only[id];refine kL.bind (f:=id) ?_ λb=> ?_
  ·refine GM (λx=> ?_) k;exact(bY g x.type).bind λn=>dL _ rfl
  ·dsimp only[id];rw[ef,j,lU];cases Instr.fill (λx=>b[x]?) z.cells a.toList with
   |none=>exact .dead trivial
   |some c=>exact dL _ (by simp[dM])
 |array n e=>
  refine(bY g e).bind λh=> ?_;dsimp only[id];rw[ef,j,lU];cases Instr.fill (λi=>some (i*h,h)) z.cells a.toList with
  |none=>exact .dead trivial
  |some c=>exact dL _ (by simp[dM])
 |_=>exact .dead trivial
theorem ta(j:aK PL PM)(t:TypeId)(f:Nat)(b:Array (Nat×Value)):kL ρ PL PM (dM ρ) (Instr.buildSlice t f b) (Instr.buildSlice t f (b.map λx=>(x.1,dM ρ x.2))):=by
 unfold Instr.buildSlice;have k:(b.map λx=>(x.1,dM ρ x.2)).toList=b.toList.map λx=>(x.1,dM ρ x.2):=by simp
 refine(om j t).bind λd=> ?_;cases d with
 |slice e=>
  refine(bY j e).bind λg=> ?_;dsimp only[id];refine Lm (.dead trivial) (Lm ?_ ?_)
  ·have h:=ol ρ #[] (f*g);rw[Array.map_empty]at h;have l:=lU ρ (λi=>some (i*g,g)) b.toList ((Array.range (f*g)).map λx=>(#[]:Array Value)[x%(#[]:Array Value).size]!);rw[←h]at l;show kL ρ PL PM (dM ρ) (match Instr.fill _ _ _ with|some c=>_|_=>_) (match Instr.fill _ _ _ with|some c=>_|_=>_);rw[k,l];cases Instr.fill (λi=>some (i*g,g)) ((Array.range (f*g)).map λx=>(#[]:Array Value)[x%(#[]:Array Value).size]!) b.toList with
   |none=>exact .dead trivial
   |some c=>exact(ek e c).bind λa=>dL _ (by simp[dM])
  ·refine(l8 j e).bind λz=> ?_;show kL ρ PL PM (dM ρ) (match Instr.fill _ _ _ with|some c=>_|_=>_) (match Instr.fill _ _ _ with|some c=>_|_=>_);rw[ef,ol,k,lU];cases Instr.fill (λi=>some (i*g,g)) ((Array.range (f*g)).map λx=>z.cells[x%z.cells.size]!) b.toList with
   |none=>exact .dead trivial
   |some c=>exact(ek e c).bind λa=>dL _ (by simp[dM])
 |_=>exact .dead trivial
theorem jh(op:BinOp)(k:IntKind)(x y:Int):kL ρ PL PM (dM ρ) (Op.intArith op k x y) (Op.intArith op k x y):=by
 unfold Op.intArith;cases op<;>first|exact dL _ (by simp[dM])|exact .dead trivial
theorem uv(a:aK PL PM)(op:BinOp)(k:IntKind)(x y:Int):kL ρ PL PM (dM ρ) (Op.intDiv op k x y) (Op.intDiv op k x y):=by
 unfold Op.intDiv;refine Lm (g6 a rfl) ?_;cases op<;>first|exact dL _ (by simp[dM])|exact .dead trivial
theorem iV(op:BinOp)(k:IntKind)(x y:Int):kL ρ PL PM (dM ρ) (Op.intBits op k x y) (Op.intBits op k x y):=by
 unfold Op.intBits;cases op<;>first|exact dL _ (by simp[dM])|exact .dead trivial
theorem xU(a:aK PL PM)(op:BinOp)(k:IntKind)(x:Int)(k2:IntKind)(y:Int):kL ρ PL PM (dM ρ) (Op.shift op k x k2 y) (Op.shift op k x k2 y):=by
 unfold Op.shift;refine Lm (g6 a rfl) ?_;cases op<;>first|exact dL _ (by simp[dM])|exact .dead trivial
theorem iB(op:BinOp)(x y:Int):kL ρ PL PM (dM ρ) (Op.intCmp op x y) (Op.intCmp op x y):=by
 unfold Op.intCmp;cases op<;>first|exact dL _ (by simp[dM])|exact .dead trivial
theorem qa(op:BinOp)(x y:ByteArray):kL ρ PL PM (dM ρ) (Op.stringOp op x y) (Op.stringOp op x y):=by
 unfold Op.stringOp;cases op<;>first|exact dL _ (by simp[dM])|exact Lm (.dead trivial) (dL _ (by simp[dM]))|exact .dead trivial
theorem Es(op:UnOp)(x:Value):kL ρ PL PM (dM ρ) (Op.unary op x) (Op.unary op (dM ρ x)):=by
 cases x with
 |pointer a=>cases a<;>cases op<;>simp only[dM,Op.unary,Option.map_none,Option.map_some]<;>exact .dead trivial
 |int k n=>cases op<;>simp only[dM,Op.unary]<;>first|exact jh _ _ _ _|exact iV _ _ _ _|exact .dead trivial
 |bool b=>cases op<;>simp only[dM,Op.unary]<;>first|exact dL _ (by simp[dM])|exact .dead trivial
 |float k b=>cases op<;>simp only[dM,Op.unary]<;>first|exact dL _ (by simp[dM])|exact .dead trivial
 |complex k b c=>cases op<;>simp only[dM,Op.unary]<;>first|exact dL _ (by simp[dM])|exact .dead trivial
 |_=>cases op<;>simp only[dM,Op.unary]<;>exact .dead trivial
end
section
variable{ρ:Nat->Nat}{PL PM:Program}{α β:Type}{f:α->β}
theorem rq(k:∀x y,ρ x=ρ y->x=y)(a b:Addr):(Lo ρ a==Lo ρ b)=(a==b):=by
 obtain⟨j,i,g⟩:=a;obtain⟨f,d,c⟩:=b;by_cases h:(⟨j,i,g⟩:Addr)=⟨f,d,c⟩
 ·rw[h];simp
 ·have l:Lo ρ ⟨j,i,g⟩≠Lo ρ ⟨f,d,c⟩:=λe=>h (by
   simp only[Lo,Addr.mk.injEq]at e⊢;exact⟨k _ _ e.1,e.2⟩)
  rw[beq_eq_false_iff_ne.2 h,beq_eq_false_iff_ne.2 l]
theorem kh(c:∀x y,ρ x=ρ y->x=y)(a b:Nat):(ρ a==ρ b)=(a==b):=by
 by_cases h:a=b
 ·subst h;simp
 ·rw[beq_eq_false_iff_ne.2 h,beq_eq_false_iff_ne.2 λe=>h (c _ _ e)]
theorem mw(a:Addr):kL ρ PL PM id (frozen a) (frozen (Lo ρ a)):= .frozen λb=> .pure b
theorem oB(a:Addr):kL ρ PL PM id (stringish a) (stringish (Lo ρ a)):=by
 unfold stringish;refine(mw a).bind λb=> ?_;dsimp only[id];refine Lm (dL _ rfl) ?_;refine(dj a.block).bind λs=> ?_;cases s with
 |none=>exact dL _ rfl
 |some x=>exact .frozen λb=> .pure b
theorem xY(a b:Addr):kL ρ PL PM id (mayBeOne a b) (mayBeOne (Lo ρ a) (Lo ρ b)):=by
 unfold mayBeOne;refine(oB a).bind λd=>(oB b).bind λc=> ?_;dsimp only[id];exact kL.bind (f:=id) ((dj a.block).bind λs=>dL _ rfl) λx=>kL.bind (f:=id) ((dj b.block).bind λs=>dL _ rfl) λy=>dL _ rfl
theorem qb(c:∀x y,ρ x=ρ y->x=y)(a b:Addr):kL ρ PL PM id (sameAddr a b) (sameAddr (Lo ρ a) (Lo ρ b)):=by
 unfold sameAddr;have d:((Lo ρ a).block==(Lo ρ b).block)=(a.block==b.block):=kh c _ _;rw[d,rq c];refine Lm (dL _ rfl) ?_;refine(mw a).bind λx=>(mw b).bind λy=> ?_;dsimp only[id];refine Lm (.dead trivial) ?_;refine(oY a).bind λ_=>(oY b).bind λ_=>(xY a b).bind λm=> ?_;dsimp only[id];exact Lm (.choose λn=> .pure _) (dL _ rfl)
theorem sj(c:∀x y,ρ x=ρ y->x=y)(a b:Option Addr):kL ρ PL PM id (samePointer a b) (samePointer (a.map (Lo ρ)) (b.map (Lo ρ))):=by
 cases a<;>cases b<;>first|exact qb c _ _|exact dL _ rfl
def dP(d:Option TypeDesc)(x y:Value):Bool:=
 match x,y with
 | .bool _, .bool _| .int _ _, .int _ _| .string _, .string _| .nilIface, .nilIface| .nilIface, .iface _ _| .iface _ _, .nilIface| .nilFunc, .nilFunc| .nilFunc, .func _ _ _| .func _ _ _, .nilFunc=>true
 | .slice a _ _, .slice b _ _=>a.isNone||b.isNone
 | .pointer _, .pointer _=>(match d with|some (.int _)=>false|_=>true)
 |_,_=>false
theorem zL(s:aK PL PM)(p:∀x y,ρ x=ρ y->x=y)(d:Nat)(t:TypeId)(x y:Value)(h:dP (PL.underlying t) x y=true):kL ρ PL PM id (Op.equalIn (d+1) t x y) (Op.equalIn (d+1) t (dM ρ x) (dM ρ y)):=by
 have f:∀{r q:Type} {g:r->q} (k:TypeDesc->Sem r) (m:TypeDesc->Sem q),(∀e,PL.underlying t=some e->kL ρ PL PM g (k e) (m e))->kL ρ PL PM g (underlying t>>=k) (underlying t>>=m):=λk m w=>by
  refine .program ?_;show kL ρ PL PM _ ((match PL.underlying t with|some i=>pure i|none=>stuck "no such type" :Sem TypeDesc).bind k) ((match PM.underlying t with|some i=>pure i|none=>stuck "no such type" :Sem TypeDesc).bind m);rw[←s.under t];cases z:PL.underlying t with
  |none=>exact .dead trivial
  |some e=>exact w e z
 cases x with
 |bool a=>
  cases y with
  |bool b=>
   simp only[dM];unfold Op.equalIn;refine f _ _ λe j=> ?_;cases e<;>first|exact dL _ rfl|exact .dead trivial
  |_=>simp[dP]at h
 |int k a=>
  cases y with
  |int m b=>
   simp only[dM];unfold Op.equalIn;refine f _ _ λe j=> ?_;cases e<;>first|exact Lm (dL _ rfl) (.dead trivial)|exact .dead trivial
  |_=>simp[dP]at h
 |string a=>
  cases y with
  |string b=>
   simp only[dM];unfold Op.equalIn;refine f _ _ λe j=> ?_;cases e<;>first|exact dL _ rfl|exact .dead trivial
  |_=>simp[dP]at h
 |nilIface=>
  cases y with
  |nilIface=>
   simp only[dM];unfold Op.equalIn;refine f _ _ λe j=> ?_;cases e<;>first|exact dL _ rfl|exact .dead trivial
  |iface u v=>
   simp only[dM];unfold Op.equalIn;refine f _ _ λe j=> ?_;cases e<;>first|exact dL _ rfl|exact .dead trivial
  |_=>simp[dP]at h
 |iface u v=>
  cases y with
  |nilIface=>
   simp only[dM];unfold Op.equalIn;refine f _ _ λe j=> ?_;cases e<;>first|exact dL _ rfl|exact .dead trivial
  |_=>simp[dP]at h
 |nilFunc=>
  cases y with
  |nilFunc=>
   simp only[dM];unfold Op.equalIn;refine f _ _ λe j=> ?_;cases e<;>first|exact dL _ rfl|exact .dead trivial
  |func A a b=>
   simp only[dM];unfold Op.equalIn;refine f _ _ λe j=> ?_;cases e<;>first|exact dL _ rfl|exact .dead trivial
  |_=>simp[dP]at h
 |func A a b=>
  cases y with
  |nilFunc=>
   simp only[dM];unfold Op.equalIn;refine f _ _ λe j=> ?_;cases e<;>first|exact dL _ rfl|exact .dead trivial
  |_=>simp[dP]at h
 |slice a l c=>
  cases y with
  |slice b B C=>
   simp only[dP,Bool.or_eq_true,Option.isNone_iff_eq_none]at h;simp only[dM];unfold Op.equalIn;refine f _ _ λe j=> ?_;rcases h with rfl|rfl
   ·cases b<;>cases e<;>first|exact dL _ rfl|exact .dead trivial
   ·cases a<;>cases e<;>first|exact dL _ rfl|exact .dead trivial
  |_=>simp[dP]at h
 |pointer a=>
  cases y with
  |pointer b=>
   simp only[dM];unfold Op.equalIn;refine f _ _ λe j=> ?_;rw[j]at h;cases e with
   |int k=>simp[dP]at h
   |pointer o=>
    cases a with
    |none=>cases b<;>exact dL _ rfl
    |some a=>
     cases b with
     |none=>exact dL _ rfl
     |some b=>
      refine(bY s o).bind λn=> ?_;dsimp only[id];rw[rq p];refine Lm (qb p _ _) (Lm (dL _ rfl) (.choose λn=> .pure _))
   |unsafePointer=>exact sj p a b
   |_=>exact .dead trivial
  |_=>simp[dP]at h
 |_=>simp[dP]at h
end
section
variable{ρ:Nat->Nat}{PL PM:Program}{α β:Type}{f:α->β}
theorem p8{a d:Type}(r:a->a){g g':a->d->Sem (ForInStep d)}(h:∀c s,kL ρ PL PM id (g c s) (g' (r c) s)):∀(l:List a) (b:d),kL ρ PL PM id (forIn l b g) (forIn (l.map r) b g')
 |[],b=>by simp only[List.map_nil,List.forIn_nil];exact dL _ rfl
 |c::l,b=>by
  simp only[List.map_cons,List.forIn_cons];refine(h c b).bind λs=> ?_;cases s with
  |done x=>exact dL _ rfl
  |yield x=>exact p8 r h l x
theorem pa{a d:Type}(r:a->a){g g':a->d->Sem (ForInStep d)}(h:∀c s,kL ρ PL PM id (g c s) (g' (r c) s))(xs:Array a)(b:d):kL ρ PL PM id (forIn xs b g) (forIn (xs.map r) b g'):=by
 rw[←Array.forIn_toList,←Array.forIn_toList,Array.toList_map];exact p8 r h _ _
theorem pd(x:Value):kL ρ PL PM (dM ρ) (Conv.bytesToString x) (Conv.bytesToString (dM ρ x)):=by
 unfold Conv.bytesToString;cases x with
 |slice a l c=>
  cases a with
  |none=>simp only[dM,Option.map_none];exact dL _ (by simp[dM])
  |some a=>
   simp only[dM,Option.map_some];refine(il a l).bind λb=> ?_;refine(pa (dM ρ) (λc s=> ?_) b ByteArray.empty).bind λs=>dL _ (by simp[dM]);cases c with
   |int k n=>
    simp only[dM];cases k<;>first|exact dL _ rfl|exact .dead trivial
   |_=>simp only[dM];exact .dead trivial
 |_=>simp only[dM];exact .dead trivial
theorem km(a:Addr):kL ρ PL PM id (markStringish a) (markStringish (Lo ρ a)):=by
 unfold markStringish;refine(dj a.block).bind λs=> ?_;cases s with
 |none=>exact dL _ rfl
 |some x=>exact kL.freeze (a:={block:=a.block,off:=x.2}) (.pure ())
theorem oW(e:TypeId)(s:ByteArray):kL ρ PL PM (dM ρ) (Conv.stringToBytes e s) (Conv.stringToBytes e s):=by
 unfold Conv.stringToBytes;refine kL.bind (f:=id) (.choose λn=> .pure n) λc=> ?_;dsimp only[id];refine kL.bind (f:=Lo ρ) ?_ λa=>(km a).bind λ_=>dL _ (by simp[dM]);have h:=ek (ρ:=ρ) (PL:=PL) (PM:=PM) e ((s.data.map λb:UInt8=>Value.int .u8 b.toNat)++Array.replicate (c- s.size) (Value.int .u8 0));have g:((s.data.map λb:UInt8=>Value.int .u8 b.toNat)++Array.replicate (c- s.size) (Value.int .u8 0)).map (dM ρ)=(s.data.map λb:UInt8=>Value.int .u8 b.toNat)++Array.replicate (c- s.size) (Value.int .u8 0):=by
  refine iO λv d=> ?_;rcases Array.mem_append.1 d with d|d
  ·obtain⟨b,_,rfl⟩:=Array.mem_map.1 d;simp[dM]
  ·obtain⟨_,rfl⟩:=Array.mem_replicate.1 d;simp[dM]
 rwa [g]at h
theorem J4(c:aK PL PM)(a:Array TypeId)(t:TypeId)(args:Array Value):kL ρ PL PM (dM ρ) (Builtin.len_ a t args) (Builtin.len_ a t (args.map (dM ρ))):=by
 unfold Builtin.len_;rw[Array.getElem?_map];cases a[0]? with
 |none=>exact .dead trivial
 |some d=>
  cases args[0]? with
  |none=>exact .dead trivial
  |some x=>
   simp only[Option.map_some];refine(om c d).bind λe=> ?_;cases e with
   |string=>cases x<;>simp only[dM]<;>first|exact dL _ (by simp[dM,goInt])|exact .dead trivial
   |array n e=>exact dL _ (by simp[dM,goInt])
   |pointer p=>
    refine(om c p).bind λe=> ?_;cases e<;>first|exact dL _ (by simp[dM,goInt])|exact .dead trivial
   |slice e=>cases x<;>simp only[dM]<;>first|exact dL _ (by simp[dM,goInt])|exact .dead trivial
   |map k e=>
    cases x with
    |map r=>cases r with
     |none=>simp only[dM,Option.map_none];exact dL _ (by simp[dM,goInt])
     |some r=>
      simp only[dM,Option.map_some];exact .getObj λo b=>by cases o<;>first|exact .dead trivial|(simp[bX]at b;done)
    |_=>simp only[dM];exact .dead trivial
   |chan k e=>
    cases x with
    |chan r=>cases r with
     |none=>simp only[dM,Option.map_none];exact dL _ (by simp[dM,goInt])
     |some r=>
      simp only[dM,Option.map_some];exact .getObj λo b=>by cases o<;>first|exact .dead trivial|(simp[bX]at b;done)
    |_=>simp only[dM];exact .dead trivial
   |_=>exact .dead trivial
theorem J5(b:aK PL PM)(a:Array TypeId)(t:TypeId)(args:Array Value):kL ρ PL PM (dM ρ) (Builtin.cap_ a t args) (Builtin.cap_ a t (args.map (dM ρ))):=by
 unfold Builtin.cap_;rw[Array.getElem?_map];cases a[0]? with
 |none=>exact .dead trivial
 |some c=>
  cases args[0]? with
  |none=>exact .dead trivial
  |some x=>
   simp only[Option.map_some];refine(om b c).bind λe=> ?_;cases e with
   |array n e=>exact dL _ (by simp[dM,goInt])
   |pointer p=>
    refine(om b p).bind λe=> ?_;cases e<;>first|exact dL _ (by simp[dM,goInt])|exact .dead trivial
   |slice e=>cases x<;>simp only[dM]<;>first|exact dL _ (by simp[dM,goInt])|exact .dead trivial
   |chan k e=>
    cases x with
    |chan r=>cases r with
     |none=>simp only[dM,Option.map_none];exact dL _ (by simp[dM,goInt])
     |some r=>
      simp only[dM,Option.map_some];exact .getObj λo d=>by cases o<;>first|exact .dead trivial|(simp[bX]at d;done)
    |_=>simp only[dM];exact .dead trivial
   |_=>exact .dead trivial
theorem y8(x:Value):kL ρ PL PM id (Builtin.lenOf x) (Builtin.lenOf (dM ρ x)):=by
 cases x<;>simp only[dM,Builtin.lenOf]<;>first|exact dL _ rfl|exact .dead trivial
theorem gF(size n:Nat)(x:Value):kL ρ PL PM (Array.map (dM ρ)) (Builtin.firstCells size n x) (Builtin.firstCells size n (dM ρ x)):=by
 cases x with
 |slice a l c=>
  cases a with
  |none=>simp only[dM,Option.map_none];exact dL _ (by simp)
  |some a=>simp only[dM,Option.map_some];exact il a _
 |string s=>
  simp only[dM];refine dL _ (iO λv d=> ?_).symm;obtain⟨b,_,rfl⟩:=Array.mem_map.1 d;simp[dM]
 |_=>simp only[dM];exact .dead trivial
theorem GN(d:aK PL PM)(b:Array TypeId)(t:TypeId)(args:Array Value):kL ρ PL PM (dM ρ) (Builtin.copy_ b t args) (Builtin.copy_ b t (args.map (dM ρ))):=by
 unfold Builtin.copy_;rw[Array.getElem?_map,Array.getElem?_map];cases b[0]? with
 |none=>exact .dead trivial
 |some f=>
  cases args[0]? with
  |none=>exact .dead trivial
  |some x=>
   cases args[1]? with
   |none=>exact .dead trivial
   |some y=>
    simp only[Option.map_some];refine(om d f).bind λe=> ?_;cases e with
    |slice e=>
     cases x with
     |slice a l c=>
      simp only[dM];refine(y8 y).bind λn=>(bY d e).bind λg=>(gF _ _ y).bind λh=> ?_;dsimp only[id];cases a with
      |none=>exact dL _ (by simp[dM,goInt])
      |some a=>
       simp only[Option.map_some];rw[Array.toList_map];exact(ei a _ 0).bind λ_=>dL _ (by simp[dM,goInt])
     |_=>simp only[dM];exact .dead trivial
    |_=>exact .dead trivial
theorem GL(x y:Value):kL ρ PL PM (dM ρ) (Builtin.min2 x y) (Builtin.min2 (dM ρ x) (dM ρ y)):=by
 cases x with
 |int k a=>
  cases y with
  |pointer b=>cases b<;>simp only[dM,Option.map_none,Option.map_some]<;>exact .dead trivial
  |_=>simp only[dM]<;>first|exact dL _ (by simp[dM])|exact .dead trivial
 |pointer a=>cases a<;>cases y<;>simp only[dM,Option.map_none,Option.map_some]<;>first|exact .dead trivial|(rename_i b;cases b<;>exact .dead trivial)
 |string a=>
  cases y with
  |string b=>simp only[dM];exact(qa .leq a b).bind λv=>(uA v).bind λq=>dL _ (by simp only[id,dM])
  |pointer b=>cases b<;>simp only[dM,Option.map_none,Option.map_some]<;>exact .dead trivial
  |_=>simp only[dM];exact .dead trivial
 |float k a=>
  cases y with
  |float c b=>
   simp only[dM,Builtin.min2];cases k.format.order a b with
   |none=>exact .choose λn=>dL (Value.float k n) (by simp only[dM])
   |some o=>cases o<;>exact dL _ (by simp only[dM])
  |pointer b=>cases b<;>simp only[dM,Option.map_none,Option.map_some]<;>exact .dead trivial
  |_=>simp only[dM];exact .dead trivial
 |_=>cases y with
  |pointer b=>cases b<;>simp only[dM,Option.map_none,Option.map_some]<;>exact .dead trivial
  |_=>simp only[dM];exact .dead trivial
theorem uy:∀(l:List Value) (x:Value),kL ρ PL PM (dM ρ) (l.foldlM Builtin.min2 x) ((l.map (dM ρ)).foldlM Builtin.min2 (dM ρ x))
 |[],x=>dL _ rfl
 |y::l,x=>by
  simp only[List.map_cons,List.foldlM_cons];exact(GL x y).bind λz=>uy l z
theorem J3(a:Array TypeId)(t:TypeId)(args:Array Value):kL ρ PL PM (dM ρ) (Builtin.min_ a t args) (Builtin.min_ a t (args.map (dM ρ))):=by
 unfold Builtin.min_;rw[Array.toList_map];cases args.toList with
 |nil=>exact .dead trivial
 |cons x l=>exact uy l x
theorem p7(a:aK PL PM)(t:TypeId)(x:Value):kL ρ PL PM (dM ρ) (Instr.makeInterface t x) (Instr.makeInterface t (dM ρ x)):=by
 unfold Instr.makeInterface;refine(om a t).bind λe=> ?_;cases e<;>first|exact dL _ (by simp[dM])|exact .dead trivial
def jA(P:Program)(s:Sem α):Prop:=∀w,∃h w',s.run P w= .halt h w'/\eo h/\(aD w->aD w')
def Jn(P:Program)(s:Sem α):Prop:=∀w,(∀h w',s.run P w= .halt h w'->eo h/\(aD w->aD w'))/\∀a w',s.run P w= .ok a w'->aD w->aD w'
theorem jA.after{c:Type}{s:Sem c}{k:c->Sem α}(d:Jn PL s)(h:∀a,jA PL (k a)):jA PL (s>>=k):=λw=>by
 rw[Sem.run_bind];cases e:s.run PL w with
 |ok a b=>
  obtain⟨x,f,l,j,i⟩:=h a b;exact⟨x,f,l,j,λg=>i ((d w).2 a b e g)⟩
 |halt x b=>exact⟨x,b,rfl,(d w).1 x b e⟩
theorem fP(v:Value):jA PL (goPanic v:Sem α):=λw=>⟨_,w,rfl,trivial,λh=>h⟩
theorem pW(t:TypeId):Jn PL (elemOf t):=λw=>by
 unfold elemOf underlying;simp only[Bind.bind,Sem.bind,program,Sem.run];cases f:PL.underlying t with
 |none=>exact⟨λh b e=>by cases e;exact⟨trivial,λh=>h⟩,λa b e=>by cases e⟩
 |some d=>cases d<;>exact⟨λh b e=>by cases e<;>exact⟨trivial,λh=>h⟩,λa b e c=>by cases e<;>exact c⟩
theorem aD.push(h:aD w){o:Obj}(c:bX o=true):aD {w with heap:=w.heap.push o}:=by
 intro b x a;simp only[Array.getElem?_push]at a;split at a
 ·cases a;exact c
 ·exact h b x a
theorem pV(t:TypeId)(v:Value):Jn PL (newVar t v):=λw=>⟨λh b e=>(by cases e),λa b e c=>(by cases e;exact c.push rfl)⟩
theorem iA(e:RuntimeError):jA PL (runtimePanic e:Sem α):=by
 unfold runtimePanic;refine jA.after (λw=>⟨λh b e=>(by cases e),λa b e d=>(by cases e;exact d)⟩) λp=> ?_;cases e with
 |typeAssertion i c a m=>exact jA.after (pW _) λ_=>jA.after (pV _ _) λ_=>fP _
 |panicNil=>exact jA.after (pW _) λ_=>jA.after (pV _ _) λ_=>fP _
 |_=>exact fP _
theorem Ev(x:Value):kL ρ PL PM (dM ρ) (Instr.panic x) (Instr.panic (dM ρ x)):=by
 unfold Instr.panic;cases x with
 |nilIface=>
  refine .sys λr w=> ?_;rw[Sem.run_bind'];generalize e:Sem.run PL _ w=q;cases q with
  |halt x b=>
   refine⟨x,b,rfl, ?_⟩;cases r<;>cases e<;>exact⟨trivial,λh=>h⟩
  |ok a b=>
   have c:b=w:=(by cases r<;>cases e<;>rfl);subst c;show∃h d,Sem.run PL (if (a==1)=true then goPanic Value.nilIface else runtimePanic RuntimeError.panicNil) b=_/\_;split
   ·exact fP _ b
   ·exact iA _ b
 |_=>exact .dead trivial
end
section
variable{ρ:Nat->Nat}{PL PM:Program}{α β:Type}{f:α->β}
theorem ju(a:Addr)(n:Nat):kL ρ PL PM id (Builtin.holdsCells a n) (Builtin.holdsCells (Lo ρ a) n):=by
 unfold Builtin.holdsCells;refine(dj a.block).bind λs=> ?_;cases s with
 |none=>exact dL _ rfl
 |some x=>exact dL _ rfl
theorem xX(d:∀x y,ρ x=ρ y->x=y)(size l n:Nat)(base:Option Addr)(x:Value):kL ρ PL PM id (Builtin.mayShare size l n base x) (Builtin.mayShare size l n (base.map (Lo ρ)) (dM ρ x)):=by
 unfold Builtin.mayShare;cases base with
 |none=>
  simp only[Option.map_none,pure_bind,Bool.not_true,Bool.false_eq_true,↓reduceIte,Option.any_none];cases x with
  |slice a l c=>
   cases a with
   |none=>simp only[dM,Option.map_none];exact dL _ rfl
   |some a=>
    simp only[dM,Option.map_some];exact(ju a _).bind λq=>dL _ rfl
  |_=>simp only[dM];exact dL _ rfl
 |some a=>
  refine(ju a _).bind λh=> ?_;refine kL.bind (f:=id) (by rw[←dU];exact mw _) λe=> ?_;simp only[id,Option.map_some,pure_bind,Option.any_some];refine Lm (dL _ rfl) ?_;cases x with
  |slice b l c=>
   cases b with
   |none=>simp only[dM,Option.map_none];exact dL _ rfl
   |some b=>
    simp only[dM,Option.map_some];refine(ju b _).bind λq=>dL _ ?_;have:=kh d a.block b.block;simp only[id];rw[show(Lo ρ a).block=ρ a.block from rfl,show(Lo ρ b).block=ρ b.block from rfl,this]
  |_=>simp only[dM];exact dL _ rfl
theorem l7(a:Nat->Nat)(z:Array Value)(n:Nat):Builtin.zeroCells (z.map (dM a)) n=(Builtin.zeroCells z n).map (dM a):=by
 unfold Builtin.zeroCells;have:=ol a z (n*z.size);rwa [Array.size_map]at this⊢
theorem CF(c:aK PL PM)(t:TypeId){k:TypeDesc->Sem α}{a:TypeDesc->Sem β}(h:∀d,PL.underlying t=some d->kL ρ PL PM f (k d) (a d)):kL ρ PL PM f (underlying t>>=k) (underlying t>>=a):=by
 unfold underlying;simp only[Bind.bind];refine .program ?_;simp only[Sem.bind];rw[←c.under t];cases b:PL.underlying t with
 |none=>exact .dead trivial
 |some d=>exact h d b
theorem mQ(size n:Nat)(b:Option Addr)(l c:Nat):kL ρ PL PM (Array.map (dM ρ)) (Builtin.firstCells size n (.slice b l c)) (Builtin.firstCells size n (.slice (b.map (Lo ρ)) l c)):=by
 have:=gF (ρ:=ρ) (PL:=PL) (PM:=PM) size n (.slice b l c);simpa only[dM]using this
theorem CH{q:Question}{k:Nat->Sem α}{a:Nat->Sem β}(h:∀n,kL ρ PL PM f (k n) (a n)):kL ρ PL PM f (choose q>>=k) (choose q>>=a):= .choose h
theorem uq(b:aK PL PM)(e:TypeId)(n size:Nat){k:Array Value->Sem α}{a:Array Value->Sem β}(h:∀cs,kL ρ PL PM f (k cs) (a (cs.map (dM ρ)))):
 kL ρ PL PM f ((if n*size=0 then pure #[]else do pure (Builtin.zeroCells (←zeroValue e).cells n))>>=k) ((if n*size=0 then pure #[]else do pure (Builtin.zeroCells (←zeroValue e).cells n))>>=a):=by
 refine kL.bind (f:=Array.map (dM ρ)) (Lm (dL _ (by simp)) ?_) h;exact(l8 b e).bind λz=>dL _ (by rw[ef,l7])
theorem CI(f:aK PL PM)(w:∀x y,ρ x=ρ y->x=y)(o:Array TypeId)(t:TypeId)(args:Array Value):kL ρ PL PM (dM ρ) (Builtin.append_ o t args) (Builtin.append_ o t (args.map (dM ρ))):=by
 unfold Builtin.append_;rw[Array.getElem?_map,Array.getElem?_map];cases o[0]? with
 |none=>exact .dead trivial
 |some r=>
  cases args[0]? with
  |none=>exact .dead trivial
  |some s=>
   cases args[1]? with
   |none=>exact .dead trivial
   |some x=>
    simp only[Option.map_some];refine(om f r).bind λe=> ?_;cases e with
    |slice e=>
     cases s with
     |slice h g j=>
      simp only[dM];refine(bY f e).bind λb=> ?_;dsimp only[id];cases o[1]?
      case' some t1=>
         refine(om f t1).bind λd=> ?_;dsimp only[id];cases d
         case int k=>
           simp only[pure_bind,Bool.false_eq_true,↓reduceIte,Bool.not_true];refine(ma x).bind λl=> ?_;dsimp only[id];refine Lm (iT f rfl _ _) ?_;refine(cc f e).bind λi=> ?_;dsimp only[id];refine Lm (CH λn=>iT f rfl _ _) ?_;refine Lm ?_ ?_
           ·refine uq f e _ b λm=> ?_;rcases h with _|a
            ·simp only[Option.map_none];exact dL _ (by simp[dM])
            ·simp only[Option.map_some];rw[←dU,Array.toList_map];exact(ei _ _ _).bind λ_=>dL _ (by simp[dM])
           ·refine(cc f e).bind λi=> ?_;dsimp only[id];refine Lm (iT f rfl _ _) ?_;refine(cc f e).bind λv=> ?_;dsimp only[id];refine Lm (iT f rfl _ _) ?_;refine .choose λc=> ?_;refine(cc f e).bind λu=> ?_;refine(lg _).bind λ_=> ?_;refine(mQ b g h g j).bind λp=> ?_;refine uq f e _ b λm=> ?_;refine(l8 f e).bind λz=> ?_;rw[ef,l7,←Array.map_append,←Array.map_append];exact(ek _ _).bind λa=>dL _ (by simp[dM])
      all_goals
         simp only[pure_bind,Bool.false_eq_true,↓reduceIte,Bool.not_false];refine(y8 x).bind λn=> ?_;dsimp only[id];refine Lm ?_ ?_
         ·refine(gF b n x).bind λm=> ?_;rcases h with _|a
          ·simp only[Option.map_none];exact dL _ (by simp[dM])
          ·simp only[Option.map_some];rw[←dU,Array.toList_map];exact(ei _ _ _).bind λ_=>dL _ (by simp[dM])
         ·refine(cc f e).bind λi=> ?_;dsimp only[id];refine Lm (iT f rfl _ _) ?_;refine(cc f e).bind λv=> ?_;dsimp only[id];refine Lm ?_ ?_
          ·rw[bind_assoc,bind_assoc];refine(xX w b g n h x).bind λq=> ?_;cases q
           ·exact .mark rfl (.dead trivial)
           ·exact .dead trivial
          ·refine .choose λc=> ?_;refine(cc f e).bind λu=> ?_;refine(lg _).bind λ_=> ?_;refine(mQ b g h g j).bind λp=> ?_;refine(gF b n x).bind λm=> ?_;refine(l8 f e).bind λz=> ?_;rw[ef,l7,←Array.map_append,←Array.map_append];exact(ek _ _).bind λa=>dL _ (by simp[dM])
     |_=>simp only[dM];exact .dead trivial
    |_=>exact .dead trivial
end
section
variable{ρ:Nat->Nat}{PL PM:Program}{α β:Type}{f:α->β}
theorem uz(a:aK PL PM)(t:TypeId):kL ρ PL PM id (elemOf t) (elemOf t):=by
 unfold elemOf;refine(om a t).bind λd=> ?_;cases d with
 |pointer e=>exact dL _ rfl
 |_=>exact .dead trivial
theorem m7(b:aK PL PM)(a:Addr)(u:TypeId)(n:Nat):kL ρ PL PM id (variablesAt a u n) (variablesAt (Lo ρ a) u n):=by
 unfold variablesAt;refine .program ?_;refine(dj a.block).bind λs=> ?_;cases s with
 |none=>exact dL _ rfl
 |some x=>
  obtain⟨e,c⟩:=x;refine dL _ ?_;simp only[id];rw[←b.lies,←b.cells];rfl
theorem oC:∀(n:Nat) (a:Addr) (c:ByteArray),kL ρ PL PM id (loadBytes a c n) (loadBytes (Lo ρ a) c n)
 |0,a,c=>dL _ rfl
 |n+1,a,c=>by
  unfold loadBytes;refine(vB a).bind λv=> ?_;cases v with
  |int k b=>
   simp only[dM];cases k with
   |u8=>rw[←dU];exact oC n _ _
   |_=>exact .dead trivial
  |_=>simp only[dM];exact .dead trivial
theorem zO(r:Nat):kL ρ PL PM id (cellsIn r) (cellsIn (ρ r)):=by
 unfold cellsIn;refine(dj r).bind λs=> ?_;cases s with
 |some x=>exact dL _ rfl
 |none=>
  refine kL.getObj λo _=> ?_;cases o<;>first|exact dL _ rfl|(refine dL _ ?_;simp)
theorem qs(b:aK PL PM)(c:Array TypeId)(t:TypeId)(args:Array Value):kL ρ PL PM (dM ρ) (Builtin.unsafeString_ c t args) (Builtin.unsafeString_ c t (args.map (dM ρ))):=by
 rcases args with⟨l⟩;rcases l with _|⟨x,_|⟨y,_|⟨z,l⟩⟩⟩
 ·exact .dead trivial
 ·exact .dead trivial
 ·rw[show(Array.mk [x,y]).map (dM ρ)=#[dM ρ x,dM ρ y] by simp];cases x with
  |pointer p=>
   rw[show dM ρ (.pointer p)= .pointer (p.map (Lo ρ)) by simp only[dM]];unfold Builtin.unsafeString_;refine kL.bind (ma y) λn=> ?_;dsimp only[id];cases c[0]? with
   |none=>exact .dead trivial
   |some d=>
    dsimp only;refine Lm (iT b rfl _ _) ?_;refine Lm (.dead trivial) ?_;cases p with
    |none=>
     simp only[Option.map_none];exact Lm (dL _ (by simp[dM])) (g6 b rfl)
    |some a=>
     simp only[Option.map_some];refine Lm (dL _ (by simp[dM])) ?_;refine(uz b d).bind λe=> ?_;refine(m7 b a e _).bind λq=> ?_;refine Lm ?_ (.dead trivial);refine(oC _ a _).bind λs=> ?_;exact .freeze (dL _ (by simp[dM]))
  |_=>exact .dead trivial
 ·exact .dead trivial
theorem nz(f:aK PL PM)(d:Array TypeId)(t:TypeId)(args:Array Value):kL ρ PL PM (dM ρ) (Builtin.unsafeSliceData_ d t args) (Builtin.unsafeSliceData_ d t (args.map (dM ρ))):=by
 rcases args with⟨l⟩;rcases l with _|⟨x,_|⟨y,l⟩⟩
 ·exact .dead trivial
 ·rw[show(Array.mk [x]).map (dM ρ)=#[dM ρ x] by simp];cases x with
  |slice b l c=>
   rw[show dM ρ (.slice b l c)= .slice (b.map (Lo ρ)) l c by simp only[dM]];cases b with
   |none=>exact dL (Value.pointer none) (by simp[dM])
   |some a=>
    unfold Builtin.unsafeSliceData_;show kL ρ PL PM (dM ρ) (if c≠0 then _ else _) (if c≠0 then _ else _);refine Lm (dL _ (by simp[dM])) ?_;refine(mu a.block).bind λv=> ?_;rw[Option.isSome_map];refine Lm (dL _ (by simp[dM])) ?_;refine(uz f t).bind λe=> ?_;refine(oZ (.view a e) rfl).bind λn=> ?_;exact dL _ (by simp[dM,Lo])
  |_=>exact .dead trivial
 ·exact .dead trivial
theorem t7(s:FloatKind)(b:Nat)(k:IntKind):kL ρ PL PM (dM ρ) (Conv.floatToInt s b k) (Conv.floatToInt s b k):=by
 unfold Conv.floatToInt;cases (s.decode b).toInt .zero with
 |none=>exact .choose λn=>dL _ (by simp[dM])
 |some n=>exact Lm (dL _ (by simp[dM])) (.choose λn=>dL _ (by simp[dM]))
theorem ib(s:FloatKind)(b:Nat)(k:FloatKind):kL ρ PL PM (dM ρ) (Conv.floatToFloat s b k) (Conv.floatToFloat s b k):=by
 unfold Conv.floatToFloat;refine Lm (dL _ (by simp[dM])) ?_;cases s.decode b with
 |nan x y=>exact .choose λn=>dL _ (by simp[dM])
 |infinity x=>exact dL _ (by simp[dM])
 |number x y z=>exact Lm (.choose λn=>dL _ (by simp[dM])) (dL _ (by simp[dM]))
theorem mz(s:FloatKind)(a b:Nat)(k:FloatKind):kL ρ PL PM (dM ρ) (Conv.complexToComplex s a b k) (Conv.complexToComplex s a b k):=by
 unfold Conv.complexToComplex;refine(ib s a k).bind λv=> ?_;cases v with
 |float q x=>
  simp only[dM];refine(ib s b k).bind λw=> ?_;cases w with
  |float q x=>simp only[dM];exact dL _ (by simp[dM])
  |_=>simp only[dM];exact .dead trivial
 |_=>simp only[dM];exact .dead trivial
theorem oX(x:Value):kL ρ PL PM (dM ρ) (Conv.runesToString x) (Conv.runesToString (dM ρ x)):=by
 unfold Conv.runesToString;cases x with
 |slice a l c=>
  cases a with
  |none=>simp only[dM,Option.map_none];exact dL _ (by simp[dM])
  |some a=>
   simp only[dM,Option.map_some];refine(il a l).bind λb=> ?_;refine(pa (dM ρ) (λc s=> ?_) b ByteArray.empty).bind λs=>dL _ (by simp[dM]);cases c with
   |int k n=>
    simp only[dM];cases k<;>first|exact dL _ rfl|exact .dead trivial
   |_=>simp only[dM];exact .dead trivial
 |_=>simp only[dM];exact .dead trivial
theorem tB(b:Nat->Nat)(s:ByteArray):∀(n i:Nat) (a:Array Value),a.map (dM b)=a->(Conv.runesFrom s n i a).map (dM b)=Conv.runesFrom s n i a
 |0,i,a,h=>h
 |n+1,i,a,h=>by
  unfold Conv.runesFrom;split
  ·exact tB b s n _ _ (by rw[Array.map_push,h];simp[dM])
  ·exact h
theorem oV(e:TypeId)(s:ByteArray):kL ρ PL PM (dM ρ) (Conv.stringToRunes e s) (Conv.stringToRunes e s):=by
 unfold Conv.stringToRunes;refine .choose λc=> ?_;have b:∀n,(Conv.runesFrom s s.size 0 #[]++Array.replicate n (Value.int .i32 0)).map (dM ρ)=Conv.runesFrom s s.size 0 #[]++Array.replicate n (Value.int .i32 0):=λn=>by
  rw[Array.map_append,tB ρ s s.size 0 #[] (by simp),Array.map_replicate];simp[dM]
 refine kL.bind (f:=Lo ρ) (by have:=ek (ρ:=ρ) (PL:=PL) (PM:=PM) e (Conv.runesFrom s s.size 0 #[]++Array.replicate (c-(Conv.runesFrom s s.size 0 #[]).size) (.int .i32 0));rw[b]at this;exact this) λa=>dL _ (by simp[dM])
theorem us(f:aK PL PM)(a:Addr):kL ρ PL PM (Lo ρ) (Conv.seenAt a) (Conv.seenAt (Lo ρ a)):=by
 unfold Conv.seenAt;refine(mu a.block).bind λv=> ?_;cases v with
 |none=>exact dL _ rfl
 |some x=>
  obtain⟨d,u⟩:=x;simp only[Option.map_some];refine Lm (dL _ rfl) ?_;refine Lm (.dead trivial) ?_;refine .program ?_;simp only[Sem.bind];rw[←f.byteOf,show(Lo ρ a).off=a.off from rfl];cases byteOfCell PL PL.depth u a.off with
  |none=>exact .dead trivial
  |some b=>
   refine(dj d.block).bind λs=> ?_;cases s with
   |none=>exact .dead trivial
   |some x=>
    obtain⟨e,c⟩:=x;dsimp only[id];rw[←f.cells];refine Lm (.dead trivial) ?_;rw[←f.atBytes,show(Lo ρ d).off=d.off from rfl];cases cellAtBytes PL PL.depth e (c/PL.cellsOf e) d.off b with
    |none=>exact .dead trivial
    |some x=>exact dL _ rfl
theorem xS(b:aK PL PM)(src dst:TypeId)(x:Value):kL ρ PL PM (dM ρ) (Conv.unsafePointer src dst x) (Conv.unsafePointer src dst (dM ρ x)):=by
 unfold Conv.unsafePointer;refine(om b src).bind λd=> ?_;refine(om b dst).bind λf=> ?_;dsimp only[id];cases x with
 |pointer p=>
  rw[show dM ρ (.pointer p)= .pointer (p.map (Lo ρ)) by simp only[dM]];cases p with
  |none=>
   simp only[Option.map_none];cases d with
   |pointer t=>cases f<;>first|exact .dead trivial|exact dL _ (by simp[dM])
   |unsafePointer=>cases f<;>first|exact .dead trivial|exact dL _ (by simp[dM])
   |int k=>cases f<;>exact .dead trivial
   |_=>exact .dead trivial
  |some a=>
   simp only[Option.map_some];cases d with
   |pointer t=>
    cases f with
    |unsafePointer=>
     refine(us b a).bind λs=> ?_;refine(zO s.block).bind λc=> ?_;refine(bY b t).bind λz=> ?_;refine Lm ?_ (dL _ (by simp[dM]));refine(oZ (.view s t) rfl).bind λn=> ?_;exact dL _ (by simp[dM,Lo])
    |_=>exact .dead trivial
   |unsafePointer=>
    cases f with
    |pointer u=>
     refine(us b a).bind λs=> ?_;refine(bY b u).bind λz=> ?_;refine(m7 b s u 1).bind λq=> ?_;refine Lm (dL _ (by simp[dM])) ?_;refine(dj s.block).bind λg=> ?_;cases g with
     |none=>exact .dead trivial
     |some x=>
      obtain⟨e,c⟩:=x;refine .program (.program ?_);simp only[Sem.bind];rw[←b.held];refine Lm (.dead trivial) ?_;refine(oZ (.view s u) rfl).bind λn=> ?_;exact dL _ (by simp[dM,Lo])
    |unsafePointer=>exact dL _ (by simp[dM])
    |int k=>
     refine(oZ (.number a false) rfl).bind λn=> ?_;exact dL _ (by simp[dM,Lo])
    |_=>exact .dead trivial
   |int k=>cases f<;>exact .dead trivial
   |_=>exact .dead trivial
 |int k n=>
  simp only[dM];cases d<;>cases f<;>first|exact .dead trivial|(rcases n with(_|n)|n<;>exact .dead trivial)
 |_=>cases d<;>cases f<;>exact .dead trivial
theorem gG(b:Option Addr)(l c:Nat):kL ρ PL PM (dM ρ) (Conv.bytesToString (.slice b l c)) (Conv.bytesToString (.slice (b.map (Lo ρ)) l c)):=by
 have:=pd (ρ:=ρ) (PL:=PL) (PM:=PM) (.slice b l c)
 rwa [show dM ρ (.slice b l c)= .slice (b.map (Lo ρ)) l c by simp only[dM]]at this
theorem gE(b:Option Addr)(l c:Nat):kL ρ PL PM (dM ρ) (Conv.runesToString (.slice b l c)) (Conv.runesToString (.slice (b.map (Lo ρ)) l c)):=by
 have:=oX (ρ:=ρ) (PL:=PL) (PM:=PM) (.slice b l c)
 rwa [show dM ρ (.slice b l c)= .slice (b.map (Lo ρ)) l c by simp only[dM]]at this
theorem zN(g:aK PL PM)(src dst:TypeId)(x:Value):kL ρ PL PM (dM ρ) (convert src dst x) (convert src dst (dM ρ x)):=by
 have f:=xS (ρ:=ρ) g src dst x;unfold convert;refine(om g src).bind λd=> ?_;refine(om g dst).bind λh=> ?_;dsimp only[id];cases x with
 |slice b l c=>
  rw[show dM ρ (.slice b l c)= .slice (b.map (Lo ρ)) l c by simp only[dM]]at f⊢;cases b with
  |none=>cases h<;>first|exact f|(cases d<;>first|exact .dead trivial|exact f|(refine(om g _).bind λe=> ?_;cases e<;>first|exact .dead trivial|(rename_i k;cases k<;>first|exact .dead trivial|exact gG _ _ _|exact gE _ _ _)))
  |some a=>cases h<;>first|exact f|(cases d<;>first|exact .dead trivial|exact f|(refine(om g _).bind λe=> ?_;cases e<;>first|exact .dead trivial|(rename_i k;cases k<;>first|exact .dead trivial|exact gG _ _ _|exact gE _ _ _))|(refine(om g _).bind λe=> ?_;cases src==dst<;>first|exact .dead trivial|(cases e<;>first|exact .dead trivial|(rename_i k;cases k<;>first|exact .dead trivial|exact(km a).bind λ_=>dL _ (by simp[dM])))))
 |pointer p=>
  rw[show dM ρ (.pointer p)= .pointer (p.map (Lo ρ)) by simp only[dM]]at f⊢;cases p<;>cases h<;>first|exact f|(cases d<;>first|exact .dead trivial|exact f|(refine(om g _).bind λe=> ?_;cases e<;>first|exact .dead trivial|(rename_i k;cases k<;>first|exact .dead trivial|exact gG _ _ _|exact gE _ _ _)))
 |_=>
  simp only[dM]at f⊢;cases h<;>first|exact dL _ (by simp[dM])|exact t7 _ _ _|exact ib _ _ _|exact mz _ _ _ _|exact f|(refine(om g _).bind λe=> ?_;cases e<;>first|exact .dead trivial|(rename_i k;cases k<;>first|exact .dead trivial|exact oW _ _|exact oV _ _))|(cases d<;>first|exact .dead trivial|exact f|(refine(om g _).bind λe=> ?_;cases e<;>first|exact .dead trivial|(rename_i k;cases k<;>first|exact .dead trivial|exact gG _ _ _|exact gE _ _ _)))
end
end
end Go.Proofs.YtkmoglhgkcnalaaGreatDoor
