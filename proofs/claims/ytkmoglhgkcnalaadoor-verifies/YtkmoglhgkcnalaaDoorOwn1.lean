/- A part of what the last text of the claim imports: texts laid together, and made small, by a program. -/
import Derived.Conc.Own
import Derived.Below
import Derived.Laws.Sem
import GoSem.Dispatch
set_option maxHeartbeats 16000000
set_option maxRecDepth 100000
namespace Go.Value
abbrev pt(b:Nat):Value:= .pointer (some ⟨b,0,none⟩)
end Go.Value
namespace Go.Proofs.YtkmoglhgkcnalaaDoor
open Go Go.RowKit
theorem gA{α:Type}{l:Array α}{i:Nat}{v:α}(h:l[i]?=some v):∃h:i<l.size,l[i]=v:=Array.getElem?_eq_some_iff.1 h
theorem mG{α:Type}{l:List α}{i:Nat}{v:α}(h:l[i]?=some v):v∈l:=List.mem_of_getElem? h
theorem sN{α:Type}{l:Array α}{i j:Nat}{v:α}(h:i≠j):(l.setIfInBounds i v)[j]?=l[j]?:=Array.getElem?_setIfInBounds_ne h
theorem bR{N:Nat}{w:World}:Below N w w:=Below.refl _ _
end Go.Proofs.YtkmoglhgkcnalaaDoor
namespace Go.Proofs.YtkmoglhgkcnalaaDoor
open Go
def au(ρ:Nat->Nat)(a:Addr):Addr:={a with block:=ρ a.block}
def j8(ρ:Nat->Nat):Fn->Fn
 | .yield l=> .yield (ρ l)
 |f=>f
def aa(ρ:Nat->Nat):Value->Value
 | .pointer a=> .pointer (a.map (au ρ))
 | .slice a l c=> .slice (a.map (au ρ)) l c
 | .map r=> .map (r.map ρ)
 | .chan r=> .chan (r.map ρ)
 | .func fn first cap=> .func (j8 ρ fn) (first.map (aa ρ)) (cap.map (aa ρ))
 | .iface t v=> .iface t (aa ρ v)
 | .agg cs=> .agg (cs.map (aa ρ))
 | .tuple vs=> .tuple (vs.map (aa ρ))
 | .bool b=> .bool b
 | .int k n=> .int k n
 | .float k b=> .float k b
 | .complex k a b=> .complex k a b
 | .string s=> .string s
 | .nilFunc=> .nilFunc
 | .nilIface=> .nilIface
def JX:Fn->Bool
 | .yield _=>false
 |_=>true
mutual
def aI:Value->Bool
 | .pointer a=>a.isNone
 | .slice a _ _=>a.isNone
 | .map r=>r.isNone
 | .chan r=>r.isNone
 | .func fn ⟨first⟩ ⟨cap⟩=>JX fn&&iG first&&iG cap
 | .iface _ v=>aI v
 | .agg ⟨cs⟩=>iG cs
 | .tuple ⟨vs⟩=>iG vs
 | .bool _| .int _ _| .float _ _| .complex _ _ _| .string _| .nilFunc| .nilIface=>true
def iG:List Value->Bool
 |[]=>true
 |v::r=>aI v&&iG r
end
theorem fW:∀{l:List Value},iG l=true->∀v∈l,aI v=true
 |[],_,v,h=>by cases h
 |x::r,h,v,hv=>by
  simp only[iG,Bool.and_eq_true]at h
  rcases List.mem_cons.1 hv with rfl|hv
  ·exact h.1
  ·exact fW h.2 v hv
theorem iJ{f:Value->Value}{cs:Array Value}(h:∀v∈cs,f v=v):cs.map f=cs:=by
 apply Array.ext
 ·simp
 ·intro i h1 h2
  simp[h cs[i] (Array.getElem_mem _)]
theorem pi(ρ:Nat->Nat){fn:Fn}(h:JX fn=true):j8 ρ fn=fn:=by
 cases fn<;>first|rfl|simp[JX]at h
theorem cE(ρ:Nat->Nat):∀v:Value,aI v=true->aa ρ v=v:=by
 intro v
 induction v using aa.induct with
 |case1 a=>intro h;simp[aI]at h;subst h;simp[aa]
 |case2 a l c=>intro h;simp[aI]at h;subst h;simp[aa]
 |case3 r=>intro h;simp[aI]at h;subst h;simp[aa]
 |case4 r=>intro h;simp[aI]at h;subst h;simp[aa]
 |case5 fn first cap ih1 ih2=>
  intro h
  obtain⟨first⟩:=first
  obtain⟨cap⟩:=cap
  simp only[aI,Bool.and_eq_true]at h
  rw[aa,pi ρ h.1.1,iJ λv hv=>ih1 v hv (fW h.1.2 v (by simpa using hv)),iJ λv hv=>ih2 v hv (fW h.2 v (by simpa using hv))]
 |case6 t v ih=>intro h;simp[aI]at h;simp[aa,ih h]
 |case7 cs ih=>
  intro h
  obtain⟨cs⟩:=cs
  simp only[aI]at h
  rw[aa,iJ λv hv=>ih v hv (fW h v (by simpa using hv))]
 |case8 vs ih=>
  intro h
  obtain⟨vs⟩:=vs
  simp only[aI]at h
  rw[aa,iJ λv hv=>ih v hv (fW h v (by simpa using hv))]
 |_=>intro _;simp[aa]
def JF(ρ:Nat->Nat):Target->Target
 | .fn fn cap=> .fn (j8 ρ fn) (cap.map (aa ρ))
 | .nil=> .nil
 | .builtin b a t c=> .builtin b a t c
 | .collected r=> .collected (ρ r)
 | .coroexit c=> .coroexit (ρ c)
def lq(ρ:Nat->Nat)(d:Deferred):Deferred:=⟨JF ρ d.target,d.args.map (aa ρ)⟩
def uo(ρ:Nat->Nat)(l:Loop):Loop:={l with tmps:=l.tmps.map (aa ρ),defers:=ρ l.defers}
def dp(ρ:Nat->Nat):Obj->Obj
 | .cells c e f=> .cells (c.map (aa ρ)) e f
 | .pending c e=> .pending (c.map (aa ρ)) e
 | .view a t=> .view (au ρ a) t
 | .number a l=> .number (au ρ a) l
 | .map es c=> .map (es.map λe=>⟨aa ρ e.key,aa ρ e.val,e.born⟩) c
 | .chan cap buf closed s r t=> .chan cap (buf.map (aa ρ)) closed s r t
 | .stringIter s p=> .stringIter s p
 | .mapIter m a b c=> .mapIter (m.map ρ) a b c
 | .loop l=> .loop (uo ρ l)
 | .deferred ds=> .deferred (ds.map (List.map (lq ρ)))
 | .coro p=> .coro p
 | .finalizers fs r=> .finalizers (fs.map λx=>(ρ x.1,lq ρ x.2)) r
def aV:FuncId:=46
def bN:Tmp:=54
def dN:Nat:=0
def pU:TypeId:=52
def l9(x:Bool):Operand->Bool
 | .tmp t=> !(x&&t==bN)
 | .func _=>true
 | .const v=>aI v
 | .global _=>false
def FR:Builtin->Bool
 | .append| .cap| .copy| .len| .min| .unsafeSliceData| .unsafeString=>true
 |_=>false
def mN(x:Bool)(c:Call):Bool:=
 c.args.all (l9 x)&&match c.callee with
  | .builtin b=>FR b
  | .value f=>l9 x f
  | .invoke _ _=>false
def jl(z:Bool):Op->Bool
 | .move x| .assign x| .box _ x| .load _ x| .nilCheck x| .unOp _ _ x| .convert _ _ x| .makeInterface _ x| .fieldAddr _ x _| .field _ x _| .extract x _| .panic x=>l9 z x
 | .alloc _=>true
 | .pick a b c=>l9 z a&&l9 z b&&l9 z c
 | .build _ ps| .buildSlice _ _ ps=>ps.all λx=>l9 z x.2
 | .store _ a b| .binOp _ _ a b _| .makeSlice _ a b| .indexAddr _ a b| .index _ a b=>l9 z a&&l9 z b
 | .makeFunc fn a b=>JX fn&&a.all (l9 z)&&b.all (l9 z)
 | .slice _ x l h m=>l9 z x&&l.all (l9 z)&&h.all (l9 z)&&m.all (l9 z)
 | .call c=>mN z c
 |_=>false
def FQ(z:Bool)(o:Oper):Bool:=
 (jl z o.op&& !(z&&o.dst==some bN))||
 (z&&match o.op with
   | .indexAddr _ (.global g) i=>g==dN&&l9 z i&&o.dst==some bN
   | .load ty (.tmp t)=>ty==pU&&t==bN&&o.dst !=some bN
   |_=>false)
def eM(z:Bool):Code->Bool
 | .skip| .exit _| .label _| .ret| .refuse _=>true
 | .region _ ops _=>ops.all (FQ z)
 | .seq a b=>eM z a&&eM z b
 | .cond c a b=>l9 z c&&eM z a&&eM z b
 | .block _ b| .loop b| .scope b=>eM z b
 | .rangeFunc f _ a b=> !z&&l9 z f&&eM z a&&eM z b
 | .goto _=>false
def bQ:Obj->Bool
 | .cells _ _ _| .stringIter _ _| .view _ _| .number _ _=>true
 | .deferred ds=>(ds.getD []).isEmpty
 | .loop l=>eM false l.assign&&eM false l.body&&l.pending.all (eM false)&&l.fn !=aV
 |_=>false
def ep:Mark->Bool
 | .extern _| .noRoom=>true
 |_=>false
def eb:Halt->Prop
 | .unsupported (.initOrder _)=>False
 | .blocked| .waiting| .goexit=>False
 |_=>True
def ax(w:World):Prop:=∀(b:Nat) (o:Obj),w.heap[b]?=some o->bQ o=true
inductive ag (ρ:Nat->Nat) (PL PM:Program) {α β:Type} (f:α->β):Sem α->Sem β->Prop
 |pure (a:α):ag ρ PL PM f (.pure a) (.pure (f a))
 |load {a:Addr} {k:Value->Sem α} {k':Value->Sem β} (h:∀v,ag ρ PL PM f (k v) (k' (aa ρ v))):ag ρ PL PM f (.load .plain a k) (.load .plain (au ρ a) k')
 |store {a:Addr} {v:Value} {k:Sem α} {k':Sem β} (h:ag ρ PL PM f k k'):ag ρ PL PM f (.store .plain a v k) (.store .plain (au ρ a) (aa ρ v) k')
 |new {o:Obj} {k:Nat->Sem α} {k':Nat->Sem β} (ho:bQ o=true) (h:∀b,ag ρ PL PM f (k b) (k' (ρ b))):ag ρ PL PM f (.new o k) (.new (dp ρ o) k')
 |shape {r:Nat} {k:Option (TypeId×Nat)->Sem α} {k':Option (TypeId×Nat)->Sem β} (h:∀s,ag ρ PL PM f (k s) (k' s)):ag ρ PL PM f (.shape r k) (.shape (ρ r) k')
 |freeze {a:Addr} {n:Nat} {k:Sem α} {k':Sem β} (h:ag ρ PL PM f k k'):ag ρ PL PM f (.freeze a n k) (.freeze (au ρ a) n k')
 |frozen {a:Addr} {k:Bool->Sem α} {k':Bool->Sem β} (h:∀b,ag ρ PL PM f (k b) (k' b)):ag ρ PL PM f (.frozen a k) (.frozen (au ρ a) k')
 |getObj {r:Nat} {k:Obj->Sem α} {k':Obj->Sem β} (h:∀o,bQ o=true->ag ρ PL PM f (k o) (k' (dp ρ o))):ag ρ PL PM f (.getObj r k) (.getObj (ρ r) k')
 |setObj {r:Nat} {o:Obj} {k:Sem α} {k':Sem β} (ho:bQ o=true) (h:ag ρ PL PM f k k'):ag ρ PL PM f (.setObj r o k) (.setObj (ρ r) (dp ρ o) k')
 |choose {q:Question} {k:Nat->Sem α} {k':Nat->Sem β} (h:∀n,ag ρ PL PM f (k n) (k' n)):ag ρ PL PM f (.choose q k) (.choose q k')
 |program {k:Program->Sem α} {k':Program->Sem β} (h:ag ρ PL PM f (k PL) (k' PM)):ag ρ PL PM f (.program k) (.program k')
 |mark {m:Mark} {k:Sem α} {k':Sem β} (hm:ep m=true) (h:ag ρ PL PM f k k'):ag ρ PL PM f (.mark m k) (.mark m k')
 |panic (v:Value):ag ρ PL PM f (.halt (.panic v)) (.halt (.panic (aa ρ v)))
 |dead {h:Halt} {s:Sem β} (d:eb h):ag ρ PL PM f (.halt h) s
 |deadMark {m:Mark} {h:Halt} {s:Sem β} (d:eb h):ag ρ PL PM f (.mark m (.halt h)) s
 |sys {c:Sys} {k:SysRet->Sem α} {s:Sem β} (d:∀r w,∃h w',(k r).run PL w= .halt h w'/\eb h/\(ax w->ax w')):ag ρ PL PM f (.sys c k) s
section
variable{ρ:Nat->Nat}{PL PM:Program}
theorem ag.bind{α β α' β':Type}{f:α->β}{g:α'->β'}{s:Sem α}{s':Sem β}{k:α->Sem α'}{k':β->Sem β'}(h:ag ρ PL PM f s s')(hk:∀a,ag ρ PL PM g (k a) (k' (f a))):ag ρ PL PM g (s>>=k) (s'>>=k'):=by
 show ag ρ PL PM g (s.bind k) (s'.bind k')
 induction h with
 |pure a=>exact hk a
 |load _ ih=>exact .load ih
 |store _ ih=>exact .store (ih)
 |new _ _ ih=>exact .new ‹_› ih
 |shape _ ih=>exact .shape ih
 |freeze _ ih=>exact .freeze (ih)
 |frozen _ ih=>exact .frozen ih
 |getObj _ ih=>exact .getObj ih
 |setObj _ _ ih=>exact .setObj ‹_› ih
 |choose _ ih=>exact .choose ih
 |program _ ih=>exact .program (ih)
 |mark _ _ ih=>exact .mark ‹_› ih
 |panic v=>exact .panic v
 |dead d=>exact .dead d
 |deadMark d=>exact .deadMark d
 |sys d=>
  refine .sys λr w=> ?_
  obtain⟨x,w',hx,hd⟩:=d r w
  exact⟨x,w',by rw[Sem.run_bind',hx];rfl,hd⟩
end
def aw(G:Nat)(D:Nat->Prop)(ρ ρ':Nat->Nat):Prop:=((∀x y,ρ' x=ρ' y->x=y)/\∀b,b<G↔ρ' b<G)/\∀b,D b->ρ' b=ρ b
structure ci (G T:Nat) (D:Nat->Prop) (ρ:Nat->Nat) (wL wM:World):Prop where
 inj:∀x y,ρ x=ρ y->x=y
 obj:∀b,D b->∃o,wL.heap[b]?=some o/\bQ o=true/\∀ρ',aw G D ρ ρ'->wM.heap[ρ b]?=some (dp ρ' o)
 tape:∀i,wL.drawn+i<T->wM.tape (wM.drawn+i)=wL.tape (wL.drawn+i)
 glob:∀b,b<G↔ρ b<G
 far:2<=G/\G<=wL.heap.size/\G<=wM.heap.size
 out:∀b,D b->G<=b
def jB(a b v:Nat):Nat:=if v=a then b else if v=b then a else v
theorem nZ{a b x y:Nat}(h:jB a b x=jB a b y):x=y:=by
 unfold jB at h
 split at h<;>split at h<;>(try split at h)<;>(try split at h)<;>omega
theorem Lo(a b:Nat):jB a b a=b:=by simp[jB]
theorem qx{a b G:Nat}(h:b<G↔a<G)(v:Nat):v<G↔jB a b v<G:=by
 unfold jB
 split
 ·subst v;exact h.symm
 ·split
  ·subst v;exact h
  ·exact Iff.rfl
theorem li{a b v:Nat}(h1:v≠a)(h2:v≠b):jB a b v=v:=by simp[jB,h1,h2]
section
variable{G T:Nat}{D:Nat->Prop}{ρ:Nat->Nat}{wL wM:World}
theorem bY{w:World}{b:Nat}{o:Obj}(h:w.heap[b]?=some o):b<w.heap.size:=(gA h).1
theorem ci.self(h:ci G T D ρ wL wM):aw G D ρ ρ:=⟨⟨h.inj,h.glob⟩,λ_ _=>rfl⟩
theorem ci.ltL(h:ci G T D ρ wL wM){b:Nat}(hb:D b):b<wL.heap.size:=let ⟨_,h1,_⟩:=h.obj b hb;bY h1
theorem ci.ltM(h:ci G T D ρ wL wM){b:Nat}(hb:D b):ρ b<wM.heap.size:=let ⟨_,_,_,h1⟩:=h.obj b hb;bY (h1 ρ h.self)
theorem ci.dom(h:ci G T D ρ wL wM){x:Nat}(hx:∀ρ',aw G D ρ ρ'->ρ' x=ρ x):D x:=by
 refine Classical.byContradiction λhn=> ?_
 obtain⟨y,hy1,hy2,hy3⟩:∃y,(wM.heap.size<=y\/y<G)/\y≠ρ x/\(y<G↔ρ x<G):=by
  have:=h.far
  by_cases h1:ρ x<G
  ·by_cases h0:ρ x=0
   ·exact⟨1,by omega,by omega,by omega⟩
   ·exact⟨0,by omega,by omega,by omega⟩
  ·by_cases h0:ρ x=wM.heap.size
   ·exact⟨wM.heap.size+1,by omega,by omega,by omega⟩
   ·exact⟨wM.heap.size,by omega,λe=>h0 e.symm,by omega⟩
 have hA:aw G D ρ (λz=>jB (ρ x) y (ρ z)):=by
  refine⟨⟨λa b e=>h.inj _ _ (nZ e),λb=>(h.glob b).trans (qx hy3 _)⟩,λb hb=>li (λe=>hn (h.inj _ _ e▸hb)) ?_⟩
  have h1:=h.ltM hb
  have h2:=h.out b hb
  have h3:=h.glob b
  omega
 have:=hx _ hA
 rw[Lo]at this
 exact hy2 this
theorem ci.fresh(h:ci G T D ρ wL wM):∃ρ1:Nat->Nat,((∀x y,ρ1 x=ρ1 y->x=y)/\∀b,b<G↔ρ1 b<G)/\ρ1 wL.heap.size=wM.heap.size/\∀b,D b->ρ1 b=ρ b:=
 ⟨λz=>jB (ρ wL.heap.size) wM.heap.size (ρ z),⟨λ_ _ e=>h.inj _ _ (nZ e),λb=>(h.glob b).trans (qx (by have:=h.far;have:=h.glob wL.heap.size;omega) _)⟩,Lo _ _,λb hb=>li (λe=>by have:=h.inj _ _ e;have:=h.ltL hb;omega) (by have:=h.ltM hb;omega)⟩
end
structure gW (G T:Nat) (D:Nat->Prop) (ρ:Nat->Nat) (wL wM:World) (D':Nat->Prop) (ρ':Nat->Nat) (wL' wM':World):Prop where
 rel:ci G T D' ρ' wL' wM'
 ext:∀b,D b->D' b/\ρ' b=ρ b
 new:∀b,D' b->D b\/(wL.heap.size<=b/\wM.heap.size<=ρ' b)
 size:wM.heap.size<=wM'.heap.size
 sizeL:wL.heap.size<=wL'.heap.size
 keep:∀r,r<wM.heap.size->(∀b,D b->ρ b≠r)->wM'.heap[r]?=wM.heap[r]?
 os:wM'.os=wM.os
 output:wM'.output=wM.output
 tape:wM'.tape=wM.tape
 tapeL:wL'.tape=wL.tape
 keepL:∀r,r<wL.heap.size->¬D r->wL'.heap[r]?=wL.heap[r]?
 newL:∀r,wL.heap.size<=r->r<wL'.heap.size->D' r
 drawn:wL.drawn<=wL'.drawn
 drew:wM'.drawn+wL.drawn=wL'.drawn+wM.drawn
theorem gW.refl{G T:Nat}{D:Nat->Prop}{ρ:Nat->Nat}{wL wM:World}(h:ci G T D ρ wL wM):gW G T D ρ wL wM D ρ wL wM:=
 ⟨h,λ_ hb=>⟨hb,rfl⟩,λ_ hb=> .inl hb,Nat.le_refl _,Nat.le_refl _,λ_ _ _=>rfl,rfl,rfl,rfl,rfl,λ_ _ _=>rfl,λ_ h1 h2=>by omega,Nat.le_refl _,Nat.add_comm _ _⟩
theorem gW.trans{G T:Nat}{D D1 D2:Nat->Prop}{ρ ρ1 ρ2:Nat->Nat}{wL wM wL1 wM1 wL2 wM2:World}(h:gW G T D ρ wL wM D1 ρ1 wL1 wM1)(h':gW G T D1 ρ1 wL1 wM1 D2 ρ2 wL2 wM2):gW G T D ρ wL wM D2 ρ2 wL2 wM2:=by
 refine⟨h'.rel,λb hb=> ?_,λb hb=> ?_,Nat.le_trans h.size h'.size,Nat.le_trans h.sizeL h'.sizeL,λr hr hn=> ?_,h'.os.trans h.os,h'.output.trans h.output,h'.tape.trans h.tape,h'.tapeL.trans h.tapeL,λr hr hn=> ?_,λr h1 h2=> ?_,Nat.le_trans h.drawn h'.drawn,by have:=h.drew;have:=h'.drew;omega⟩
 ·obtain⟨h1,h2⟩:=h.ext b hb
  obtain⟨h3,h4⟩:=h'.ext b h1
  exact⟨h3,h4.trans h2⟩
 ·rcases h'.new b hb with h1|⟨h1,h2⟩
  ·rcases h.new b h1 with h3|⟨h3,h4⟩
   ·exact .inl h3
   ·exact .inr ⟨h3,by rw[(h'.ext b h1).2];exact h4⟩
  ·exact .inr ⟨Nat.le_trans h.sizeL h1,Nat.le_trans h.size h2⟩
 ·rw[h'.keep r (Nat.lt_of_lt_of_le hr h.size) λb hb=> ?_,h.keep r hr hn]
  rcases h.new b hb with h1|⟨_,h2⟩
  ·rw[(h.ext b h1).2];exact hn b h1
  ·omega
 ·rw[h'.keepL r (Nat.lt_of_lt_of_le hr h.sizeL) λhb=> ?_,h.keepL r hr hn]
  rcases h.new r hb with h1|⟨h1,_⟩
  ·exact hn h1
  ·omega
 ·by_cases h3:r<wL1.heap.size
  ·exact(h'.ext r (h.newL r h1 h3)).1
  ·exact h'.newL r (by omega) h2
def gC(D:Nat->Prop)(ρ:Nat->Nat)(e:Event):Prop:=
 match e.loc with
 | .cell a=>e.sync=false/\∃b,D b/\ρ b=a.block
 | .obj r=>e.sync=false/\∃b,D b/\ρ b=r
 | .mark m=>ep m=true
 |_=>False
theorem gC.mono{D D':Nat->Prop}{ρ ρ':Nat->Nat}{e:Event}(h:gC D ρ e)(he:∀b,D b->D' b/\ρ' b=ρ b):gC D' ρ' e:=by
 obtain⟨loc,wr,sy⟩:=e
 cases loc<;>simp only[gC]at h⊢<;>first
  |exact h
  |(obtain⟨h1,b,h2,h3⟩:=h;exact⟨h1,b,(he b h2).1,(he b h2).2.trans h3⟩)
inductive A2 (G:Nat) {α β:Type} (F:(Nat->Nat)->α->β) (D:Nat->Prop) (ρ:Nat->Nat):Result α->World->Result β->World->Prop
 |ok {a:α} {a':β} {wL wM:World} (h:∀ρ',aw G D ρ ρ'->a'=F ρ' a):A2 G F D ρ (.ok a wL) wL (.ok a' wM) wM
def EB{α:Type}:Result α->World->Prop
 | .ok _ w,w'=>w'=w
 |_,_=>False
def nJ:Value->Bool
 | .agg _| .tuple _=>false
 |_=>true
theorem vP(ρ:Nat->Nat)(v:Value):nJ (aa ρ v)=nJ v:=by cases v<;>simp[aa,nJ]
section
variable{α β:Type}{p:Program}{w:World}{es:Array Event}
theorem fp{m:Mode}{a:Addr}{v:Value}{k:Sem α}(hv:nJ v=false):∃why,(Sem.store m a v k).run p w= .halt (.stuck why) w:=by
 cases v<;>simp[nJ]at hv<;>exact⟨_,rfl⟩
theorem eO{m:Mode}{a:Addr}{v:Value}{k:Sem α}(hv:nJ v=true):(Sem.store m a v k).run p w=match w.cell? a with
 |some _=>if w.frozen? a then .halt (.unsupported (.unsafePointer "a write to bytes that a string shares")) w else k.run p (w.setCell a v)
 |none=>match w.farStore p a v (m== .atomic)with
  | .ok (w,_)=>k.run p w
  | .error h=> .halt h w:=by
 cases v<;>simp[nJ]at hv<;>rfl
theorem ln{m:Mode}{a:Addr}{v:Value}{k:Sem α}(hv:nJ v=true):(Sem.store m a v k).runT p w es=match w.cell? a with
 |some _=>if w.frozen? a then(.halt (.unsupported (.unsafePointer "a write to bytes that a string shares")) w,es)else k.runT p (w.setCell a v) (es.push ⟨.cell a,true,m== .atomic⟩)
 |none=>match w.farStore p a v (m== .atomic)with
  | .ok (w,touched)=>k.runT p w (es++touched.toArray.map (⟨.cell ·,true,m== .atomic⟩))
  | .error h=>(.halt h w,es):=by
 cases v<;>simp[nJ]at hv<;>rfl
end
section
variable{G T:Nat}{D:Nat->Prop}{ρ:Nat->Nat}{wL wM:World}
theorem zO{w:World}{a:Addr}{v:Value}(h:w.cell? a=some v):∃c e f,w.heap[a.block]?=some (.cells c e f)/\a.spot=none/\c[a.off]?=some v:=by
 unfold World.cell? at h
 split at h
 ·rename_i c e f hb
  split at h
  ·cases h
  ·rename_i hs
   exact⟨c,e,f,hb,by cases hq:a.spot with|none=>rfl|some _=>simp[hq]at hs,h⟩
 ·cases h
theorem zP{w:World}{a:Addr}{c:Array Value}{e:TypeId}{f:Nat×Nat}(h:w.heap[a.block]?=some (.cells c e f))(hs:a.spot=none):w.cell? a=c[a.off]?:=by
 unfold World.cell?
 simp[h,hs]
theorem tD(ρ:Nat->Nat)(v:Value):(aa ρ v).bytes?=v.bytes?:=by cases v<;>simp[aa,Value.bytes?]
theorem vR(ρ:Nat->Nat)(v:Value)(bs:List UInt8):(aa ρ v).ofBytes bs=v.ofBytes bs:=by cases v<;>simp[aa,Value.ofBytes]
theorem mf{v u:Value}{bs:List UInt8}(h:v.ofBytes bs=some u):∀ρ,aa ρ u=u:=by
 intro ρ
 unfold Value.ofBytes at h
 split at h
 ·split at h<;>first|(cases h;simp[aa];done)|cases h
 ·split at h
  ·cases h;simp[aa]
  ·cases h
 ·split at h
  ·cases h;simp[aa]
  ·cases h
 ·split at h
  ·cases h;simp[aa]
  ·cases h
 ·cases h
theorem mc(p:Program)(ρ:Nat->Nat)(c:Array Value)(e:TypeId):∀f x stop,seenCells p (c.map (aa ρ)) e f x stop=seenCells p c e f x stop
 |0,_,_=>rfl
 |f+1,x,stop=>by
  unfold seenCells
  simp only[Array.getElem?_map,mc p ρ c e f]
  split
  ·rfl
  split
  ·rfl
  split
  ·rfl
  rename_i i s _
  cases c[i]? with
  |none=>rfl
  |some v=>simp only[Option.map_some,tD]
theorem vy(p:Program){w w':World}(ρ:Nat->Nat){at_:Addr}{u:TypeId}{k:Addr}{b:Bool}{c:Array Value}{e:TypeId}{fr:Nat×Nat}(h:w.heap[at_.block]?=some (.cells c e fr))(h':w'.heap[ρ at_.block]?=some (.cells (c.map (aa ρ)) e fr)):
 w'.seen p (au ρ at_) u (au ρ k) b=(w.seen p at_ u k b).map λx=>(x.1.map (aa ρ),x.2):=by
 unfold World.seen
 simp only[au,h,h',mc]
 by_cases hk:(k.spot.isSome||at_.spot.isSome)=true
 ·rw[if_pos hk,if_pos hk];rfl
 rw[if_neg hk,if_neg hk]
 cases plainCell p p.depth u k.off with
 |none=>rfl
 |some like=>
  dsimp only
  cases Option.map (λx=>x.length) like.bytes? with
  |none=>rfl
  |some size=>
   dsimp only
   cases byteOfCell p p.depth u k.off with
   |none=>rfl
   |some β=>
    dsimp only
    by_cases hs:p.cellsOf e=0
    ·rw[if_pos hs,if_pos hs];rfl
    rw[if_neg hs,if_neg hs]
    cases byteOfCell p p.depth e (at_.off%p.cellsOf e)with
    |none=>rfl
    |some b0=>
     dsimp only
     cases seenCells p c e (size+1) (at_.off/p.cellsOf e*p.bytesOf e+b0+β) (at_.off/p.cellsOf e*p.bytesOf e+b0+β+size)with
     |error x=>rfl
     |ok cells=>
      cases b with
      |false=>rfl
      |true=>
       match cells with
       |[]=>rfl
       |[(_,s,bs)]=>
        show(if (decide (s≠at_.off/p.cellsOf e*p.bytesOf e+b0+β)||decide (bs.length≠size))=true then _ else _)=Except.map _ (if (decide (s≠at_.off/p.cellsOf e*p.bytesOf e+b0+β)||decide (bs.length≠size))=true then _ else _)
        generalize (decide (s≠at_.off/p.cellsOf e*p.bytesOf e+b0+β)||decide (bs.length≠size))=q
        cases q<;>rfl
       |_::_::_=>rfl
theorem kn{p:Program}{w:World}{at_:Addr}{u:TypeId}{k:Addr}{b:Bool}{y:Array Value×TypeId×(Nat×Nat)×Nat×Value×List (Nat×Nat×List UInt8)}(hy:w.seen p at_ u k b= .ok y):∃c e f,w.heap[at_.block]?=some (.cells c e f):=by
 refine Classical.byContradiction λhn=> ?_
 unfold World.seen at hy
 by_cases hk:(k.spot.isSome||at_.spot.isSome)=true
 ·rw[if_pos hk]at hy;cases hy
 rw[if_neg hk]at hy
 cases h1:plainCell p p.depth u k.off with
 |none=>rw[h1]at hy;cases hy
 |some like=>
  simp only[h1]at hy
  cases h2:Option.map (λx=>x.length) like.bytes? with
  |none=>simp only[h2]at hy;cases hy
  |some size=>
   simp only[h2]at hy
   cases h3:byteOfCell p p.depth u k.off with
   |none=>simp only[h3]at hy;cases hy
   |some β=>
    simp only[h3]at hy
    cases hq:w.heap[at_.block]? with
    |none=>simp only[hq]at hy;cases hy
    |some o=>
     cases o<;>first|exact hn ⟨_,_,_,hq⟩|(simp only[hq]at hy;cases hy)
theorem ue(p:Program){w w':World}(ρ:Nat->Nat){at_:Addr}{u:TypeId}{k:Addr}{b:Bool}{c:Array Value}{e:TypeId}{fr:Nat×Nat}(h:w.heap[at_.block]?=some (.cells c e fr))(h':w'.heap[ρ at_.block]?=some (.cells (c.map (aa ρ)) e fr)){v:Value}{tc:List Addr}(hv:w.viewLoad p at_ u k b= .ok (v,tc)):
 w'.viewLoad p (au ρ at_) u (au ρ k) b= .ok (v,tc.map (au ρ))/\(∀ρ',aa ρ' v=v)/\∀x∈tc,x.block=at_.block:=by
 unfold World.viewLoad at hv⊢
 rw[vy p ρ h h']
 cases hq:w.seen p at_ u k b with
 |error x=>rw[hq]at hv;cases hv
 |ok y=>
  obtain⟨c1,e1,fr1,first,like,cells⟩:=y
  rw[hq]at hv
  simp only[Except.map,bind,Except.bind]at hv⊢
  cases ho:like.ofBytes (cells.flatMap λx=>(x.2.2.drop (first- x.2.1)).take (first+((like.bytes?.map (·.length)).getD 0)- max first x.2.1))with
  |none=>simp only[ho]at hv;cases hv
  |some v1=>
   simp only[ho]at hv⊢
   cases hv
   refine⟨?_,mf ho,λx hx=> ?_⟩
   ·simp[au,pure,Except.pure,Function.comp_def]
   ·obtain⟨y,_,rfl⟩:=List.mem_map.1 hx
    rfl
theorem tu{γ:Type}(ρ:Nat->Nat)(g:Array Value->γ->Except String (Array Value))(hg:∀c x,g (c.map (aa ρ)) x=(g c x).map (Array.map (aa ρ))):∀(xs:List γ) (c:Array Value),xs.foldlM g (c.map (aa ρ))=(xs.foldlM g c).map (Array.map (aa ρ))
 |[],_=>rfl
 |x::xs,c=>by
  rw[List.foldlM_cons,List.foldlM_cons,hg]
  cases g c x with
  |error y=>rfl
  |ok c1=>exact tu ρ g hg xs c1
theorem ge(p:Program){w w':World}(ρ:Nat->Nat){at_:Addr}{u:TypeId}{k:Addr}{b:Bool}{c:Array Value}{e:TypeId}{fr:Nat×Nat}(h:w.heap[at_.block]?=some (.cells c e fr))(h':w'.heap[ρ at_.block]?=some (.cells (c.map (aa ρ)) e fr)){v:Value}{w1:World}{tc:List Addr}(hv:w.viewStore p at_ u k v b= .ok (w1,tc)):
 ∃c1,w1={w with heap:=w.heap.setIfInBounds at_.block (.cells c1 e fr)}/\w'.viewStore p (au ρ at_) u (au ρ k) (aa ρ v) b= .ok ({w' with heap:=w'.heap.setIfInBounds (ρ at_.block) (.cells (c1.map (aa ρ)) e fr)},tc.map (au ρ))/\∀x∈tc,x.block=at_.block:=by
 have hce:∀y,w.seen p at_ u k b= .ok y->y.1=c/\y.2.1=e/\y.2.2.1=fr:=by
  intro y hy
  unfold World.seen at hy
  simp only[h]at hy
  by_cases hk:(k.spot.isSome||at_.spot.isSome)=true
  ·rw[if_pos hk]at hy;cases hy
  rw[if_neg hk]at hy
  cases h1:plainCell p p.depth u k.off with
  |none=>rw[h1]at hy;cases hy
  |some like=>
   simp only[h1]at hy
   cases h2:Option.map (λx=>x.length) like.bytes? with
   |none=>simp only[h2]at hy;cases hy
   |some size=>
    simp only[h2]at hy
    cases h3:byteOfCell p p.depth u k.off with
    |none=>simp only[h3]at hy;cases hy
    |some β=>
     simp only[h3]at hy
     by_cases hs:p.cellsOf e=0
     ·rw[if_pos hs]at hy;cases hy
     rw[if_neg hs]at hy
     cases h4:byteOfCell p p.depth e (at_.off%p.cellsOf e)with
     |none=>simp only[h4]at hy;cases hy
     |some b0=>
      simp only[h4]at hy
      cases h5:seenCells p c e (size+1) (at_.off/p.cellsOf e*p.bytesOf e+b0+β) (at_.off/p.cellsOf e*p.bytesOf e+b0+β+size)with
      |error x=>simp only[h5]at hy;cases hy
      |ok cells=>
       simp only[h5]at hy
       cases b with
       |false=>cases hy;exact⟨rfl,rfl,rfl⟩
       |true=>
        match cells,hy with
        |[],hy=>cases hy
        |[(_,s,bs)],hy=>
         dsimp only[bind,Except.bind]at hy
         rw[if_pos rfl]at hy
         split at hy
         ·cases hy
         ·cases hy;exact⟨rfl,rfl,rfl⟩
        |_::_::_,hy=>cases hy
 unfold World.viewStore at hv⊢
 rw[vy p ρ h h',tD]
 by_cases ht:(!tight p p.depth u)=true
 ·rw[if_pos ht]at hv;cases hv
 rw[if_neg ht]at hv⊢
 cases hq:w.seen p at_ u k b with
 |error x=>rw[hq]at hv;cases hv
 |ok y=>
  obtain⟨h1,h2,h3⟩:=hce y hq
  obtain⟨c1,e1,fr1,first,like,cells⟩:=y
  dsimp only at h1 h2 h3
  subst h1 h2 h3
  rw[hq]at hv
  simp only[Except.map,bind,Except.bind]at hv⊢
  cases hb:v.bytes? with
  |none=>simp only[hb]at hv;cases hv
  |some bytes=>
   simp only[hb]at hv⊢
   by_cases hn:some bytes.length≠Option.map (λx=>x.length) like.bytes?
   ·rw[if_pos hn]at hv;cases hv
   rw[if_neg hn]at hv⊢
   rw[tu ρ]
   ·generalize (List.foldlM (m:=Except String) _ c1 cells)=q at hv⊢
    cases q with
    |error x=>cases hv
    |ok c2=>
     cases hv
     refine⟨c2,rfl, ?_,λx hx=> ?_⟩
     ·simp[au,pure,Except.pure,Except.map,Function.comp_def]
     ·obtain⟨y,_,rfl⟩:=List.mem_map.1 hx
      rfl
   ·intro c x
    by_cases h1:(decide (x.2.1<first)||decide (x.2.1+x.2.2.length>first+bytes.length))=true
    ·rw[if_pos h1,if_pos h1];rfl
    rw[if_neg h1,if_neg h1]
    by_cases h2:(decide (fr1.1<=x.1)&&decide (x.1<fr1.2))=true
    ·rw[if_pos h2,if_pos h2];rfl
    rw[if_neg h2,if_neg h2,Array.getElem?_map]
    cases c[x.1]? with
    |none=>rfl
    |some old=>
     simp only[Option.map_some,vR]
     cases ho:old.ofBytes (List.take x.2.2.length (List.drop (x.2.1- first) bytes))with
     |none=>rfl
     |some new=>
      simp[pure,Except.pure,Except.map,Array.map_setIfInBounds,mf ho ρ]
theorem ci.turn(h:ci G T D ρ wL wM){b:Nat}(hb:D b){wL' wM':World}{o o':Obj}(hq:bQ o=true)(ho:∀ρ',aw G D ρ ρ'->o'=dp ρ' o)
 (hL:wL'.heap[b]?=some o) (hM:wM'.heap[ρ b]?=some o') (kL:∀k,k≠b->wL'.heap[k]?=wL.heap[k]?) (kM:∀k,k≠ρ b->wM'.heap[k]?=wM.heap[k]?)
 (sL:wL'.heap.size=wL.heap.size) (sM:wM'.heap.size=wM.heap.size) (tL:wL'.tape=wL.tape) (tM:wM'.tape=wM.tape) (dL:wL'.drawn=wL.drawn) (dM:wM'.drawn=wM.drawn) (hos:wM'.os=wM.os) (hou:wM'.output=wM.output):
 gW G T D ρ wL wM D ρ wL' wM':=by
 refine⟨⟨h.inj,λx hx=> ?_,λi hi=>by rw[tL,tM,dL,dM];exact h.tape i (by rw[←dL];exact hi),h.glob,by rw[sL,sM];exact h.far,h.out⟩,λ_ hb=>⟨hb,rfl⟩,λ_ hb=> .inl hb,by omega,by omega,λr _ hn=>kM r λe=>hn b hb e.symm,hos,hou,tM,tL,λr _ hn=>kL r λe=>hn (e▸hb),λr h1 h2=>by omega,by omega,by omega⟩
 by_cases hxb:x=b
 ·subst hxb
  exact⟨o,hL,hq,λρ' hA=>by rw[hM,ho ρ' hA]⟩
 ·obtain⟨ox,h1,h2,h3⟩:=h.obj x hx
  exact⟨ox,by rw[kL x hxb];exact h1,h2,λρ' hA=>by rw[kM _ λe=>hxb (h.inj _ _ e)];exact h3 ρ' hA⟩
theorem ci.viewDom(h:ci G T D ρ wL wM){b:Nat}(hb:D b){a:Addr}{u:TypeId}(hL:wL.heap[b]?=some (.view a u)):D a.block:=by
 obtain⟨o,h1,_,h3⟩:=h.obj b hb
 rw[hL]at h1
 cases h1
 refine h.dom λρ' hA=> ?_
 have:=(h3 ρ' hA).symm.trans (h3 ρ h.self)
 simp only[dp,Option.some.injEq,Obj.view.injEq,and_true]at this
 exact congrArg Addr.block this
theorem si(h:ci G T D ρ wL wM){p:Program}{a:Addr}{bb:Bool}(hb:D a.block){v:Value}{tc:List Addr}(hv:wL.farLoad p a bb= .ok (v,tc)):
 wM.cell? (au ρ a)=none/\wM.farLoad p (au ρ a) bb= .ok (v,tc.map (au ρ))/\(∀ρ',aa ρ' v=v)/\∀x∈tc,D x.block:=by
 obtain⟨o,hL,hq,hM⟩:=h.obj _ hb
 have hM0:=hM ρ h.self
 unfold World.farLoad at hv⊢
 cases o<;>simp[bQ]at hq<;>simp only[hL]at hv<;>first|(cases hv;done)|skip
 rename_i at_ u
 have hd:=h.viewDom hb hL
 cases hl:wL.viewLoad p at_ u a bb with
 |error x=>rw[hl]at hv;cases hv
 |ok y=>
  rw[hl]at hv
  cases hv
  obtain⟨o2,hL2,hq2,hM2⟩:=h.obj _ hd
  obtain⟨c,e,f,hc⟩:∃c e f,wL.heap[at_.block]?=some (.cells c e f):=by
   unfold World.viewLoad at hl
   cases hs:wL.seen p at_ u a bb with
   |error x=>rw[hs]at hl;cases hl
   |ok z=>exact kn hs
  rw[hL2]at hc
  cases hc
  obtain⟨h1,h2,h3⟩:=ue p ρ hL2 (hM2 ρ h.self) hl
  refine⟨?_, ?_,h2,λx hx=>by rw[h3 x hx];exact hd⟩
  ·unfold World.cell?;simp only[au,hM0,dp]
  ·simp only[au,hM0,dp]
   have h1':=h1
   simp only[au]at h1'
   rw[h1']
theorem rn(h:ci G T D ρ wL wM){p:Program}{a:Addr}{bb:Bool}(hb:D a.block){v:Value}{w1:World}{tc:List Addr}(hsame:∀ρ',aw G D ρ ρ'->aa ρ' v=aa ρ v)(hv:wL.farStore p a v bb= .ok (w1,tc)):
 ∃wM1,wM.cell? (au ρ a)=none/\wM.farStore p (au ρ a) (aa ρ v) bb= .ok (wM1,tc.map (au ρ))/\gW G T D ρ wL wM D ρ w1 wM1/\∀x∈tc,D x.block:=by
 obtain⟨o,hL,hq,hM⟩:=h.obj _ hb
 have hM0:=hM ρ h.self
 unfold World.farStore at hv⊢
 cases o<;>simp[bQ]at hq<;>simp only[hL]at hv<;>first|(cases hv;done)|skip
 rename_i at_ u
 have hd:=h.viewDom hb hL
 cases hl:wL.viewStore p at_ u a v bb with
 |error x=>rw[hl]at hv;cases hv
 |ok y=>
  rw[hl]at hv
  cases hv
  obtain⟨o2,hL2,hq2,hM2⟩:=h.obj _ hd
  obtain⟨c,e,f,hc⟩:∃c e f,wL.heap[at_.block]?=some (.cells c e f):=by
   unfold World.viewStore at hl
   by_cases ht:(!tight p p.depth u)=true
   ·rw[if_pos ht]at hl;cases hl
   rw[if_neg ht]at hl
   cases hs:wL.seen p at_ u a bb with
   |error x=>rw[hs]at hl;cases hl
   |ok z=>exact kn hs
  rw[hL2]at hc
  cases hc
  obtain⟨c1,rfl,h1,h3⟩:=ge p ρ hL2 (hM2 ρ h.self) hl
  refine⟨{wM with heap:=wM.heap.setIfInBounds (ρ at_.block) (.cells (c1.map (aa ρ)) e f)}, ?_, ?_,h.turn hd (o:= .cells c1 e f) (o':= .cells (c1.map (aa ρ)) e f) rfl (λρ' hA=> ?_) ?_ ?_ (λk hk=> ?_) (λk hk=> ?_) (by simp) (by simp) rfl rfl rfl rfl rfl rfl,λx hx=>by rw[h3 x hx];exact hd⟩
  ·unfold World.cell?;simp only[au,hM0,dp]
  ·simp only[au,hM0,dp]
   have h1':=h1
   simp only[au]at h1'
   rw[h1']
  ·obtain⟨c1',he,h1'',_⟩:=ge p ρ' hL2 (w':=wM) (by rw[hA.2 _ hd];exact hM2 ρ' hA) hl
   have e1:au ρ' at_=au ρ at_:=by simp[au,hA.2 _ hd]
   have e2:au ρ' a=au ρ a:=by simp[au,hA.2 _ hb]
   rw[e1,e2,hsame ρ' hA,h1,hA.2 _ hd]at h1''
   have hlt:=bY (hM2 ρ h.self)
   have ec:c1'=c1:=by
    have h5:=congrArg (λw:World=>w.heap[at_.block]?) he
    simp only[Array.getElem?_setIfInBounds_self_of_lt (bY hL2),Option.some.injEq,Obj.cells.injEq,and_true]at h5
    exact h5.symm
   subst ec
   simp only[Except.ok.injEq,Prod.mk.injEq,World.mk.injEq,and_true]at h1''
   have h6:=congrArg (λhp:Array Obj=>hp[ρ at_.block]?) h1''.1
   simp only[Array.getElem?_setIfInBounds_self_of_lt hlt,Option.some.injEq]at h6
   exact h6
  ·simp[bY hL2]
  ·simp[bY (hM2 ρ h.self)]
  ·rw[Array.getElem?_setIfInBounds,if_neg (λe=>hk e.symm)]
  ·rw[Array.getElem?_setIfInBounds,if_neg (λe=>hk e.symm)]
theorem aw.of_ran{D':Nat->Prop}{ρ1 ρ':Nat->Nat}{wL' wM':World}(h:gW G T D ρ wL wM D' ρ1 wL' wM')(hA:aw G D' ρ1 ρ'):aw G D ρ ρ':=
 ⟨hA.1,λb hb=>(hA.2 b (h.ext b hb).1).trans (h.ext b hb).2⟩
end
section
variable{PL PM:Program}{α β:Type}
theorem jm{xs:Array Obj}{i k:Nat}{f:Obj->Obj}(h:k≠i):(xs.modify i f)[k]?=xs[k]?:=by
 rw[Array.getElem?_modify,if_neg (λe=>h e.symm)]
theorem CH{xs:Array Obj}{i k:Nat}{o:Obj}(h:k≠i):(xs.setIfInBounds i o)[k]?=xs[k]?:=by
 rw[Array.getElem?_setIfInBounds,if_neg (λe=>h e.symm)]
theorem sW(ρ:Nat->Nat)(o:Obj):bQ (dp ρ o)=bQ o:=by
 cases o with
 |deferred ds=>rcases ds with _|_|⟨_,_⟩<;>rfl
 |_=>rfl
theorem qR{o:Obj}(h:bQ o=true):o.isChan=false:=by cases o<;>simp[bQ]at h<;>rfl
theorem cI{F:(Nat->Nat)->α->β}{G T:Nat}{D D1:Nat->Prop}{ρ ρ1:Nat->Nat}{wL wM wL1 wM1:World}(hr:gW G T D ρ wL wM D1 ρ1 wL1 wM1){s' s1:Sem β}{es es1:Array Event}{r:Result α}{wL':World}
 (hs:s'.runT PM wM es=s1.runT PM wM1 (es++es1)) (he:∀e∈es1,gC D1 ρ1 e)
 (h:∃D' ρ' r' wM' es',s1.runT PM wM1 (es++es1)=(r',es++es1++es')/\A2 G F D' ρ' r wL' r' wM'/\gW G T D1 ρ1 wL1 wM1 D' ρ' wL' wM'/\∀e∈es',gC D' ρ' e):
 ∃D' ρ' r' wM' es',s'.runT PM wM es=(r',es++es')/\A2 G F D' ρ' r wL' r' wM'/\gW G T D ρ wL wM D' ρ' wL' wM'/\∀e∈es',gC D' ρ' e:=by
 obtain⟨D',ρ',r',wM',es',h1,h2,h3,h4⟩:=h
 refine⟨D',ρ',r',wM',es1++es',by rw[hs,h1,Array.append_assoc],h2,hr.trans h3,λe hm=> ?_⟩
 rcases Array.mem_append.1 hm with hm|hm
 ·exact(he e hm).mono h3.ext
 ·exact h4 e hm
theorem ml{w w':World}{x:Halt}(hl:EB (α:=α) (.halt x w) w'):False:=hl
theorem DV{D:Nat->Prop}{ρ:Nat->Nat}{tc:List Addr}{wr:Bool}(h:∀x∈tc,D x.block):∀e∈(tc.map (au ρ)).toArray.map (λa=>(⟨.cell a,wr,false⟩:Event)),gC D ρ e:=by
 intro e he
 simp only[List.map_toArray,List.mem_toArray,List.mem_map]at he
 obtain⟨a,⟨x,hx,rfl⟩,rfl⟩:=he
 exact⟨rfl,x.block,h x hx,rfl⟩
theorem dS(hV:∀w a b,World.farLoad PM w a b=World.farLoad PL w a b)(hS:∀w a v b,World.farStore PM w a v b=World.farStore PL w a v b){G T:Nat}(F:(Nat->Nat)->α->β):∀(s:Sem α) (s':Sem β) (D:Nat->Prop) (ρ:Nat->Nat) (wL wM:World),ci G T D ρ wL wM->(∀ρ',aw G D ρ ρ'->ag ρ' PL PM (F ρ') s s')->
 ∀(es:Array Event) (r:Result α) (wL':World),s.run PL wL=r->EB r wL'->wL'.drawn<=T->
  ∃D' ρ' r' wM' es',s'.runT PM wM es=(r',es++es')/\A2 G F D' ρ' r wL' r' wM'/\gW G T D ρ wL wM D' ρ' wL' wM'/\∀e∈es',gC D' ρ' e:=by
 intro s
 induction s with
 |pure a=>
  intro s' D ρ wL wM hR hA es r wL' hrun hl hT
  cases hA ρ hR.self
  subst hrun
  have:wL'=wL:=hl
  subst this
  refine⟨D,ρ, .ok (F ρ a) wM,wM,#[],by simp[Sem.runT], .ok λρ' h'=> ?_,gW.refl hR,λe he=>by simp at he⟩
  have:=hA ρ' h'
  generalize F ρ a=x at this
  cases this
  rfl
 |load m a k ih=>
  intro s' D ρ wL wM hR hA es r wL' hrun hl hT
  cases hA ρ hR.self with
  | @load _ _ k' h0=>
    have hblk:D a.block:=hR.dom λρ' h'=>by
     have:=hA ρ' h'
     generalize hx:au ρ a=x at this
     cases this
     exact congrArg Addr.block hx.symm
    obtain⟨o,hL,hq,hM⟩:=hR.obj _ hblk
    rw[Sem.run]at hrun
    cases hc:wL.cell? a with
    |none=>
     simp only[hc]at hrun
     cases hx:wL.farLoad PL a (Mode.plain==Mode.atomic)with
     |error x=>
      rw[hx]at hrun
      subst hrun
      exact(ml hl).elim
     |ok y=>
      obtain⟨v,tc⟩:=y
      rw[hx]at hrun
      obtain⟨f1,f2,f3,f4⟩:=si hR hblk hx
      refine cI (gW.refl hR) (s1:=k' v) (es1:=(tc.map (au ρ)).toArray.map (⟨.cell ·,false,false⟩)) ?_ (DV f4) (ih v (k' v) D ρ wL wM hR (λρ' h'=> ?_) _ r wL' hrun hl hT)
      ·rw[Sem.runT,f1];simp only;rw[hV,f2];rfl
      ·have:=hA ρ' h'
       generalize au ρ a=x at this
       cases this with
       |load h=>
        have:=h v
        rwa [f3 ρ']at this
    |some v=>
     simp only[hc]at hrun
     obtain⟨c,e,f,hb,hs,hv⟩:=zO hc
     rw[hL]at hb
     cases hb
     have hcM:∀ρ',aw G D ρ ρ'->wM.cell? (au ρ a)=some (aa ρ' v):=λρ' h'=>by
      rw[zP (w:=wM) (a:=au ρ a) (hM ρ' h') hs]
      show(c.map (aa ρ'))[a.off]?=_
      rw[Array.getElem?_map,hv]
      rfl
     have hsame:∀ρ',aw G D ρ ρ'->aa ρ' v=aa ρ v:=λρ' h'=>Option.some.inj ((hcM ρ' h').symm.trans (hcM ρ hR.self))
     refine cI (gW.refl hR) (s1:=k' (aa ρ v)) (es1:=#[⟨.cell (au ρ a),false,false⟩]) ?_ ?_ (ih v (k' (aa ρ v)) D ρ wL wM hR (λρ' h'=> ?_) _ r wL' hrun hl hT)
     ·rw[Sem.runT,hcM ρ hR.self];rfl
     ·intro e he
      simp at he
      subst he
      exact⟨rfl,a.block,hblk,rfl⟩
     ·have:=hA ρ' h'
      rw[←hsame ρ' h']
      generalize au ρ a=x at this
      cases this with
      |load h=>exact h v
 |store m a v k ih=>
  intro s' D ρ wL wM hR hA es r wL' hrun hl hT
  cases hA ρ hR.self with
  | @store _ _ _ k' h0=>
    have hboth:∀ρ',aw G D ρ ρ'->au ρ a=au ρ' a/\aa ρ v=aa ρ' v/\ag ρ' PL PM (F ρ') k k':=λρ' h'=>by
     have:=hA ρ' h'
     generalize hx:au ρ a=x at this
     generalize hy:aa ρ v=y at this
     cases this with
     |store h=>exact⟨rfl,rfl,h⟩
    have hblk:D a.block:=hR.dom λρ' h'=>(congrArg Addr.block (hboth ρ' h').1).symm
    obtain⟨o,hL,hq,hM⟩:=hR.obj _ hblk
    cases hone:nJ v with
    |false=>
     obtain⟨why,hw⟩:=fp (p:=PL) (w:=wL) (m:= .plain) (a:=a) (k:=k) hone
     rw[hw]at hrun
     subst hrun
     exact hl.elim
    |true=>
     rw[eO hone]at hrun
     cases hc:wL.cell? a with
     |none=>
      simp only[hc]at hrun
      cases hx:wL.farStore PL a v (Mode.plain==Mode.atomic)with
      |error x=>
       rw[hx]at hrun
       subst hrun
       exact(ml hl).elim
      |ok y=>
       obtain⟨w1,tc⟩:=y
       rw[hx]at hrun
       obtain⟨wM1,f1,f2,f3,f4⟩:=rn hR hblk (λρ' h'=>(hboth ρ' h').2.1.symm) hx
       refine cI f3 (s1:=k') (es1:=(tc.map (au ρ)).toArray.map (⟨.cell ·,true,false⟩)) ?_ (DV f4) (ih k' D ρ _ _ f3.rel (λρ' h'=>(hboth ρ' h').2.2) _ r wL' hrun hl hT)
       rw[ln (by rw[vP];exact hone),f1];simp only;rw[hS,f2];rfl
     |some u=>
      simp only[hc]at hrun
      obtain⟨c,e,f,hb,hs,hv⟩:=zO hc
      rw[hL]at hb
      cases hb
      by_cases hf:wL.frozen? a=true
      ·rw[if_pos hf]at hrun
       subst hrun
       exact hl.elim
      ·rw[if_neg hf]at hrun
       have hcM:wM.cell? (au ρ a)=some (aa ρ u):=by
        rw[zP (w:=wM) (a:=au ρ a) (hM ρ hR.self) hs]
        show(c.map (aa ρ))[a.off]?=_
        rw[Array.getElem?_map,hv]
        rfl
       have hfM:wM.frozen? (au ρ a)=wL.frozen? a:=by
        have:=hM ρ hR.self
        unfold World.frozen?
        simp only[au,hL,this,dp]
        rfl
       have hturn:gW G T D ρ wL wM D ρ (wL.setCell a v) (wM.setCell (au ρ a) (aa ρ v)):=by
        refine hR.turn hblk (o:= .cells (c.setIfInBounds a.off v) e f) (o':= .cells ((c.map (aa ρ)).setIfInBounds a.off (aa ρ v)) e f) rfl (λρ' h'=> ?_) ?_ ?_ (λk hk=> ?_) (λk hk=> ?_) (by simp[World.setCell]) (by simp[World.setCell]) rfl rfl rfl rfl rfl rfl
        ·have h1:=(hM ρ' h').symm.trans (hM ρ hR.self)
         simp only[dp,Option.some.injEq,Obj.cells.injEq,and_true]at h1
         simp only[dp,Obj.cells.injEq,and_true]
         rw[←h1,(hboth ρ' h').2.1,Array.map_setIfInBounds]
        ·simp[World.setCell,Array.getElem?_modify,hL,hs]
        ·have:=hM ρ hR.self
         simp[World.setCell,Array.getElem?_modify,au,this,hs,dp]
        ·exact jm hk
        ·exact jm hk
       refine cI hturn (s1:=k') (es1:=#[⟨.cell (au ρ a),true,false⟩]) ?_ ?_ (ih k' D ρ _ _ hturn.rel (λρ' h'=>(hboth ρ' h').2.2) _ r wL' hrun hl hT)
       ·rw[ln (by rw[vP];exact hone),hcM,hfM]
        simp only[hf]
        rfl
       ·intro e he
        simp at he
        subst he
        exact⟨rfl,a.block,hblk,rfl⟩
 |new o k ih=>
  intro s' D ρ wL wM hR hA es r wL' hrun hl hT
  cases hA ρ hR.self with
  | @new _ _ k' hq h0=>
    have hboth:∀ρ',aw G D ρ ρ'->dp ρ o=dp ρ' o/\∀b,ag ρ' PL PM (F ρ') (k b) (k' (ρ' b)):=λρ' h'=>by
     have:=hA ρ' h'
     generalize hx:dp ρ o=x at this
     cases this with
     |new _ h=>exact⟨rfl,h⟩
    obtain⟨ρ1,hi,hn,he⟩:=hR.fresh
    have hag:∀ρ',aw G (λb=>D b\/b=wL.heap.size) ρ1 ρ'->aw G D ρ ρ':=λρ' h'=>⟨h'.1,λb hb=>(h'.2 b (.inl hb)).trans (he b hb)⟩
    have hran:gW G T D ρ wL wM (λb=>D b\/b=wL.heap.size) ρ1 {wL with heap:=wL.heap.push o} {wM with heap:=wM.heap.push (dp ρ o)}:=by
     refine⟨⟨hi.1,λb hb=> ?_,hR.tape,hi.2,by have:=hR.far;simp only[Array.size_push];omega,λb hb=> ?_⟩,λb hb=>⟨.inl hb,he b hb⟩,λb hb=> ?_,by simp,by simp,λr hr _=> ?_,rfl,rfl,rfl,rfl,λr hr _=> ?_,λr h1 h2=> .inr (by simp only[Array.size_push]at h2;omega),Nat.le_refl _,Nat.add_comm _ _⟩
     ·rcases hb with hb|rfl
      ·obtain⟨ob,h1,h2,h3⟩:=hR.obj b hb
       refine⟨ob, ?_,h2,λρ' h'=> ?_⟩
       ·rw[Array.getElem?_push,if_neg (by have:=bY h1;omega)];exact h1
       ·rw[he b hb,Array.getElem?_push,if_neg (by have:=hR.ltM hb;omega)];exact h3 ρ' (hag ρ' h')
      ·refine⟨o,by simp,hq,λρ' h'=> ?_⟩
       rw[hn,(hboth ρ' (hag ρ' h')).1]
       simp
     ·rcases hb with hb|rfl
      ·exact hR.out b hb
      ·exact hR.far.2.1
     ·rcases hb with hb|rfl
      ·exact .inl hb
      ·exact .inr ⟨Nat.le_refl _,by rw[hn];exact Nat.le_refl _⟩
     ·rw[Array.getElem?_push,if_neg (by omega)]
     ·rw[Array.getElem?_push,if_neg (by omega)]
    refine cI hran (s1:=k' wM.heap.size) (es1:=#[]) (by simp[Sem.runT]) (λe he=>by simp at he) (ih wL.heap.size (k' wM.heap.size) _ ρ1 _ _ hran.rel (λρ' h'=> ?_) _ r wL' hrun hl hT)
    have h1:=(hboth ρ' (hag ρ' h')).2 wL.heap.size
    rwa [h'.2 _ (.inr rfl),hn]at h1
 |shape r0 k ih=>
  intro s' D ρ wL wM hR hA es r wL' hrun hl hT
  cases hA ρ hR.self with
  | @shape _ _ k' h0=>
    have hboth:∀ρ',aw G D ρ ρ'->ρ r0=ρ' r0/\∀b,ag ρ' PL PM (F ρ') (k b) (k' b):=λρ' h'=>by
     have:=hA ρ' h'
     generalize hx:ρ r0=x at this
     cases this with
     |shape h=>exact⟨rfl,h⟩
    have hblk:D r0:=hR.dom λρ' h'=>(hboth ρ' h').1.symm
    obtain⟨o,hL,hq,hM⟩:=hR.obj _ hblk
    have hsh:wM.shape? (ρ r0)=wL.shape? r0:=by
     have:=hM ρ hR.self
     unfold World.shape?
     rw[hL,this]
     cases o<;>simp[bQ]at hq<;>simp[dp]
    refine cI (gW.refl hR) (s1:=k' (wL.shape? r0)) (es1:=#[]) (by simp[Sem.runT,hsh]) (λe he=>by simp at he) (ih _ (k' (wL.shape? r0)) D ρ wL wM hR (λρ' h'=>(hboth ρ' h').2 _) _ r wL' hrun hl hT)
 |freeze a n k ih=>
  intro s' D ρ wL wM hR hA es r wL' hrun hl hT
  cases hA ρ hR.self with
  | @freeze _ _ _ k' h0=>
    have hboth:∀ρ',aw G D ρ ρ'->au ρ a=au ρ' a/\ag ρ' PL PM (F ρ') k k':=λρ' h'=>by
     have:=hA ρ' h'
     generalize hx:au ρ a=x at this
     cases this with
     |freeze h=>exact⟨rfl,h⟩
    have hblk:D a.block:=hR.dom λρ' h'=>(congrArg Addr.block (hboth ρ' h').1).symm
    obtain⟨o,hL,hq,hM⟩:=hR.obj _ hblk
    have hturn:gW G T D ρ wL wM D ρ (wL.freeze a n) (wM.freeze (au ρ a) n):=by
     by_cases hn:n=0
     ·have e1:wL.freeze a n=wL:=by simp[World.freeze,hn]
      have e2:wM.freeze (au ρ a) n=wM:=by simp[World.freeze,hn]
      rw[e1,e2]
      exact gW.refl hR
     ·have hM0:=hM ρ hR.self
      refine hR.turn hblk (o:=match o with| .cells c elem (lo,hi)=> .cells c elem (if lo==hi then(a.off,a.off+n)else(min lo a.off,max hi (a.off+n)))|o=>o) (o':=match dp ρ o with| .cells c elem (lo,hi)=> .cells c elem (if lo==hi then(a.off,a.off+n)else(min lo a.off,max hi (a.off+n)))|o=>o) ?_ (λρ' h'=> ?_) ?_ ?_ (λk hk=> ?_) (λk hk=> ?_) ?_ ?_ ?_ ?_ ?_ ?_ ?_ ?_
      ·cases o<;>first|exact hq|(simp[bQ]at hq;done)|rfl
      ·have h1:=(hM ρ' h').symm.trans (hM ρ hR.self)
       rw[Option.some.injEq]at h1
       rw[←h1]
       cases o<;>simp[bQ]at hq<;>rfl
      ·simp only[World.freeze,if_neg hn,Array.getElem?_modify,hL]
       cases o<;>simp[bQ]at hq<;>simp
      ·simp only[World.freeze,if_neg hn,Array.getElem?_modify,au,hM0]
       cases o<;>simp[bQ]at hq<;>simp[dp]
      ·simp only[World.freeze,if_neg hn];exact jm hk
      ·simp only[World.freeze,if_neg hn];exact jm hk
      all_goals simp[World.freeze,hn]
    refine cI hturn (s1:=k') (es1:=#[]) (by simp[Sem.runT]) (λe he=>by simp at he) (ih k' D ρ _ _ hturn.rel (λρ' h'=>(hboth ρ' h').2) _ r wL' hrun hl hT)
 |frozen a k ih=>
  intro s' D ρ wL wM hR hA es r wL' hrun hl hT
  cases hA ρ hR.self with
  | @frozen _ _ k' h0=>
    have hboth:∀ρ',aw G D ρ ρ'->au ρ a=au ρ' a/\∀b,ag ρ' PL PM (F ρ') (k b) (k' b):=λρ' h'=>by
     have:=hA ρ' h'
     generalize hx:au ρ a=x at this
     cases this with
     |frozen h=>exact⟨rfl,h⟩
    have hblk:D a.block:=hR.dom λρ' h'=>(congrArg Addr.block (hboth ρ' h').1).symm
    obtain⟨o,hL,hq,hM⟩:=hR.obj _ hblk
    have hfr:wM.frozen? (au ρ a)=wL.frozen? a:=by
     have:=hM ρ hR.self
     unfold World.frozen?
     simp only[au,hL,this]
     cases o<;>simp[bQ]at hq<;>rfl
    refine cI (gW.refl hR) (s1:=k' (wL.frozen? a)) (es1:=#[]) (by simp[Sem.runT,hfr]) (λe he=>by simp at he) (ih _ (k' (wL.frozen? a)) D ρ wL wM hR (λρ' h'=>(hboth ρ' h').2 _) _ r wL' hrun hl hT)
 |getObj r0 k ih=>
  intro s' D ρ wL wM hR hA es r wL' hrun hl hT
  cases hA ρ hR.self with
  | @getObj _ _ k' h0=>
    have hboth:∀ρ',aw G D ρ ρ'->ρ r0=ρ' r0/\∀o,bQ o=true->ag ρ' PL PM (F ρ') (k o) (k' (dp ρ' o)):=λρ' h'=>by
     have:=hA ρ' h'
     generalize hx:ρ r0=x at this
     cases this with
     |getObj h=>exact⟨rfl,h⟩
    have hblk:D r0:=hR.dom λρ' h'=>(hboth ρ' h').1.symm
    obtain⟨o,hL,hq,hM⟩:=hR.obj _ hblk
    have hsame:∀ρ',aw G D ρ ρ'->dp ρ' o=dp ρ o:=λρ' h'=>Option.some.inj ((hM ρ' h').symm.trans (hM ρ hR.self))
    rw[Sem.run,hL]at hrun
    have hnc:∀c e f,o≠ .cells c e f:=λc e f h=>by
     subst h
     simp only at hrun
     subst hrun
     exact hl.elim
    have hrun':(k o).run PL wL=r:=by cases o<;>first|exact hrun|exact absurd rfl (hnc _ _ _)
    refine cI (gW.refl hR) (s1:=k' (dp ρ o)) (es1:=#[⟨.obj (ρ r0),false,false⟩]) ?_ ?_ (ih o (k' (dp ρ o)) D ρ wL wM hR (λρ' h'=>by rw[←hsame ρ' h'];exact(hboth ρ' h').2 o hq) _ r wL' hrun' hl hT)
    ·have:=hM ρ hR.self
     have hc:=qR (o:=dp ρ o) (by rw[sW];exact hq)
     rw[Sem.runT,this]
     cases o<;>simp[bQ]at hq<;>first|exact absurd rfl (hnc _ _ _)|(simp only[dp]at hc⊢;rw[hc];rfl)
    ·intro e he
     simp at he
     subst he
     exact⟨rfl,r0,hblk,rfl⟩
 |setObj r0 o k ih=>
  intro s' D ρ wL wM hR hA es r wL' hrun hl hT
  cases hA ρ hR.self with
  | @setObj _ _ _ k' hq1 h0=>
    have hboth:∀ρ',aw G D ρ ρ'->ρ r0=ρ' r0/\dp ρ o=dp ρ' o/\ag ρ' PL PM (F ρ') k k':=λρ' h'=>by
     have:=hA ρ' h'
     generalize hx:ρ r0=x at this
     generalize hy:dp ρ o=y at this
     cases this with
     |setObj _ h=>exact⟨rfl,rfl,h⟩
    have hblk:D r0:=hR.dom λρ' h'=>(hboth ρ' h').1.symm
    obtain⟨o0,hL,hq,hM⟩:=hR.obj _ hblk
    rw[Sem.run,hL]at hrun
    have hnc:∀c e f,o0≠ .cells c e f:=λc e f h=>by
     subst h
     simp only at hrun
     subst hrun
     exact hl.elim
    have hrun':k.run PL {wL with heap:=wL.heap.setIfInBounds r0 o}=r:=by cases o0<;>first|exact hrun|exact absurd rfl (hnc _ _ _)
    have hM0:=hM ρ hR.self
    have hturn:gW G T D ρ wL wM D ρ {wL with heap:=wL.heap.setIfInBounds r0 o} {wM with heap:=wM.heap.setIfInBounds (ρ r0) (dp ρ o)}:=by
     refine hR.turn hblk (o:=o) (o':=dp ρ o) hq1 (λρ' h'=>(hboth ρ' h').2.1) ?_ ?_ (λk hk=> ?_) (λk hk=> ?_) (by simp) (by simp) rfl rfl rfl rfl rfl rfl
     ·simp[bY hL]
     ·simp[bY hM0]
     ·exact CH hk
     ·exact CH hk
    refine cI hturn (s1:=k') (es1:=#[⟨.obj (ρ r0),true,false⟩]) ?_ ?_ (ih k' D ρ _ _ hturn.rel (λρ' h'=>(hboth ρ' h').2.2) _ r wL' hrun' hl hT)
    ·have hc:=qR (o:=dp ρ o) (by rw[sW];exact hq1)
     generalize dp ρ o=x at hc⊢
     rw[Sem.runT,hM0]
     cases o0<;>simp[bQ]at hq<;>first|exact absurd rfl (hnc _ _ _)|(simp only[dp,hc];rfl)
    ·intro e he
     simp at he
     subst he
     exact⟨rfl,r0,hblk,rfl⟩
 |choose q k ih=>
  intro s' D ρ wL wM hR hA es r wL' hrun hl hT
  cases hA ρ hR.self with
  | @choose _ _ k' h0=>
    have hboth:∀ρ',aw G D ρ ρ'->∀b,ag ρ' PL PM (F ρ') (k b) (k' b):=λρ' h'=>by
     cases hA ρ' h' with
     |choose h=>exact h
    rw[Sem.run]at hrun
    by_cases hf:q.forced=true
    ·rw[if_pos hf]at hrun
     refine cI (gW.refl hR) (s1:=k' 0) (es1:=#[]) (by simp[Sem.runT,hf]) (λe he=>by simp at he) (ih 0 (k' 0) D ρ wL wM hR (λρ' h'=>hboth ρ' h' 0) _ r wL' hrun hl hT)
    ·rw[if_neg hf]at hrun
     have hran:gW G T D ρ wL wM D ρ {wL with drawn:=wL.drawn+1} {wM with drawn:=wM.drawn+1}:=by
      refine⟨⟨hR.inj,hR.obj,λi hi=> ?_,hR.glob,hR.far,hR.out⟩,λ_ hb=>⟨hb,rfl⟩,λ_ hb=> .inl hb,Nat.le_refl _,Nat.le_refl _,λ_ _ _=>rfl,rfl,rfl,rfl,rfl,λ_ _ _=>rfl,λr h1 h2=>absurd h2 (Nat.not_lt.2 h1),Nat.le_succ _,by show wM.drawn+1+wL.drawn=wL.drawn+1+wM.drawn;omega⟩
      have:=hR.tape (1+i) (by have:wL.drawn+1+i<T:=hi;omega)
      rwa [←Nat.add_assoc,←Nat.add_assoc]at this
     have hrest:=λes1=>ih _ (k' (q.cut (wL.tape wL.drawn q))) D ρ _ _ hran.rel (λρ' h'=>hboth ρ' h' _) es1 r wL' hrun hl hT
     have ht:wM.tape wM.drawn=wL.tape wL.drawn:=by
      obtain⟨_,_,_,_,_,_,_,h3,_⟩:=hrest #[]
      have:wL.drawn+1<=wL'.drawn:=h3.drawn
      exact hR.tape 0 (by omega)
     exact cI hran (s1:=k' (q.cut (wL.tape wL.drawn q))) (es1:=#[]) (by simp[Sem.runT,hf,ht]) (λe he=>by simp at he) (hrest _)
 |sys c k ih=>
  intro s' D ρ wL wM hR hA es r wL' hrun hl hT
  cases hA ρ hR.self with
  |sys d=>
   obtain⟨x,w',hx,_⟩:=d (wL.sys c).1 (wL.sys c).2
   rw[Sem.run,hx]at hrun
   subst hrun
   exact hl.elim
 |program k ih=>
  intro s' D ρ wL wM hR hA es r wL' hrun hl hT
  cases hA ρ hR.self with
  | @program _ k' h0=>
    have hboth:∀ρ',aw G D ρ ρ'->ag ρ' PL PM (F ρ') (k PL) (k' PM):=λρ' h'=>by
     cases hA ρ' h' with
     |program h=>exact h
    exact cI (gW.refl hR) (s1:=k' PM) (es1:=#[]) (by simp[Sem.runT]) (λe he=>by simp at he) (ih PL (k' PM) D ρ wL wM hR hboth _ r wL' hrun hl hT)
 |mark m k ih=>
  intro s' D ρ wL wM hR hA es r wL' hrun hl hT
  cases hA ρ hR.self with
  | @mark _ _ k' hm h0=>
    have hboth:∀ρ',aw G D ρ ρ'->ag ρ' PL PM (F ρ') k k':=λρ' h'=>by
     cases hA ρ' h' with
     |mark _ h=>exact h
     |deadMark=>rw[Sem.run,Sem.run]at hrun;subst hrun;exact hl.elim
    refine cI (gW.refl hR) (s1:=k') (es1:=#[⟨.mark m,false,true⟩]) rfl ?_ (ih k' D ρ wL wM hR hboth _ r wL' hrun hl hT)
    intro e he
    simp at he
    subst he
    exact hm
  |deadMark=>rw[Sem.run,Sem.run]at hrun;subst hrun;exact hl.elim
 |halt h=>
  intro s' D ρ wL wM hR hA es r wL' hrun hl hT
  subst hrun
  exact hl.elim
end
structure aH (PL PM:Program):Prop where
 info:∀t,PL.info? t=PM.info? t
 under:∀t,PL.underlying t=PM.underlying t
 zero:∀t i z,PL.info? t=some i->i.zero=some z->aI z=true
 rt:PL.rt=PM.rt
 cells:∀t,PL.cellsOf t=PM.cellsOf t
 bytes:∀t,PL.bytesOf t=PM.bytesOf t
 byteOf:∀t o,byteOfCell PL PL.depth t o=byteOfCell PM PM.depth t o
 lies:∀e n o u m,liesAt PL PL.depth e n o u m=liesAt PM PM.depth e n o u m
 atBytes:∀e n o b,cellAtBytes PL PL.depth e n o b=cellAtBytes PM PM.depth e n o b
 held:∀e,PL.holdsStoodIn PL.depth e=PM.holdsStoodIn PM.depth e
 guard:∀t,PL.eqGuardType PL.depth t=PM.eqGuardType PM.depth t
 stood:∀t,PL.stoodInHeld t=PM.stoodInHeld t
 types:PL.types.size=PM.types.size
 packed:∀t,PL.holdsPacked PL.depth t=PM.holdsPacked PM.depth t
section
variable{ρ:Nat->Nat}{PL PM:Program}{α β:Type}{f:α->β}
theorem a9(a:α){b:β}(h:b=f a):ag ρ PL PM f (pure a:Sem α) (pure b):=h▸ag.pure a
theorem cy(why:String)(s:Sem β):ag ρ PL PM f (stuck why) s:= .dead trivial
theorem bU(hP:aH PL PM)(t:TypeId):ag ρ PL PM id (typeInfo t) (typeInfo t):=by
 refine .program ?_
 show ag ρ PL PM id (match PL.info? t with|some i=>pure i|none=>stuck "no such type") (match PM.info? t with|some i=>pure i|none=>stuck "no such type")
 rw[hP.info t]
 split
 ·exact a9 _ rfl
 ·exact cy _ _
theorem ai(hP:aH PL PM)(t:TypeId):ag ρ PL PM id (underlying t) (underlying t):=by
 refine .program ?_
 show ag ρ PL PM id (match PL.underlying t with|some i=>pure i|none=>stuck "no such type") (match PM.underlying t with|some i=>pure i|none=>stuck "no such type")
 rw[hP.under t]
 split
 ·exact a9 _ rfl
 ·exact cy _ _
theorem kP(hP:aH PL PM)(t:TypeId):ag ρ PL PM (aa ρ) (zeroValue t) (zeroValue t):=by
 unfold zeroValue
 show ag ρ PL PM (aa ρ) (typeInfo t>>=λi=>match i.zero with|some v=>pure v|none=>unsupported _) (typeInfo t>>=λi=>match i.zero with|some v=>pure v|none=>unsupported _)
 refine .program ?_
 show ag ρ PL PM _ ((match PL.info? t with|some i=>pure i|none=>stuck "no such type" :Sem TypeInfo).bind _) ((match PM.info? t with|some i=>pure i|none=>stuck "no such type" :Sem TypeInfo).bind _)
 rw[←hP.info t]
 cases hi:PL.info? t with
 |none=>exact cy _ _
 |some i=>
  show ag ρ PL PM _ (match i.zero with|some v=>pure v|none=>unsupported _) (match i.zero with|some v=>pure v|none=>unsupported _)
  cases hz:i.zero with
  |none=>exact .dead trivial
  |some z=>exact a9 _ (cE ρ z (hP.zero t i z hi hz)).symm
theorem bS(hP:aH PL PM)(t:TypeId):ag ρ PL PM id (sizeOf t) (sizeOf t):=
 (bU hP t).bind λ_=>a9 _ rfl
theorem xn(hP:aH PL PM)(t:TypeId):ag ρ PL PM id (isAgg t) (isAgg t):=
 (ai hP t).bind λd=>by
   show ag ρ PL PM id _ _
   cases d<;>exact a9 _ rfl
theorem dJ(ρ:Nat->Nat)(a:Addr)(n:Nat):au ρ (a.add n)=(au ρ a).add n:=by
 unfold Addr.add au
 split<;>rfl
theorem dW(ρ:Nat->Nat)(v:Value):(aa ρ v).cells=v.cells.map (aa ρ):=by
 cases v<;>simp[aa,Value.cells]
theorem uT(a:Addr):ag ρ PL PM (aa ρ) (load a) (load (au ρ a)):= .load λv=> .pure v
theorem Ea(a:Addr)(v:Value):ag ρ PL PM id (store a v) (store (au ρ a) (aa ρ v)):= .store (.pure ())
theorem oC(o:Obj)(ho:bQ o=true):ag ρ PL PM ρ (newObj o) (newObj (dp ρ o)):= .new ho λb=> .pure b
theorem jZ(a:Addr):∀(n i:Nat) (acc:Array Value),ag ρ PL PM (Array.map (aa ρ)) (loadCellsFrom a i n acc) (loadCellsFrom (au ρ a) i n (acc.map (aa ρ)))
 |0,_,acc=>a9 _ rfl
 |n+1,i,acc=>by
  unfold loadCellsFrom
  refine ag.bind (f:=aa ρ) (by rw[←dJ];exact uT _) λv=> ?_
  have:=jZ a n (i+1) (acc.push v)
  rwa [Array.map_push]at this
theorem ia(a:Addr)(n:Nat):ag ρ PL PM (Array.map (aa ρ)) (loadCells a n) (loadCells (au ρ a) n):=by
 have:=jZ (ρ:=ρ) (PL:=PL) (PM:=PM) a n 0 #[]
 simpa[loadCells]using this
theorem dY(a:Addr):∀(vs:List Value) (i:Nat),ag ρ PL PM id (storeCells a vs i) (storeCells (au ρ a) (vs.map (aa ρ)) i)
 |[],_=>by unfold storeCells;exact a9 _ rfl
 |v::r,i=>by
  unfold storeCells
  exact ag.bind (f:=id) (by rw[←dJ];exact Ea _ _) λ_=>dY a r (i+1)
theorem iQ(hP:aH PL PM)(t:TypeId)(a:Addr):ag ρ PL PM (aa ρ) (loadVar t a) (loadVar t (au ρ a)):=by
 unfold loadVar
 refine(xn hP t).bind λb=> ?_
 cases b with
 |true=>exact(bS hP t).bind λn=>(ia a n).bind λcs=>a9 _ (by simp[aa])
 |false=>exact uT a
theorem xe(hP:aH PL PM)(t:TypeId)(a:Addr)(v:Value):ag ρ PL PM id (storeVar t a v) (storeVar t (au ρ a) (aa ρ v)):=by
 unfold storeVar
 refine(bS hP t).bind λn=> ?_
 rw[dW,Array.size_map]
 show ag ρ PL PM id (if v.cells.size≠n then _ else _) (if v.cells.size≠n then _ else _)
 split
 ·exact(cy (f:=id) _ _:ag ρ PL PM id _ _).bind λa=>by
   rw[Array.toList_map];exact dY _ _ _
 ·rw[Array.toList_map];exact dY _ _ _
theorem dZ(e:TypeId)(cs:Array Value):ag ρ PL PM (au ρ) (newRow e cs) (newRow e (cs.map (aa ρ))):=
 (oC (.cells cs e) rfl).bind λ_=>a9 _ rfl
theorem tN(t:TypeId)(v:Value):ag ρ PL PM (au ρ) (newVar t v) (newVar t (aa ρ v)):=by
 unfold newVar
 rw[dW]
 exact dZ _ _
theorem eU(hP:aH PL PM)(t:TypeId)(cs:Array Value)(off:Nat):ag ρ PL PM (aa ρ) (part t cs off) (part t (cs.map (aa ρ)) off):=by
 unfold part
 refine(xn hP t).bind λb=> ?_
 cases b with
 |true=>exact(bS hP t).bind λn=>a9 _ (by simp[aa,Array.map_extract])
 |false=>
  show ag ρ PL PM (aa ρ) (match cs[off]? with|some v=>pure v|none=>stuck _) (match (cs.map (aa ρ))[off]? with|some v=>pure v|none=>stuck _)
  rw[Array.getElem?_map]
  cases cs[off]? with
  |none=>exact cy _ _
  |some v=>exact a9 _ rfl
theorem kU(v:Value):ag ρ PL PM id (asIntOf v) (asIntOf (aa ρ v)):=by
 cases v<;>simp only[aa,asIntOf]<;>first|exact a9 _ rfl|exact cy _ _|skip
 rename_i a
 cases a with
 |none=>exact cy _ _
 |some a=>exact .dead trivial
theorem lN(v:Value):ag ρ PL PM id (asInt v) (asInt (aa ρ v)):=(kU v).bind λ_=>a9 _ rfl
theorem tW(v:Value):ag ρ PL PM id (asBool v) (asBool (aa ρ v)):=by
 cases v<;>simp only[aa,asBool]<;>first|exact a9 _ rfl|exact cy _ _
theorem Ek(v:Value):ag ρ PL PM (Array.map (aa ρ)) (asAgg v) (asAgg (aa ρ v)):=by
 cases v<;>simp only[aa,asAgg]<;>first|exact a9 _ rfl|exact cy _ _
theorem gz(v:Value):ag ρ PL PM (au ρ) (Instr.sureAddr v) (Instr.sureAddr (aa ρ v)):=by
 cases v<;>simp only[aa,Instr.sureAddr]<;>first|exact cy _ _|skip
 rename_i a
 cases a with
 |none=>exact cy _ _
 |some a=>exact a9 _ rfl
end
section
variable{ρ:Nat->Nat}{PL PM:Program}{α β:Type}{f:α->β}
theorem ar{c:Prop}[Decidable c]{A B:Sem α}{A' B':Sem β}(h1:ag ρ PL PM f A A')(h2:ag ρ PL PM f B B'):ag ρ PL PM f (if c then A else B) (if c then A' else B'):=by
 split
 ·exact h1
 ·exact h2
theorem kR{v:Value}(hv:aI v=true):ag ρ PL PM f (goPanic v) (goPanic v):=by
 have:=ag.panic (ρ:=ρ) (PL:=PL) (PM:=PM) (f:=f) v
 rwa [cE ρ v hv]at this
def nF:RuntimeError->Bool
 | .bounds _ _ _ _| .error _| .plain _| .nilDeref=>true
 |_=>false
theorem fP(hP:aH PL PM){e:RuntimeError}(he:nF e=true):ag ρ PL PM f (runtimePanic e) (runtimePanic e):=by
 refine .program ?_
 cases e<;>simp[nF]at he
 ·show ag ρ PL PM f (goPanic (.iface PL.rt.boundsError _)) (goPanic (.iface PM.rt.boundsError _))
  rw[hP.rt]
  exact kR (by simp[aI,iG])
 ·show ag ρ PL PM f (goPanic (.iface PL.rt.errorString _)) (goPanic (.iface PM.rt.errorString _))
  rw[hP.rt]
  exact kR (by simp[aI,strVal])
 ·show ag ρ PL PM f (goPanic (.iface PL.rt.plainError _)) (goPanic (.iface PM.rt.plainError _))
  rw[hP.rt]
  exact kR (by simp[aI,strVal])
 ·show ag ρ PL PM f (goPanic (.iface PL.rt.errorString _)) (goPanic (.iface PM.rt.errorString _))
  rw[hP.rt]
  exact kR (by simp[aI,strVal])
theorem ir(hP:aH PL PM)(k:IntKind)(x y:Int)(c:BoundsCode):ag ρ PL PM f (boundsPanic k x y c) (boundsPanic k x y c):=by
 unfold boundsPanic
 dsimp only
 split
 ·exact .choose λn=>fP (e:= .bounds (IntKind.i64.wrap x) y (n==1) c) hP rfl
 ·exact fP (e:= .bounds (IntKind.i64.wrap x) y (k != .u64) c) hP rfl
theorem Em(hP:aH PL PM)(t:TypeId):ag ρ PL PM (aa ρ) (Instr.alloc t true (.tuple #[])) (Instr.alloc t true (.tuple #[])):=by
 unfold Instr.alloc
 refine(kP hP t).bind λz=> ?_
 exact(tN t z).bind λa=>a9 _ (by simp[aa])
theorem M7(t:TypeId)(v:Value):ag ρ PL PM (aa ρ) (Instr.box t v) (Instr.box t (aa ρ v)):=
 (tN t v).bind λa=>a9 _ (by simp[aa])
theorem fj(hP:aH PL PM)(t:TypeId)(v:Value):ag ρ PL PM (aa ρ) (Instr.loadAt t v) (Instr.loadAt t (aa ρ v)):=
 (gz v).bind λa=>iQ hP t a
theorem yR(hP:aH PL PM)(t:TypeId)(v x:Value):ag ρ PL PM id (Instr.storeAt t v x) (Instr.storeAt t (aa ρ v) (aa ρ x)):=
 (gz v).bind λa=>xe hP t a x
theorem cY(r:Nat):ag ρ PL PM id (shape r) (shape (ρ r)):= .shape λs=> .pure s
theorem m8(r:Nat):ag ρ PL PM (Option.map λx=>(au ρ x.1,x.2)) (viewAt r) (viewAt (ρ r)):=by
 unfold viewAt
 refine(cY r).bind λs=> ?_
 cases s with
 |some x=>exact a9 _ rfl
 |none=>exact .getObj λo _=>by cases o<;>exact a9 _ rfl
theorem oz(a:Addr):ag ρ PL PM id (noView a) (noView (au ρ a)):=by
 unfold noView
 refine(m8 a.block).bind λv=> ?_
 cases v with
 |none=>exact a9 _ rfl
 |some x=>exact .dead trivial
theorem g9(hP:aH PL PM)(a:Addr):ag ρ PL PM id (byteOf a) (byteOf (au ρ a)):=by
 unfold byteOf
 show ag ρ PL PM id (match a.spot with|some s=>_|_=>_) (match a.spot with|some s=>_|_=>_)
 cases a.spot with
 |some s=>exact a9 _ rfl
 |none=>
  refine .program ?_
  show ag ρ PL PM id ((noView a).bind _) ((noView (au ρ a)).bind _)
  refine(oz a).bind λ_=> ?_
  refine(cY a.block).bind λs=> ?_
  cases s with
  |none=>exact cy _ _
  |some x=>
   obtain⟨e,n⟩:=x
   show ag ρ PL PM id (if PL.cellsOf e=0 then _ else _) (if PM.cellsOf e=0 then _ else _)
   rw[←hP.cells e]
   split
   ·exact a9 _ rfl
   ·show ag ρ PL PM id (match byteOfCell PL PL.depth e (a.off%PL.cellsOf e)with|some b=>_|_=>_) (match byteOfCell PM PM.depth e (a.off%PL.cellsOf e)with|some b=>_|_=>_)
    rw[←hP.byteOf]
    cases byteOfCell PL PL.depth e (a.off%PL.cellsOf e)with
    |none=>exact cy _ _
    |some b=>exact a9 _ (by rw[←hP.bytes e];rfl)
theorem BX(hP:aH PL PM)(a:Addr)(c b:Nat):ag ρ PL PM (au ρ) (partAt a c b) (partAt (au ρ a) c b):=by
 unfold partAt
 refine(g9 hP a).bind λx=> ?_
 refine(g9 hP {block:=a.block,off:=a.off+c}).bind λy=>a9 _ ?_
 simp only[id]
 split<;>rfl
theorem js(hP:aH PL PM)(a:Addr)(fd:Field):ag ρ PL PM (au ρ) (fieldPlace a fd) (fieldPlace (au ρ a) fd):=by
 unfold fieldPlace
 refine(bS hP fd.type).bind λn=> ?_
 show ag ρ PL PM (au ρ) (if n=0 then _ else _) (if n=0 then _ else _)
 split
 ·exact BX hP _ _ _
 ·exact a9 _ (dJ ρ a _).symm
theorem yU(hP:aH PL PM)(t:TypeId)(v:Value)(i:Nat):ag ρ PL PM (aa ρ) (Instr.fieldAt t v i) (Instr.fieldAt t (aa ρ v) i):=by
 unfold Instr.fieldAt
 refine(ai hP t).bind λd=> ?_
 cases d<;>first|exact cy _ _|skip
 rename_i fs
 show ag ρ PL PM (aa ρ) (match fs[i]? with|some x=>_|_=>_) (match fs[i]? with|some x=>_|_=>_)
 cases fs[i]? with
 |none=>exact cy _ _
 |some fd=>exact(gz v).bind λa=>(js hP a fd).bind λb=>a9 _ (by simp[aa])
theorem iS(hP:aH PL PM)(t:TypeId)(x ix:Value):ag ρ PL PM (aa ρ) (Instr.indexAt t x ix) (Instr.indexAt t (aa ρ x) (aa ρ ix)):=by
 unfold Instr.indexAt
 refine(kU ix).bind λki=> ?_
 obtain⟨k,i⟩:=ki
 refine(ai hP t).bind λd=> ?_
 dsimp only[id]
 cases d with
 |array n e=>
  dsimp only
  refine(gz x).bind λa=> ?_
  refine(ai hP t).bind λd2=> ?_
  dsimp only[id]
  split
  ·exact(bS hP _).bind λn=>a9 _ (by simp[aa,dJ])
  ·exact ar (.dead trivial) (ir hP _ _ _ _)
 |slice e=>
  cases x with
  |slice base len cap=>
   simp only[aa]
   refine(ai hP t).bind λd2=> ?_
   cases base with
   |none=>exact ir hP _ _ _ _
   |some a=>
    dsimp only[id,Option.map_some]
    split
    ·exact(bS hP _).bind λn=>a9 _ (by simp[aa,dJ])
    ·exact ar (.dead trivial) (ir hP _ _ _ _)
  |_=>simp only[aa];exact .dead trivial
 |_=>exact .dead trivial
theorem dh(hP:aH PL PM)(x:Value)(y:Nat)(c:BoundsCode):ag ρ PL PM id (Instr.sliceBound x y c) (Instr.sliceBound (aa ρ x) y c):=by
 unfold Instr.sliceBound
 refine(kU x).bind λki=> ?_
 obtain⟨k,i⟩:=ki
 dsimp only[id]
 split
 ·exact a9 _ rfl
 ·exact ir hP _ _ _ _
theorem fG(hP:aH PL PM)(s:Bool)(len cap:Nat)(lo hi mx:Option Value):ag ρ PL PM id (Instr.sliceBounds s len cap lo hi mx) (Instr.sliceBounds s len cap (lo.map (aa ρ)) (hi.map (aa ρ)) (mx.map (aa ρ))):=by
 unfold Instr.sliceBounds
 cases mx<;>cases hi<;>cases lo<;>dsimp only[Option.map_none,Option.map_some]<;>first
  |exact a9 _ rfl
  |exact .dead trivial
  |exact(dh hP _ _ _).bind λ_=>a9 _ rfl
  |exact(dh hP _ _ _).bind λ_=>(dh hP _ _ _).bind λ_=>a9 _ rfl
  |exact(dh hP _ _ _).bind λ_=>(dh hP _ _ _).bind λ_=>(dh hP _ _ _).bind λ_=>a9 _ rfl
  |exact(dh hP _ _ _).bind λ_=> .dead trivial
theorem ka(hP:aH PL PM)(v:Value):ag ρ PL PM (au ρ) (asAddr v) (asAddr (aa ρ v)):=by
 cases v<;>simp only[aa,asAddr]<;>first|exact cy _ _|skip
 rename_i a
 cases a with
 |none=>exact fP hP rfl
 |some a=>exact a9 _ rfl
theorem Eb(hP:aH PL PM)(t:TypeId)(x:Value)(lo hi mx:Option Value):ag ρ PL PM (aa ρ) (Instr.slice t x lo hi mx) (Instr.slice t (aa ρ x) (lo.map (aa ρ)) (hi.map (aa ρ)) (mx.map (aa ρ))):=by
 unfold Instr.slice
 refine(ai hP t).bind λd=> ?_
 have hm:(Option.map (aa ρ) mx).isSome=mx.isSome:=by cases mx<;>rfl
 cases d with
 |string=>
  cases x with
  |string s=>
   simp only[aa,id,hm]
   refine ar (cy _ _) ?_
   exact(fG hP false s.size s.size lo hi none).bind λy=>a9 _ (by simp[aa])
  |_=>simp only[aa];exact .dead trivial
 |pointer arr=>
  refine(ka hP x).bind λa=>(ai hP arr).bind λd=> ?_
  cases d with
  |array n e=>
   refine(fG hP _ _ _ _ _ _).bind λy=>(bS hP _).bind λn=>a9 _ ?_
   simp only[id,aa,Option.map_some]
   split<;>simp[dJ]
  |_=>exact .dead trivial
 |slice e=>
  cases x with
  |slice a len cap=>
   simp only[aa]
   refine(fG hP _ _ _ _ _ _).bind λy=>(bS hP _).bind λn=>a9 _ ?_
   simp only[id,aa]
   split
   ·rfl
   ·cases a<;>simp[dJ]
  |_=>simp only[aa];exact .dead trivial
 |_=>exact .dead trivial
theorem yS(hP:aH PL PM)(t:TypeId)(x:Value)(lo hi mx:Option Value):ag ρ PL PM (aa ρ) (Instr.sliceAt t x lo hi mx) (Instr.sliceAt t (aa ρ x) (lo.map (aa ρ)) (hi.map (aa ρ)) (mx.map (aa ρ))):=by
 unfold Instr.sliceAt
 refine(ai hP t).bind λd=> ?_
 cases d with
 |array n e=>
  refine(gz x).bind λa=>(fG hP _ _ _ _ _ _).bind λy=>(bS hP _).bind λn=>a9 _ ?_
  simp only[id,aa,Option.map_some]
  split<;>simp[dJ]
 |_=>exact Eb hP t x lo hi mx
theorem Ee(hP:aH PL PM)(t:TypeId)(x ix:Value):ag ρ PL PM (aa ρ) (Instr.index t x ix) (Instr.index t (aa ρ x) (aa ρ ix)):=by
 unfold Instr.index
 refine(kU ix).bind λki=> ?_
 obtain⟨k,i⟩:=ki
 refine(ai hP t).bind λd=> ?_
 dsimp only[id]
 cases d with
 |array n e=>
  cases x with
  |agg cs=>
   simp only[aa]
   exact ar ((bS hP _).bind λm=>eU hP _ _ _) (ir hP _ _ _ _)
  |_=>simp only[aa];exact .dead trivial
 |string=>
  cases x with
  |string s=>
   simp only[aa]
   split
   ·exact a9 _ (by simp[aa])
   ·exact ir hP _ _ _ _
  |_=>simp only[aa];exact .dead trivial
 |_=>exact .dead trivial
theorem Eg(hP:aH PL PM)(t:TypeId)(x:Value)(i:Nat):ag ρ PL PM (aa ρ) (Instr.field t x i) (Instr.field t (aa ρ x) i):=by
 unfold Instr.field
 refine(ai hP t).bind λd=> ?_
 cases d with
 |struct fs=>
  dsimp only[id]
  split
  ·exact(Ek x).bind λcs=>eU hP _ _ _
  ·exact cy _ _
 |_=>exact .dead trivial
theorem yV(x:Value)(i:Nat):ag ρ PL PM (aa ρ) (Instr.extract x i) (Instr.extract (aa ρ x) i):=by
 unfold Instr.extract
 cases x with
 |tuple vs=>
  simp only[aa,Array.getElem?_map]
  cases vs[i]? with
  |none=>exact cy _ _
  |some v=>exact a9 _ rfl
 |_=>simp only[aa];exact .dead trivial
theorem xl(fn:Fn)(hfn:JX fn=true)(first cap:Array Value):ag ρ PL PM (aa ρ) (Instr.makeFunc fn first cap) (Instr.makeFunc fn (first.map (aa ρ)) (cap.map (aa ρ))):=
 a9 _ (by rw[aa,pi ρ hfn])
theorem kT(n:Nat):ag ρ PL PM id (askRoom n) (askRoom n):=by
 unfold askRoom
 split
 ·exact .mark rfl (.pure ())
 ·exact a9 _ rfl
theorem FY(ρ:Nat->Nat)(z:Array Value)(i:Nat):(z.map (aa ρ))[i]! =aa ρ (z[i]!):=by
 have hd:aa ρ (default:Value)=default:=cE ρ _ (by rfl)
 by_cases h:i<z.size
 ·simp[h]
 ·simp[h,hd]
theorem nN(ρ:Nat->Nat)(z:Array Value)(n:Nat):((Array.range n).map λx=>(z.map (aa ρ))[x%(z.map (aa ρ)).size]!)=((Array.range n).map λx=>z[x%z.size]!).map (aa ρ):=by
 rw[Array.map_map]
 apply Array.map_congr_left
 intro i _
 rw[FY,Array.size_map]
 rfl
end
section
variable{ρ:Nat->Nat}{PL PM:Program}{α β:Type}{f:α->β}
theorem je{v:Value}(hv:aI v=true){γ δ:Type}(k:γ->Sem α)(k':δ->Sem β):ag ρ PL PM f (goPanic v>>=k) (goPanic v>>=k'):=by
 have:=ag.panic (ρ:=ρ) (PL:=PL) (PM:=PM) (f:=f) v
 rw[cE ρ v hv]at this
 exact this
theorem iP(hP:aH PL PM){e:RuntimeError}(he:nF e=true){γ δ:Type}(k:γ->Sem α)(k':δ->Sem β):ag ρ PL PM f (runtimePanic e>>=k) (runtimePanic e>>=k'):=by
 refine .program ?_
 cases e<;>simp[nF]at he
 ·show ag ρ PL PM f (goPanic (.iface PL.rt.boundsError _)>>=k) (goPanic (.iface PM.rt.boundsError _)>>=k')
  rw[hP.rt]
  exact je (by simp[aI,iG]) _ _
 ·show ag ρ PL PM f (goPanic (.iface PL.rt.errorString _)>>=k) (goPanic (.iface PM.rt.errorString _)>>=k')
  rw[hP.rt]
  exact je (by simp[aI,strVal]) _ _
 ·show ag ρ PL PM f (goPanic (.iface PL.rt.plainError _)>>=k) (goPanic (.iface PM.rt.plainError _)>>=k')
  rw[hP.rt]
  exact je (by simp[aI,strVal]) _ _
 ·show ag ρ PL PM f (goPanic (.iface PL.rt.errorString _)>>=k) (goPanic (.iface PM.rt.errorString _)>>=k')
  rw[hP.rt]
  exact je (by simp[aI,strVal]) _ _
theorem uS(hP:aH PL PM)(t:TypeId)(l c:Value):ag ρ PL PM (aa ρ) (Instr.makeSlice t l c) (Instr.makeSlice t (aa ρ l) (aa ρ c)):=by
 unfold Instr.makeSlice
 refine(ai hP t).bind λd=> ?_
 cases d with
 |slice elem=>
  refine(lN l).bind λl=>(lN c).bind λc=>(bU hP elem).bind λi=> ?_
  dsimp only[id]
  refine ar ?_ ?_
  ·refine ar (iP hP rfl _ _) (ar (iP hP rfl _ _) ?_)
   exact ag.bind (f:=id) (.choose λn=> .pure n) λn=>iP hP rfl _ _
  ·refine(kT _).bind λ_=>(bS hP elem).bind λsz=> ?_
   dsimp only[id]
   refine ar ?_ ?_
   ·have h:=nN ρ #[] ((IntKind.i64.wrap c).toNat*sz)
    rw[Array.map_empty]at h
    refine ag.bind (f:=au ρ) ?_ λa=>a9 _ (by simp[aa])
    have:=dZ (ρ:=ρ) (PL:=PL) (PM:=PM) elem ((Array.range ((IntKind.i64.wrap c).toNat*sz)).map λx=>(#[]:Array Value)[x%(#[]:Array Value).size]!)
    rwa [←h]at this
   ·refine(kP hP elem).bind λz=> ?_
    refine ag.bind (f:=au ρ) ?_ λa=>a9 _ (by simp[aa])
    rw[dW,nN]
    exact dZ _ _
 |_=>exact .dead trivial
theorem pC(ρ:Nat->Nat)(off:Nat):∀(l:List (Value×Nat)) (cs:Array Value),
 (l.map λx=>(aa ρ x.1,x.2)).foldl (λcs x=>cs.setIfInBounds (off+x.2) x.1) (cs.map (aa ρ))=(l.foldl (λcs x=>cs.setIfInBounds (off+x.2) x.1) cs).map (aa ρ)
 |[],_=>rfl
 |x::l,cs=>by
  rw[List.map_cons,List.foldl_cons,List.foldl_cons,←Array.map_setIfInBounds,pC ρ off l]
theorem lB(ρ:Nat->Nat)(place:Nat->Option (Nat×Nat)):∀(parts:List (Nat×Value)) (cells:Array Value),
 Instr.fill place (cells.map (aa ρ)) (parts.map λx=>(x.1,aa ρ x.2))=(Instr.fill place cells parts).map (Array.map (aa ρ))
 |[],_=>rfl
 |(i,v)::rest,cells=>by
  rw[List.map_cons]
  unfold Instr.fill
  cases place i with
  |none=>rfl
  |some p=>
   obtain⟨off,size⟩:=p
   simp only[dW,Array.size_map]
   split
   ·rfl
   ·rw[←lB ρ place rest]
    congr 1
    have h:=pC ρ off v.cells.zipIdx.toList cells
    simp only[←Array.foldl_toList]
    rw[←h]
    congr 1
    simp[List.zipIdx_map]
theorem zZ{γ δ:Type}{g g':γ->Sem δ}(h:∀x,ag ρ PL PM id (g x) (g' x)):∀l:List γ,ag ρ PL PM id (l.mapM g) (l.mapM g')
 |[]=>by simp only[List.mapM_nil];exact a9 _ rfl
 |x::l=>by
  simp only[List.mapM_cons]
  exact(h x).bind λy=>(zZ h l).bind λys=>a9 _ rfl
theorem GF{γ δ:Type}{g g':γ->Sem δ}(h:∀x,ag ρ PL PM id (g x) (g' x))(xs:Array γ):ag ρ PL PM id (xs.mapM g) (xs.mapM g'):=by
 rw[Array.mapM_eq_mapM_toList,Array.mapM_eq_mapM_toList,map_eq_pure_bind,map_eq_pure_bind]
 exact(zZ h _).bind λys=>a9 _ rfl
theorem Ej(hP:aH PL PM)(t:TypeId)(parts:Array (Nat×Value)):ag ρ PL PM (aa ρ) (Instr.build t parts) (Instr.build t (parts.map λx=>(x.1,aa ρ x.2))):=by
 unfold Instr.build
 refine(kP hP t).bind λz=>(ai hP t).bind λd=> ?_
 have hl:(parts.map λx=>(x.1,aa ρ x.2)).toList=parts.toList.map λx=>(x.1,aa ρ x.2):=by simp
 cases d with
 |struct fs=>
  dsimp only[id]
  refine ag.bind (f:=id) ?_ λplaces=> ?_
  ·refine GF (λx=> ?_) fs
   exact(bS hP x.type).bind λn=>a9 _ rfl
  ·dsimp only[id]
   rw[dW,hl,lB]
   cases Instr.fill (λx=>places[x]?) z.cells parts.toList with
   |none=>exact .dead trivial
   |some c=>exact a9 _ (by simp[aa])
 |array n e=>
  refine(bS hP e).bind λsz=> ?_
  dsimp only[id]
  rw[dW,hl,lB]
  cases Instr.fill (λi=>some (i*sz,sz)) z.cells parts.toList with
  |none=>exact .dead trivial
  |some c=>exact a9 _ (by simp[aa])
 |_=>exact .dead trivial
theorem sB(hP:aH PL PM)(t:TypeId)(len:Nat)(parts:Array (Nat×Value)):ag ρ PL PM (aa ρ) (Instr.buildSlice t len parts) (Instr.buildSlice t len (parts.map λx=>(x.1,aa ρ x.2))):=by
 unfold Instr.buildSlice
 have hl:(parts.map λx=>(x.1,aa ρ x.2)).toList=parts.toList.map λx=>(x.1,aa ρ x.2):=by simp
 refine(ai hP t).bind λd=> ?_
 cases d with
 |slice e=>
  refine(bS hP e).bind λsz=> ?_
  dsimp only[id]
  refine ar (.dead trivial) (ar ?_ ?_)
  ·have h:=nN ρ #[] (len*sz)
   rw[Array.map_empty]at h
   have h2:=lB ρ (λi=>some (i*sz,sz)) parts.toList ((Array.range (len*sz)).map λx=>(#[]:Array Value)[x%(#[]:Array Value).size]!)
   rw[←h]at h2
   show ag ρ PL PM (aa ρ) (match Instr.fill _ _ _ with|some c=>_|_=>_) (match Instr.fill _ _ _ with|some c=>_|_=>_)
   rw[hl,h2]
   cases Instr.fill (λi=>some (i*sz,sz)) ((Array.range (len*sz)).map λx=>(#[]:Array Value)[x%(#[]:Array Value).size]!) parts.toList with
   |none=>exact .dead trivial
   |some c=>exact(dZ e c).bind λa=>a9 _ (by simp[aa])
  ·refine(kP hP e).bind λz=> ?_
   show ag ρ PL PM (aa ρ) (match Instr.fill _ _ _ with|some c=>_|_=>_) (match Instr.fill _ _ _ with|some c=>_|_=>_)
   rw[dW,nN,hl,lB]
   cases Instr.fill (λi=>some (i*sz,sz)) ((Array.range (len*sz)).map λx=>z.cells[x%z.cells.size]!) parts.toList with
   |none=>exact .dead trivial
   |some c=>exact(dZ e c).bind λa=>a9 _ (by simp[aa])
 |_=>exact .dead trivial
theorem jd(op:BinOp)(k:IntKind)(x y:Int):ag ρ PL PM (aa ρ) (Op.intArith op k x y) (Op.intArith op k x y):=by
 unfold Op.intArith
 cases op<;>first|exact a9 _ (by simp[aa])|exact .dead trivial
theorem tP(hP:aH PL PM)(op:BinOp)(k:IntKind)(x y:Int):ag ρ PL PM (aa ρ) (Op.intDiv op k x y) (Op.intDiv op k x y):=by
 unfold Op.intDiv
 refine ar (fP hP rfl) ?_
 cases op<;>first|exact a9 _ (by simp[aa])|exact .dead trivial
theorem iR(op:BinOp)(k:IntKind)(x y:Int):ag ρ PL PM (aa ρ) (Op.intBits op k x y) (Op.intBits op k x y):=by
 unfold Op.intBits
 cases op<;>first|exact a9 _ (by simp[aa])|exact .dead trivial
theorem xf(hP:aH PL PM)(op:BinOp)(k:IntKind)(x:Int)(k2:IntKind)(y:Int):ag ρ PL PM (aa ρ) (Op.shift op k x k2 y) (Op.shift op k x k2 y):=by
 unfold Op.shift
 refine ar (fP hP rfl) ?_
 cases op<;>first|exact a9 _ (by simp[aa])|exact .dead trivial
theorem iq(op:BinOp)(x y:Int):ag ρ PL PM (aa ρ) (Op.intCmp op x y) (Op.intCmp op x y):=by
 unfold Op.intCmp
 cases op<;>first|exact a9 _ (by simp[aa])|exact .dead trivial
theorem pK(op:BinOp)(x y:ByteArray):ag ρ PL PM (aa ρ) (Op.stringOp op x y) (Op.stringOp op x y):=by
 unfold Op.stringOp
 cases op<;>first|exact a9 _ (by simp[aa])|exact ar (.dead trivial) (a9 _ (by simp[aa]))|exact .dead trivial
theorem E9(op:UnOp)(x:Value):ag ρ PL PM (aa ρ) (Op.unary op x) (Op.unary op (aa ρ x)):=by
 cases x with
 |pointer a=>cases a<;>cases op<;>simp only[aa,Op.unary,Option.map_none,Option.map_some]<;>exact .dead trivial
 |int k n=>cases op<;>simp only[aa,Op.unary]<;>first|exact jd _ _ _ _|exact iR _ _ _ _|exact .dead trivial
 |bool b=>cases op<;>simp only[aa,Op.unary]<;>first|exact a9 _ (by simp[aa])|exact .dead trivial
 |float k b=>cases op<;>simp only[aa,Op.unary]<;>first|exact a9 _ (by simp[aa])|exact .dead trivial
 |complex k b c=>cases op<;>simp only[aa,Op.unary]<;>first|exact a9 _ (by simp[aa])|exact .dead trivial
 |_=>cases op<;>simp only[aa,Op.unary]<;>exact .dead trivial
end
section
variable{ρ:Nat->Nat}{PL PM:Program}{α β:Type}{f:α->β}
theorem qQ(hi:∀x y,ρ x=ρ y->x=y)(a b:Addr):(au ρ a==au ρ b)=(a==b):=by
 obtain⟨ab,ao,as⟩:=a
 obtain⟨bb,bo,bs⟩:=b
 by_cases h:(⟨ab,ao,as⟩:Addr)=⟨bb,bo,bs⟩
 ·rw[h];simp
 ·have h':au ρ ⟨ab,ao,as⟩≠au ρ ⟨bb,bo,bs⟩:=λe=>h (by
   simp only[au,Addr.mk.injEq]at e⊢
   exact⟨hi _ _ e.1,e.2⟩)
  rw[beq_eq_false_iff_ne.2 h,beq_eq_false_iff_ne.2 h']
theorem jX(hi:∀x y,ρ x=ρ y->x=y)(a b:Nat):(ρ a==ρ b)=(a==b):=by
 by_cases h:a=b
 ·subst h;simp
 ·rw[beq_eq_false_iff_ne.2 h,beq_eq_false_iff_ne.2 λe=>h (hi _ _ e)]
theorem m9(a:Addr):ag ρ PL PM id (frozen a) (frozen (au ρ a)):= .frozen λb=> .pure b
theorem nW(a:Addr):ag ρ PL PM id (stringish a) (stringish (au ρ a)):=by
 unfold stringish
 refine(m9 a).bind λb=> ?_
 dsimp only[id]
 refine ar (a9 _ rfl) ?_
 refine(cY a.block).bind λs=> ?_
 cases s with
 |none=>exact a9 _ rfl
 |some x=>exact .frozen λb=> .pure b
theorem xj(a b:Addr):ag ρ PL PM id (mayBeOne a b) (mayBeOne (au ρ a) (au ρ b)):=by
 unfold mayBeOne
 refine(nW a).bind λsa=>(nW b).bind λsb=> ?_
 dsimp only[id]
 exact ag.bind (f:=id) ((cY a.block).bind λs=>a9 _ rfl) λx=>ag.bind (f:=id) ((cY b.block).bind λs=>a9 _ rfl) λy=>a9 _ rfl
theorem pL(hi:∀x y,ρ x=ρ y->x=y)(a b:Addr):ag ρ PL PM id (sameAddr a b) (sameAddr (au ρ a) (au ρ b)):=by
 unfold sameAddr
 have h1:((au ρ a).block==(au ρ b).block)=(a.block==b.block):=jX hi _ _
 rw[h1,qQ hi]
 refine ar (a9 _ rfl) ?_
 refine(m9 a).bind λx=>(m9 b).bind λy=> ?_
 dsimp only[id]
 refine ar (.dead trivial) ?_
 refine(oz a).bind λ_=>(oz b).bind λ_=>(xj a b).bind λm=> ?_
 dsimp only[id]
 exact ar (.choose λn=> .pure _) (a9 _ rfl)
theorem rD(hi:∀x y,ρ x=ρ y->x=y)(a b:Option Addr):ag ρ PL PM id (samePointer a b) (samePointer (a.map (au ρ)) (b.map (au ρ))):=by
 cases a<;>cases b<;>first|exact pL hi _ _|exact a9 _ rfl
def dF(d:Option TypeDesc)(x y:Value):Bool:=
 match x,y with
 | .bool _, .bool _| .int _ _, .int _ _| .string _, .string _| .nilIface, .nilIface| .nilIface, .iface _ _| .iface _ _, .nilIface| .nilFunc, .nilFunc| .nilFunc, .func _ _ _| .func _ _ _, .nilFunc=>true
 | .slice a _ _, .slice b _ _=>a.isNone||b.isNone
 | .pointer _, .pointer _=>(match d with|some (.int _)=>false|_=>true)
 |_,_=>false
theorem yW(hP:aH PL PM)(hi:∀x y,ρ x=ρ y->x=y)(d:Nat)(t:TypeId)(x y:Value)(h:dF (PL.underlying t) x y=true):ag ρ PL PM id (Op.equalIn (d+1) t x y) (Op.equalIn (d+1) t (aa ρ x) (aa ρ y)):=by
 have hu:∀{γ δ:Type} {g:γ->δ} (k:TypeDesc->Sem γ) (k':TypeDesc->Sem δ),(∀e,PL.underlying t=some e->ag ρ PL PM g (k e) (k' e))->ag ρ PL PM g (underlying t>>=k) (underlying t>>=k'):=λk k' hk=>by
  refine .program ?_
  show ag ρ PL PM _ ((match PL.underlying t with|some i=>pure i|none=>stuck "no such type" :Sem TypeDesc).bind k) ((match PM.underlying t with|some i=>pure i|none=>stuck "no such type" :Sem TypeDesc).bind k')
  rw[←hP.under t]
  cases hd:PL.underlying t with
  |none=>exact .dead trivial
  |some e=>exact hk e hd
 cases x with
 |bool a=>
  cases y with
  |bool b=>
   simp only[aa]
   unfold Op.equalIn
   refine hu _ _ λe he=> ?_
   cases e<;>first|exact a9 _ rfl|exact .dead trivial
  |_=>simp[dF]at h
 |int k a=>
  cases y with
  |int k' b=>
   simp only[aa]
   unfold Op.equalIn
   refine hu _ _ λe he=> ?_
   cases e<;>first|exact ar (a9 _ rfl) (.dead trivial)|exact .dead trivial
  |_=>simp[dF]at h
 |string a=>
  cases y with
  |string b=>
   simp only[aa]
   unfold Op.equalIn
   refine hu _ _ λe he=> ?_
   cases e<;>first|exact a9 _ rfl|exact .dead trivial
  |_=>simp[dF]at h
 |nilIface=>
  cases y with
  |nilIface=>
   simp only[aa]
   unfold Op.equalIn
   refine hu _ _ λe he=> ?_
   cases e<;>first|exact a9 _ rfl|exact .dead trivial
  |iface ty v=>
   simp only[aa]
   unfold Op.equalIn
   refine hu _ _ λe he=> ?_
   cases e<;>first|exact a9 _ rfl|exact .dead trivial
  |_=>simp[dF]at h
 |iface ty v=>
  cases y with
  |nilIface=>
   simp only[aa]
   unfold Op.equalIn
   refine hu _ _ λe he=> ?_
   cases e<;>first|exact a9 _ rfl|exact .dead trivial
  |_=>simp[dF]at h
 |nilFunc=>
  cases y with
  |nilFunc=>
   simp only[aa]
   unfold Op.equalIn
   refine hu _ _ λe he=> ?_
   cases e<;>first|exact a9 _ rfl|exact .dead trivial
  |func fn a b=>
   simp only[aa]
   unfold Op.equalIn
   refine hu _ _ λe he=> ?_
   cases e<;>first|exact a9 _ rfl|exact .dead trivial
  |_=>simp[dF]at h
 |func fn a b=>
  cases y with
  |nilFunc=>
   simp only[aa]
   unfold Op.equalIn
   refine hu _ _ λe he=> ?_
   cases e<;>first|exact a9 _ rfl|exact .dead trivial
  |_=>simp[dF]at h
 |slice a l c=>
  cases y with
  |slice b l2 c2=>
   simp only[dF,Bool.or_eq_true,Option.isNone_iff_eq_none]at h
   simp only[aa]
   unfold Op.equalIn
   refine hu _ _ λe he=> ?_
   rcases h with rfl|rfl
   ·cases b<;>cases e<;>first|exact a9 _ rfl|exact .dead trivial
   ·cases a<;>cases e<;>first|exact a9 _ rfl|exact .dead trivial
  |_=>simp[dF]at h
 |pointer a=>
  cases y with
  |pointer b=>
   simp only[aa]
   unfold Op.equalIn
   refine hu _ _ λe he=> ?_
   rw[he]at h
   cases e with
   |int k=>simp[dF]at h
   |pointer elem=>
    cases a with
    |none=>cases b<;>exact a9 _ rfl
    |some a=>
     cases b with
     |none=>exact a9 _ rfl
     |some b=>
      refine(bS hP elem).bind λn=> ?_
      dsimp only[id]
      rw[qQ hi]
      refine ar (pL hi _ _) (ar (a9 _ rfl) (.choose λn=> .pure _))
   |unsafePointer=>exact rD hi a b
   |_=>exact .dead trivial
  |_=>simp[dF]at h
 |_=>simp[dF]at h
end
section
variable{ρ:Nat->Nat}{PL PM:Program}{α β:Type}{f:α->β}
theorem oG{γ σ:Type}(r:γ->γ){g g':γ->σ->Sem (ForInStep σ)}(h:∀c s,ag ρ PL PM id (g c s) (g' (r c) s)):∀(l:List γ) (b:σ),ag ρ PL PM id (forIn l b g) (forIn (l.map r) b g')
 |[],b=>by simp only[List.map_nil,List.forIn_nil];exact a9 _ rfl
 |c::l,b=>by
  simp only[List.map_cons,List.forIn_cons]
  refine(h c b).bind λs=> ?_
  cases s with
  |done x=>exact a9 _ rfl
  |yield x=>exact oG r h l x
theorem oH{γ σ:Type}(r:γ->γ){g g':γ->σ->Sem (ForInStep σ)}(h:∀c s,ag ρ PL PM id (g c s) (g' (r c) s))(xs:Array γ)(b:σ):ag ρ PL PM id (forIn xs b g) (forIn (xs.map r) b g'):=by
 rw[←Array.forIn_toList,←Array.forIn_toList,Array.toList_map]
 exact oG r h _ _
theorem oJ(x:Value):ag ρ PL PM (aa ρ) (Conv.bytesToString x) (Conv.bytesToString (aa ρ x)):=by
 unfold Conv.bytesToString
 cases x with
 |slice a l c=>
  cases a with
  |none=>simp only[aa,Option.map_none];exact a9 _ (by simp[aa])
  |some a=>
   simp only[aa,Option.map_some]
   refine(ia a l).bind λcs=> ?_
   refine(oH (aa ρ) (λc s=> ?_) cs ByteArray.empty).bind λs=>a9 _ (by simp[aa])
   cases c with
   |int k n=>
    simp only[aa]
    cases k<;>first|exact a9 _ rfl|exact .dead trivial
   |_=>simp only[aa];exact .dead trivial
 |_=>simp only[aa];exact .dead trivial
theorem jY(a:Addr):ag ρ PL PM id (markStringish a) (markStringish (au ρ a)):=by
 unfold markStringish
 refine(cY a.block).bind λs=> ?_
 cases s with
 |none=>exact a9 _ rfl
 |some x=>exact ag.freeze (a:={block:=a.block,off:=x.2}) (.pure ())
theorem ow(e:TypeId)(s:ByteArray):ag ρ PL PM (aa ρ) (Conv.stringToBytes e s) (Conv.stringToBytes e s):=by
 unfold Conv.stringToBytes
 refine ag.bind (f:=id) (.choose λn=> .pure n) λcap=> ?_
 dsimp only[id]
 refine ag.bind (f:=au ρ) ?_ λa=>(jY a).bind λ_=>a9 _ (by simp[aa])
 have h:=dZ (ρ:=ρ) (PL:=PL) (PM:=PM) e ((s.data.map λb:UInt8=>Value.int .u8 b.toNat)++Array.replicate (cap- s.size) (Value.int .u8 0))
 have hm:((s.data.map λb:UInt8=>Value.int .u8 b.toNat)++Array.replicate (cap- s.size) (Value.int .u8 0)).map (aa ρ)=(s.data.map λb:UInt8=>Value.int .u8 b.toNat)++Array.replicate (cap- s.size) (Value.int .u8 0):=by
  refine iJ λv hv=> ?_
  rcases Array.mem_append.1 hv with hv|hv
  ·obtain⟨b,_,rfl⟩:=Array.mem_map.1 hv
   simp[aa]
  ·obtain⟨_,rfl⟩:=Array.mem_replicate.1 hv
   simp[aa]
 rwa [hm]at h
theorem IL(hP:aH PL PM)(ts:Array TypeId)(t:TypeId)(args:Array Value):ag ρ PL PM (aa ρ) (Builtin.len_ ts t args) (Builtin.len_ ts t (args.map (aa ρ))):=by
 unfold Builtin.len_
 rw[Array.getElem?_map]
 cases ts[0]? with
 |none=>exact .dead trivial
 |some t0=>
  cases args[0]? with
  |none=>exact .dead trivial
  |some x=>
   simp only[Option.map_some]
   refine(ai hP t0).bind λe=> ?_
   cases e with
   |string=>cases x<;>simp only[aa]<;>first|exact a9 _ (by simp[aa,goInt])|exact .dead trivial
   |array n e=>exact a9 _ (by simp[aa,goInt])
   |pointer p=>
    refine(ai hP p).bind λe=> ?_
    cases e<;>first|exact a9 _ (by simp[aa,goInt])|exact .dead trivial
   |slice e=>cases x<;>simp only[aa]<;>first|exact a9 _ (by simp[aa,goInt])|exact .dead trivial
   |map k e=>
    cases x with
    |map r=>cases r with
     |none=>simp only[aa,Option.map_none];exact a9 _ (by simp[aa,goInt])
     |some r=>
      simp only[aa,Option.map_some]
      exact .getObj λo ho=>by cases o<;>first|exact .dead trivial|(simp[bQ]at ho;done)
    |_=>simp only[aa];exact .dead trivial
   |chan k e=>
    cases x with
    |chan r=>cases r with
     |none=>simp only[aa,Option.map_none];exact a9 _ (by simp[aa,goInt])
     |some r=>
      simp only[aa,Option.map_some]
      exact .getObj λo ho=>by cases o<;>first|exact .dead trivial|(simp[bQ]at ho;done)
    |_=>simp only[aa];exact .dead trivial
   |_=>exact .dead trivial
theorem IM(hP:aH PL PM)(ts:Array TypeId)(t:TypeId)(args:Array Value):ag ρ PL PM (aa ρ) (Builtin.cap_ ts t args) (Builtin.cap_ ts t (args.map (aa ρ))):=by
 unfold Builtin.cap_
 rw[Array.getElem?_map]
 cases ts[0]? with
 |none=>exact .dead trivial
 |some t0=>
  cases args[0]? with
  |none=>exact .dead trivial
  |some x=>
   simp only[Option.map_some]
   refine(ai hP t0).bind λe=> ?_
   cases e with
   |array n e=>exact a9 _ (by simp[aa,goInt])
   |pointer p=>
    refine(ai hP p).bind λe=> ?_
    cases e<;>first|exact a9 _ (by simp[aa,goInt])|exact .dead trivial
   |slice e=>cases x<;>simp only[aa]<;>first|exact a9 _ (by simp[aa,goInt])|exact .dead trivial
   |chan k e=>
    cases x with
    |chan r=>cases r with
     |none=>simp only[aa,Option.map_none];exact a9 _ (by simp[aa,goInt])
     |some r=>
      simp only[aa,Option.map_some]
      exact .getObj λo ho=>by cases o<;>first|exact .dead trivial|(simp[bQ]at ho;done)
    |_=>simp only[aa];exact .dead trivial
   |_=>exact .dead trivial
theorem xm(x:Value):ag ρ PL PM id (Builtin.lenOf x) (Builtin.lenOf (aa ρ x)):=by
 cases x<;>simp only[aa,Builtin.lenOf]<;>first|exact a9 _ rfl|exact .dead trivial
theorem gk(size n:Nat)(x:Value):ag ρ PL PM (Array.map (aa ρ)) (Builtin.firstCells size n x) (Builtin.firstCells size n (aa ρ x)):=by
 cases x with
 |slice a l c=>
  cases a with
  |none=>simp only[aa,Option.map_none];exact a9 _ (by simp)
  |some a=>simp only[aa,Option.map_some];exact ia a _
 |string s=>
  simp only[aa]
  refine a9 _ (iJ λv hv=> ?_).symm
  obtain⟨b,_,rfl⟩:=Array.mem_map.1 hv
  simp[aa]
 |_=>simp only[aa];exact .dead trivial
theorem GG(hP:aH PL PM)(ts:Array TypeId)(t:TypeId)(args:Array Value):ag ρ PL PM (aa ρ) (Builtin.copy_ ts t args) (Builtin.copy_ ts t (args.map (aa ρ))):=by
 unfold Builtin.copy_
 rw[Array.getElem?_map,Array.getElem?_map]
 cases ts[0]? with
 |none=>exact .dead trivial
 |some t0=>
  cases args[0]? with
  |none=>exact .dead trivial
  |some x=>
   cases args[1]? with
   |none=>exact .dead trivial
   |some y=>
    simp only[Option.map_some]
    refine(ai hP t0).bind λe=> ?_
    cases e with
    |slice e=>
     cases x with
     |slice a l c=>
      simp only[aa]
      refine(xm y).bind λn=>(bS hP e).bind λsz=>(gk _ _ y).bind λcs=> ?_
      dsimp only[id]
      cases a with
      |none=>exact a9 _ (by simp[aa,goInt])
      |some a=>
       simp only[Option.map_some]
       rw[Array.toList_map]
       exact(dY a _ 0).bind λ_=>a9 _ (by simp[aa,goInt])
     |_=>simp only[aa];exact .dead trivial
    |_=>exact .dead trivial
theorem GE(x y:Value):ag ρ PL PM (aa ρ) (Builtin.min2 x y) (Builtin.min2 (aa ρ x) (aa ρ y)):=by
 cases x with
 |int k a=>
  cases y with
  |pointer b=>cases b<;>simp only[aa,Option.map_none,Option.map_some]<;>exact .dead trivial
  |_=>simp only[aa]<;>first|exact a9 _ (by simp[aa])|exact .dead trivial
 |pointer a=>cases a<;>cases y<;>simp only[aa,Option.map_none,Option.map_some]<;>first|exact .dead trivial|(rename_i b;cases b<;>exact .dead trivial)
 |string a=>
  cases y with
  |string b=>simp only[aa];exact(pK .leq a b).bind λv=>(tW v).bind λq=>a9 _ (by simp only[id,aa])
  |pointer b=>cases b<;>simp only[aa,Option.map_none,Option.map_some]<;>exact .dead trivial
  |_=>simp only[aa];exact .dead trivial
 |float k a=>
  cases y with
  |float k' b=>
   simp only[aa,Builtin.min2]
   cases k.format.order a b with
   |none=>exact .choose λn=>a9 (Value.float k n) (by simp only[aa])
   |some o=>cases o<;>exact a9 _ (by simp only[aa])
  |pointer b=>cases b<;>simp only[aa,Option.map_none,Option.map_some]<;>exact .dead trivial
  |_=>simp only[aa];exact .dead trivial
 |_=>cases y with
  |pointer b=>cases b<;>simp only[aa,Option.map_none,Option.map_some]<;>exact .dead trivial
  |_=>simp only[aa];exact .dead trivial
theorem tU:∀(l:List Value) (x:Value),ag ρ PL PM (aa ρ) (l.foldlM Builtin.min2 x) ((l.map (aa ρ)).foldlM Builtin.min2 (aa ρ x))
 |[],x=>a9 _ rfl
 |y::l,x=>by
  simp only[List.map_cons,List.foldlM_cons]
  exact(GE x y).bind λz=>tU l z
theorem IK(ts:Array TypeId)(t:TypeId)(args:Array Value):ag ρ PL PM (aa ρ) (Builtin.min_ ts t args) (Builtin.min_ ts t (args.map (aa ρ))):=by
 unfold Builtin.min_
 rw[Array.toList_map]
 cases args.toList with
 |nil=>exact .dead trivial
 |cons x l=>exact tU l x
theorem oD(hP:aH PL PM)(t:TypeId)(x:Value):ag ρ PL PM (aa ρ) (Instr.makeInterface t x) (Instr.makeInterface t (aa ρ x)):=by
 unfold Instr.makeInterface
 refine(ai hP t).bind λe=> ?_
 cases e<;>first|exact a9 _ (by simp[aa])|exact .dead trivial
def jv(P:Program)(s:Sem α):Prop:=∀w,∃h w',s.run P w= .halt h w'/\eb h/\(ax w->ax w')
def Ja(P:Program)(s:Sem α):Prop:=∀w,(∀h w',s.run P w= .halt h w'->eb h/\(ax w->ax w'))/\∀a w',s.run P w= .ok a w'->ax w->ax w'
theorem jv.after{γ:Type}{s:Sem γ}{k:γ->Sem α}(hs:Ja PL s)(h:∀a,jv PL (k a)):jv PL (s>>=k):=λw=>by
 rw[Sem.run_bind]
 cases e:s.run PL w with
 |ok a w1=>
  obtain⟨x,w2,h1,h2,h3⟩:=h a w1
  exact⟨x,w2,h1,h2,λhw=>h3 ((hs w).2 a w1 e hw)⟩
 |halt x w1=>exact⟨x,w1,rfl,(hs w).1 x w1 e⟩
theorem fD(v:Value):jv PL (goPanic v:Sem α):=λw=>⟨_,w,rfl,trivial,λh=>h⟩
theorem pG(t:TypeId):Ja PL (elemOf t):=λw=>by
 unfold elemOf underlying
 simp only[Bind.bind,Sem.bind,program,Sem.run]
 cases hd:PL.underlying t with
 |none=>exact⟨λh w' e=>by cases e;exact⟨trivial,λh=>h⟩,λa w' e=>by cases e⟩
 |some d=>cases d<;>exact⟨λh w' e=>by cases e<;>exact⟨trivial,λh=>h⟩,λa w' e hw=>by cases e<;>exact hw⟩
theorem ax.push{w:World}(h:ax w){o:Obj}(ho:bQ o=true):ax {w with heap:=w.heap.push o}:=by
 intro b x hx
 simp only[Array.getElem?_push]at hx
 split at hx
 ·cases hx;exact ho
 ·exact h b x hx
theorem pF(t:TypeId)(v:Value):Ja PL (newVar t v):=λw=>⟨λh w' e=>(by cases e),λa w' e hw=>(by cases e;exact hw.push rfl)⟩
theorem ip(e:RuntimeError):jv PL (runtimePanic e:Sem α):=by
 unfold runtimePanic
 refine jv.after (λw=>⟨λh w' e=>(by cases e),λa w' e hw=>(by cases e;exact hw)⟩) λp=> ?_
 cases e with
 |typeAssertion i c a m=>exact jv.after (pG _) λ_=>jv.after (pF _ _) λ_=>fD _
 |panicNil=>exact jv.after (pG _) λ_=>jv.after (pF _ _) λ_=>fD _
 |_=>exact fD _
theorem Ec(x:Value):ag ρ PL PM (aa ρ) (Instr.panic x) (Instr.panic (aa ρ x)):=by
 unfold Instr.panic
 cases x with
 |nilIface=>
  refine .sys λr w=> ?_
  rw[Sem.run_bind']
  generalize e:Sem.run PL _ w=q
  cases q with
  |halt x w1=>
   refine⟨x,w1,rfl, ?_⟩
   cases r<;>cases e<;>exact⟨trivial,λh=>h⟩
  |ok a w1=>
   have hw1:w1=w:=by cases r<;>cases e<;>rfl
   subst hw1
   show∃h w',Sem.run PL (if (a==1)=true then goPanic Value.nilIface else runtimePanic RuntimeError.panicNil) w1=_/\_
   split
   ·exact fD _ w1
   ·exact ip _ w1
 |_=>exact .dead trivial
end
section
variable{ρ:Nat->Nat}{PL PM:Program}{α β:Type}{f:α->β}
theorem jr(a:Addr)(n:Nat):ag ρ PL PM id (Builtin.holdsCells a n) (Builtin.holdsCells (au ρ a) n):=by
 unfold Builtin.holdsCells
 refine(cY a.block).bind λs=> ?_
 cases s with
 |none=>exact a9 _ rfl
 |some x=>exact a9 _ rfl
theorem xi(hi:∀x y,ρ x=ρ y->x=y)(size l n:Nat)(base:Option Addr)(x:Value):ag ρ PL PM id (Builtin.mayShare size l n base x) (Builtin.mayShare size l n (base.map (au ρ)) (aa ρ x)):=by
 unfold Builtin.mayShare
 cases base with
 |none=>
  simp only[Option.map_none,pure_bind,Bool.not_true,Bool.false_eq_true,↓reduceIte,Option.any_none]
  cases x with
  |slice a l c=>
   cases a with
   |none=>simp only[aa,Option.map_none];exact a9 _ rfl
   |some a=>
    simp only[aa,Option.map_some]
    exact(jr a _).bind λq=>a9 _ rfl
  |_=>simp only[aa];exact a9 _ rfl
 |some a=>
  refine(jr a _).bind λh=> ?_
  refine ag.bind (f:=id) (by rw[←dJ];exact m9 _) λfr=> ?_
  simp only[id,Option.map_some,pure_bind,Option.any_some]
  refine ar (a9 _ rfl) ?_
  cases x with
  |slice b l c=>
   cases b with
   |none=>simp only[aa,Option.map_none];exact a9 _ rfl
   |some b=>
    simp only[aa,Option.map_some]
    refine(jr b _).bind λq=>a9 _ ?_
    have:=jX hi a.block b.block
    simp only[id]
    rw[show(au ρ a).block=ρ a.block from rfl,show(au ρ b).block=ρ b.block from rfl,this]
  |_=>simp only[aa];exact a9 _ rfl
theorem kO(ρ:Nat->Nat)(z:Array Value)(n:Nat):Builtin.zeroCells (z.map (aa ρ)) n=(Builtin.zeroCells z n).map (aa ρ):=by
 unfold Builtin.zeroCells
 have:=nN ρ z (n*z.size)
 rwa [Array.size_map]at this⊢
theorem BW(hP:aH PL PM)(t:TypeId){k:TypeDesc->Sem α}{k':TypeDesc->Sem β}(h:∀d,PL.underlying t=some d->ag ρ PL PM f (k d) (k' d)):ag ρ PL PM f (underlying t>>=k) (underlying t>>=k'):=by
 unfold underlying
 simp only[Bind.bind]
 refine .program ?_
 simp only[Sem.bind]
 rw[←hP.under t]
 cases hd:PL.underlying t with
 |none=>exact .dead trivial
 |some d=>exact h d hd
theorem mq(size n:Nat)(b:Option Addr)(l c:Nat):ag ρ PL PM (Array.map (aa ρ)) (Builtin.firstCells size n (.slice b l c)) (Builtin.firstCells size n (.slice (b.map (au ρ)) l c)):=by
 have:=gk (ρ:=ρ) (PL:=PL) (PM:=PM) size n (.slice b l c)
 simpa only[aa]using this
theorem BZ{q:Question}{k:Nat->Sem α}{k':Nat->Sem β}(h:∀n,ag ρ PL PM f (k n) (k' n)):ag ρ PL PM f (choose q>>=k) (choose q>>=k'):= .choose h
theorem tJ(hP:aH PL PM)(e:TypeId)(n size:Nat){k:Array Value->Sem α}{k':Array Value->Sem β}(h:∀cs,ag ρ PL PM f (k cs) (k' (cs.map (aa ρ)))):
 ag ρ PL PM f ((if n*size=0 then pure #[]else do pure (Builtin.zeroCells (←zeroValue e).cells n))>>=k) ((if n*size=0 then pure #[]else do pure (Builtin.zeroCells (←zeroValue e).cells n))>>=k'):=by
 refine ag.bind (f:=Array.map (aa ρ)) (ar (a9 _ (by simp)) ?_) h
 exact(kP hP e).bind λz=>a9 _ (by rw[dW,kO])
theorem C0(hP:aH PL PM)(hi:∀x y,ρ x=ρ y->x=y)(ts:Array TypeId)(t:TypeId)(args:Array Value):ag ρ PL PM (aa ρ) (Builtin.append_ ts t args) (Builtin.append_ ts t (args.map (aa ρ))):=by
 unfold Builtin.append_
 rw[Array.getElem?_map,Array.getElem?_map]
 cases ts[0]? with
 |none=>exact .dead trivial
 |some t0=>
  cases args[0]? with
  |none=>exact .dead trivial
  |some s=>
   cases args[1]? with
   |none=>exact .dead trivial
   |some x=>
    simp only[Option.map_some]
    refine(ai hP t0).bind λe=> ?_
    cases e with
    |slice e=>
     cases s with
     |slice base sLen sCap=>
      simp only[aa]
      refine(bS hP e).bind λsize=> ?_
      dsimp only[id]
      cases ts[1]?
      case' some t1=>
         refine(ai hP t1).bind λd=> ?_
         dsimp only[id]
         cases d
         case int k=>
           simp only[pure_bind,Bool.false_eq_true,↓reduceIte,Bool.not_true]
           refine(lN x).bind λl=> ?_
           dsimp only[id]
           refine ar (iP hP rfl _ _) ?_
           refine(bU hP e).bind λi=> ?_
           dsimp only[id]
           refine ar (BZ λn=>iP hP rfl _ _) ?_
           refine ar ?_ ?_
           ·refine tJ hP e _ size λnew=> ?_
            rcases base with _|a
            ·simp only[Option.map_none];exact a9 _ (by simp[aa])
            ·simp only[Option.map_some]
             rw[←dJ,Array.toList_map]
             exact(dY _ _ _).bind λ_=>a9 _ (by simp[aa])
           ·refine(bU hP e).bind λi=> ?_
            dsimp only[id]
            refine ar (iP hP rfl _ _) ?_
            refine(bU hP e).bind λi2=> ?_
            dsimp only[id]
            refine ar (iP hP rfl _ _) ?_
            refine .choose λc=> ?_
            refine(bU hP e).bind λi3=> ?_
            refine(kT _).bind λ_=> ?_
            refine(mq size sLen base sLen sCap).bind λold=> ?_
            refine tJ hP e _ size λnew=> ?_
            refine(kP hP e).bind λz=> ?_
            rw[dW,kO,←Array.map_append,←Array.map_append]
            exact(dZ _ _).bind λa=>a9 _ (by simp[aa])
      all_goals
         simp only[pure_bind,Bool.false_eq_true,↓reduceIte,Bool.not_false]
         refine(xm x).bind λn=> ?_
         dsimp only[id]
         refine ar ?_ ?_
         ·refine(gk size n x).bind λnew=> ?_
          rcases base with _|a
          ·simp only[Option.map_none];exact a9 _ (by simp[aa])
          ·simp only[Option.map_some]
           rw[←dJ,Array.toList_map]
           exact(dY _ _ _).bind λ_=>a9 _ (by simp[aa])
         ·refine(bU hP e).bind λi=> ?_
          dsimp only[id]
          refine ar (iP hP rfl _ _) ?_
          refine(bU hP e).bind λi2=> ?_
          dsimp only[id]
          refine ar ?_ ?_
          ·rw[bind_assoc,bind_assoc]
           refine(xi hi size sLen n base x).bind λq=> ?_
           cases q
           ·exact .mark rfl (.dead trivial)
           ·exact .dead trivial
          ·refine .choose λc=> ?_
           refine(bU hP e).bind λi3=> ?_
           refine(kT _).bind λ_=> ?_
           refine(mq size sLen base sLen sCap).bind λold=> ?_
           refine(gk size n x).bind λnew=> ?_
           refine(kP hP e).bind λz=> ?_
           rw[dW,kO,←Array.map_append,←Array.map_append]
           exact(dZ _ _).bind λa=>a9 _ (by simp[aa])
     |_=>simp only[aa];exact .dead trivial
    |_=>exact .dead trivial
end
end Go.Proofs.YtkmoglhgkcnalaaDoor
