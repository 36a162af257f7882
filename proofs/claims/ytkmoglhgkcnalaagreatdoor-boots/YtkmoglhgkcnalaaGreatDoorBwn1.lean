/- A part of what the last text of the claim imports: texts laid together, without remarks and blanks, by a program. -/
import Derived.Test.YtkmoglhgkcnalaaGreatDoorProg
import Derived.Conc.WalkWords
import Derived.KernelRfl
import Derived.Laws.Slices
import Derived.Conc.EventLaws2
import Derived.RowKit
import Derived.Conc.Own
import Derived.Below
import Derived.Laws.Sem
import Derived.RunT
import Derived.Conc.Events
import Derived.AtR
import Derived.Calls
import Derived.Conc.Own3
import Derived.Conc.Own4
import Derived.Tactics
import Derived.Conc.CrowdInv
import Derived.Conc.CompanyDraw
import Derived.Deep.MidRow
import Derived.Laws.Tables
import Derived.Conc.Beside
import Derived.Fence
import Derived.Conc.Fork
import Derived.Conc.WgGenN3
import Derived.WalkKit
import Derived.WalkSpells
import Derived.WalkLawsBesides
import Derived.Deep.OwnRows
import Derived.Laws.CopyRow
import Derived.Lib.BufferWrite
import Derived.Laws.IdiomStrings
set_option maxHeartbeats 16000000
set_option maxRecDepth 100000
set_option linter.all false
open Go.Proofs.Tryz
open Go
variable{A RO V V' V0:Nat->Prop}{B N Wg b cp i j m n r:Nat}{F fx:List (Nat×Value)}{Goal:Goroutine->World->Prop}{K k':List Item}{P:Program}{QS R:Value->World->Prop}{a:Act}{ad:Addr}{args first:Array Value}{cs:List Frame}{d:Tmp}{df ds:List Deferred}{es:Array Event}{ev:Operand->Value}{f:FuncId}{fn:Func}{fr:Frame}{g':Goroutine}{gd:Option (Nat×Bool)}{listen:Bool}{ops:Array Oper}{p:Op}{rest:List Nat}{tt ty:TypeId}{v:Value}{vs:List Value}{w w' Rb w0 w1 wL wR Rc QI:World}{x:Operand}
namespace Go
abbrev Value.pk(b k:Nat):Value:=.pointer (some ⟨b,k,none⟩)
abbrev Value.sk(b n c:Nat):Value:=.slice (some ⟨b,0,none⟩) n c
end Go
namespace Go.Proofs.YtkmoglhgkcnalaaGreatDoor
open Go Go.RowKit
abbrev Bw(w w':World):Prop:=Below w.heap.size w w'
theorem k_{p:Prop}(h:p:=by kernel_rfl):p:=h
theorem o_{p:Prop}(h:p:=by omega):p:=h
theorem d_{p:Prop}(h:p:=by decide):p:=h
theorem s_{p:Prop}(h:p:=by simp):p:=h
end Go.Proofs.YtkmoglhgkcnalaaGreatDoor
namespace Go.Proofs.YtkmoglhgkcnalaaGreatDoor
open Go Go.Conc Go.RowKit
structure eD where
 tree:ByteArray
 chains:ByteArray
 id:ByteArray
 root:ByteArray
 height:Int
 width:Int
 count:Nat
 shift:Int
 q:Int
 salt:ByteArray
 links:ByteArray
 path:ByteArray
def eD.cells(s:eD):Array Value:=#[.string s.tree,.string s.chains,.string s.id,.string s.root,.int .i64 s.height,.int .i64 s.width,.int .i64 s.count,.int .i64 s.shift,.int .i64 s.q,.string s.salt,.string s.links,.string s.path]
def Yl(P:Program)(ev:Operand->Value)(o:Oper)(w:World)(v:Value)(es:Array Event):Prop:=(execOp ev o).run P w=.ok (.value v) w/\(execOp ev o).events P w #[]=es
section
variable{s:eD}{o:Oper}{y z:Operand}
theorem ak{cs:Array Value}{t:TypeId}(h:w.heap[b]?=some (.cells cs t))(k:Nat):w.cell? ⟨b,k,none⟩=cs[k]?:=by
 unfold World.cell?;simp[h]
theorem cF(P:Program)(QH:o.op=.move x\/o.op=.assign x):Yl P ev o w (ev x) #[]:=by
 rcases QH with h|h<;>constructor<;>simp[execOp,h]
theorem dG(P:Program){f:Fn}{cap:Array Operand}(QH:o.op=.makeFunc f #[] cap):Yl P ev o w (.func f #[] (cap.map ev)) #[]:=by
 constructor<;>simp[execOp,QH,Instr.makeFunc]
def xj(P:Program)(t:TypeId):Prop:=∀w:World,(isAgg t).run P w=.ok false w/\(isAgg t).events P w #[]=#[]
theorem az:xj prog 3:=λw=>⟨by kernel_rfl,by kernel_rfl⟩
theorem bN:xj prog 9:=λw=>⟨by kernel_rfl,by kernel_rfl⟩
theorem mO:xj prog 24:=λw=>⟨by kernel_rfl,by kernel_rfl⟩
theorem oJ:xj prog 43:=λw=>⟨by kernel_rfl,by kernel_rfl⟩
theorem an{t:TypeId}(ht:xj prog t)(QH:o.op=.load t x)(hx:ev x=.pointer (some ad))(h:w.cell? ad=some v):Yl prog ev o w v #[⟨.cell ad,false,false⟩]:=by
 obtain⟨h1,h2⟩:=ht w;constructor
 .simp[execOp,QH,hx,Instr.loadAt,loadVar,h1,h,go_sem]
 .simp[execOp,QH,hx,Instr.loadAt,loadVar,h1,h2,h,go_sem]
def mG(b:Nat):Array Event:=#[⟨.cell ⟨b,0,none⟩,false,false⟩,⟨.cell ⟨b,1,none⟩,false,false⟩,⟨.cell ⟨b,2,none⟩,false,false⟩,⟨.cell ⟨b,3,none⟩,false,false⟩,⟨.cell ⟨b,4,none⟩,false,false⟩,⟨.cell ⟨b,5,none⟩,false,false⟩,
 ⟨.cell ⟨b,6,none⟩,false,false⟩,⟨.cell ⟨b,7,none⟩,false,false⟩,⟨.cell ⟨b,8,none⟩,false,false⟩,⟨.cell ⟨b,9,none⟩,false,false⟩,⟨.cell ⟨b,10,none⟩,false,false⟩,⟨.cell ⟨b,11,none⟩,false,false⟩]
theorem xN{e:Event}(h:e∈mG b):∃k,e=⟨.cell ⟨b,k,none⟩,false,false⟩:=by
 simp only[mG,List.mem_toArray,List.mem_cons,List.not_mem_nil,or_false]at h;rcases h with rfl|rfl|rfl|rfl|rfl|rfl|rfl|rfl|rfl|rfl|rfl|rfl<;>exact⟨_,rfl⟩
theorem kn{ex:Array Value}(QH:o.op=.load 119 x)(hx:ev x=.pk b 0)(h:w.heap[b]?=some (.cells (s.cells++ex) 119)):Yl prog ev o w (.agg s.cells) (mG b):=by
 have h1:(isAgg 119).run prog w=.ok true w:=by kernel_rfl
 have h2:(isAgg 119).events prog w #[]=#[]:=by kernel_rfl
 have hc:∀k,k<12->w.cell? ⟨b,k,none⟩=s.cells[k]?:=λk hk=>(ak h k).trans (Array.getElem?_append_left hk);have q0:w.cell? ⟨b,0,none⟩=some (.string s.tree):=hc 0 d_;have q1:w.cell? ⟨b,1,none⟩=some (.string s.chains):=hc 1 d_;have q2:w.cell? ⟨b,2,none⟩=some (.string s.id):=hc 2 d_;have q3:w.cell? ⟨b,3,none⟩=some (.string s.root):=hc 3 d_;have q4:w.cell? ⟨b,4,none⟩=some (.int .i64 s.height):=hc 4 d_;have q5:w.cell? ⟨b,5,none⟩=some (.int .i64 s.width):=hc 5 d_;have q6:w.cell? ⟨b,6,none⟩=some (.int .i64 s.count):=hc 6 d_;have q7:w.cell? ⟨b,7,none⟩=some (.int .i64 s.shift):=hc 7 d_;have q8:w.cell? ⟨b,8,none⟩=some (.int .i64 s.q):=hc 8 d_;have q9:w.cell? ⟨b,9,none⟩=some (.string s.salt):=hc 9 d_;have q10:w.cell? ⟨b,10,none⟩=some (.string s.links):=hc 10 d_;have q11:w.cell? ⟨b,11,none⟩=some (.string s.path):=hc 11 d_;constructor
 .simp[execOp,QH,hx,Instr.loadAt,loadVar,h1,loadCells,loadCellsFrom,Addr.add,q0,q1,q2,q3,q4,q5,q6,q7,q8,q9,q10,q11,eD.cells,go_sem]
 .simp[execOp,QH,hx,Instr.loadAt,loadVar,h1,h2,loadCells,loadCellsFrom,Addr.add,q0,q1,q2,q3,q4,q5,q6,q7,q8,q9,q10,q11,mG,go_sem]
theorem D3(QH:o.op=.fieldAddr 119 x 0){k:Nat}(hx:ev x=.pk b k):Yl prog ev o w (.pk b k) #[]:=by
 have e:execOp ev o=(do pure (.value (←Instr.fieldAt 119 (.pk b k) 0))):=by simp only[execOp,QH,hx]
 unfold Yl;rw[e];constructor<;>kernel_rfl
theorem uS(QH:o.op=.fieldAddr 115 x 6)(hx:ev x=.pk b 0):Yl prog ev o w (.pk b 6) #[]:=by
 have e:execOp ev o=(do pure (.value (←Instr.fieldAt 115 (.pk b 0) 6))):=by simp only[execOp,QH,hx]
 unfold Yl;rw[e];constructor<;>kernel_rfl
theorem D1(QH:o.op=.fieldAddr 119 x 3)(hx:ev x=.pk b 0):Yl prog ev o w (.pk b 10) #[]:=by
 have e:execOp ev o=(do pure (.value (←Instr.fieldAt 119 (.pk b 0) 3))):=by simp only[execOp,QH,hx]
 unfold Yl;rw[e];constructor<;>kernel_rfl
theorem iq{u:TypeId}{m n:Int}(QH:o.op=.binOp .lss 3 x y u)(hx:ev x=.int .i64 m)(hy:ev y=.int .i64 n):Yl prog ev o w (.bool (decide (m<n))) #[]:=by
 constructor<;>simp[execOp,QH,hx,hy,go_sem]
theorem pZ{u:TypeId}{m n:Int}(QH:o.op=.binOp .add 3 x y u)(hx:ev x=.int .i64 m)(hy:ev y=.int .i64 n)(h: -9223372036854775808<=m+n/\m+n<9223372036854775808):Yl prog ev o w (.int .i64 (m+n)) #[]:=by
 have e:IntKind.i64.wrap (m+n)=m+n:=by rw[IntKind.wrap_i64];omega
 constructor<;>simp[execOp,QH,hx,hy,go_sem,e]
theorem pY{u:TypeId}{m n:Int}(QH:o.op=.binOp .mul 3 x y u)(hx:ev x=.int .i64 m)(hy:ev y=.int .i64 n)(h: -9223372036854775808<=m*n/\m*n<9223372036854775808):Yl prog ev o w (.int .i64 (m*n)) #[]:=by
 have e:IntKind.i64.wrap (m*n)=m*n:=by rw[IntKind.wrap_i64];omega
 constructor<;>simp[execOp,QH,hx,hy,go_sem,e]
theorem C_{q:Bool}{t:TypeId}(QH:o.op=.unOp .not t x)(hx:ev x=.bool q):Yl prog ev o w (.bool (!q)) #[]:=by
 constructor<;>simp[execOp,QH,hx,go_sem,Op.unary]
theorem dQ{t:ByteArray}(QH:o.op=.slice 9 x (some y) (some z) none)(hx:ev x=.string t)(hy:ev y=.int .i64 m)(hz:ev z=.int .i64 n)(h:m<=n)(h':n<=t.size):Yl prog ev o w (.string (t.extract m n)) #[]:=by
 have hu:prog.underlying 9=some .string:=by kernel_rfl
 constructor
 .simp[execOp,QH,hx,hy,hz,Instr.sliceAt,Instr.slice,Instr.sliceBounds,run_underlying hu,Instr.sliceBound,asIntOf,h,h']
 .simp[execOp,QH,hx,hy,hz,Instr.sliceAt,Instr.slice,Instr.sliceBounds,run_underlying hu,Instr.sliceBound,asIntOf,h,h',go_sem]
theorem bJ{t e:TypeId}{a:Addr}{len cap:Nat}(ht:prog.underlying t=some (.slice e))(he:∀w:World,(sizeOf e).run prog w=.ok 1 w)(QH:o.op=.indexAddr t x y)(hx:ev x=.slice (some a) len cap)(hy:ev y=.int .i64 n)(hn:n<len):
 Yl prog ev o w (.pointer (some (a.add n))) #[]:=by
 have h1:=he w;constructor<;>simp[execOp,QH,hx,hy,go_sem,ht,h1,hn]
def Mk(P:Program)(ev:Operand->Value)(o:Oper)(w:World)(cs:Array Value)(t:TypeId):Prop:=(execOp ev o).run P w=.ok (.value (.pk w.heap.size 0)) (w.alloc (.cells cs t))/\(execOp ev o).events P w #[]=#[]
theorem rc(P:Program){t:TypeId}(QH:o.op=.box t x):Mk P ev o w (ev x).cells t:=by
 constructor<;>simp[execOp,QH,Instr.box,newVar,newRow,go_sem]
theorem jQ(QH:o.op=.alloc 3):Mk prog ev o w #[.int .i64 0] 3:=by
 have e:execOp ev o=(do pure (.value (←Instr.alloc 3 true (.tuple #[])))):=by simp only[execOp,QH]
 unfold Mk;rw[e];constructor<;>kernel_rfl
theorem jC(QH:o.op=.alloc 43):Mk prog ev o w #[.slice none 0 0] 43:=by
 have e:execOp ev o=(do pure (.value (←Instr.alloc 43 true (.tuple #[])))):=by simp only[execOp,QH]
 unfold Mk;rw[e];constructor<;>kernel_rfl
theorem dr{t:TypeId}{k:Nat}{v0:Value}(hv:v.cells=#[v])(RH:v.oneCell'=true)(ht:(sizeOf t).run prog w=.ok 1 w)(QH:o.op=.store t x y)(hx:ev x=.pk b k)(hy:ev y=v)(h:w.cell? ⟨b,k,none⟩=some v0)(hf:w.frozen? ⟨b,k,none⟩=false):
 (execOp ev o).run prog w=.ok .skip (w.setCell ⟨b,k,none⟩ v)/\(execOp ev o).events prog w #[]=#[⟨.cell ⟨b,k,none⟩,true,false⟩]:=by
 have e:execOp ev o=(do Instr.storeAt t (.pk b k) v;pure .skip):=by simp only[execOp,QH,hx,hy]
 rw[e];simp only[Instr.storeAt,storeVar,hv];constructor
 .simp[ht,storeCells,Addr.add,run_store _ _ _ _ _ RH,h,hf,go_sem]
 .simp[ht,storeCells,Addr.add,events_store (hv:=RH),h,hf,go_sem]
end

end Go.Proofs.YtkmoglhgkcnalaaGreatDoor
namespace Go.Value
abbrev pt(b:Nat):Value:=.pk b 0

end Go.Value
namespace Go.Proofs.YtkmoglhgkcnalaaGreatDoor
open Go Go.RowKit


end Go.Proofs.YtkmoglhgkcnalaaGreatDoor
namespace Go.Proofs.YtkmoglhgkcnalaaGreatDoor
open Go
def gO:Obj->Bool
 | .view _ _| .pending _ _| .chan ..| .coro _| .finalizers _ _=>false
 |_=>true
def gw:Mark->Bool
 | .extern _| .noRoom=>true
 |_=>false
def vY:Halt->Bool
 | .panic _=>true
 |_=>false
def tT{α:Type}:Result α->World
 | .ok _ w| .halt _ w=>w
def rl{α:Type}:Result α->Bool
 | .ok _ _=>true
 | .halt h _=>vY h
def Dm{α:Type}(w:World):Result α->Result α
 | .ok a _=>.ok a w
 | .halt h _=>.halt h w
inductive aG (P:Program) {α:Type}:Sem α->Prop
 |pure (a:α):aG P (.pure a)
 |load {a:Addr} {k:Value->Sem α} (h:∀v,aG P (k v)):aG P (.load .plain a k)
 |store {a:Addr} {v:Value} {k:Sem α} (h:aG P k):aG P (.store .plain a v k)
 |new {o:Obj} {k:Nat->Sem α} (ho:gO o=true) (h:∀b,aG P (k b)):aG P (.new o k)
 |getObj {r:Nat} {k:Obj->Sem α} (h:∀o,gO o=true->aG P (k o)):aG P (.getObj r k)
 |setObj {r:Nat} {o:Obj} {k:Sem α} (ho:gO o=true) (h:aG P k):aG P (.setObj r o k)
 |choose {q:Question} {k:Nat->Sem α} (h:∀n,aG P (k n)):aG P (.choose q k)
 |program {k:Program->Sem α} (h:aG P (k P)):aG P (.program k)
 |mark {m:Mark} {k:Sem α} (hm:gw m=true) (h:aG P k):aG P (.mark m k)
 |halt (h:Halt):aG P (.halt h)
 |dead {s:Sem α} (h:∀w,rl (s.run P w)=false):aG P s
 |eqv {s s':Sem α} (h:∀w es,s.runT P w es=s'.runT P w es) (h':aG P s'):aG P s
theorem aG.bind{α β:Type}{s:Sem α}{k:α->Sem β}(h:aG P s)(hk:∀a,aG P (k a)):aG P (s>>=k):=by
 show aG P (s.bind k);induction h with
 |pure a=>exact hk a
 |load _ ih=>exact .load ih
 |store _ ih=>exact .store ih
 |new ho _ ih=>exact .new ho ih
 |getObj _ ih=>exact .getObj ih
 |setObj ho _ ih=>exact .setObj ho ih
 |choose _ ih=>exact .choose ih
 |program _ ih=>exact .program ih
 |mark hm _ ih=>exact .mark hm ih
 |halt h=>exact .halt h
 | @dead s h=>
   refine .dead λw=>?_;have hw:=h w;rw[show s.bind k=s>>=k from rfl,Sem.run_bind];cases hr:s.run P w with
   |ok a w'=>rw[hr]at hw;cases hw
   |halt x w'=>rw[hr]at hw;exact hw
 | @eqv s s' h _ ih=>
   refine .eqv (λw es=>?_) ih;rw[Sem.runT_bind',Sem.runT_bind',h]
structure Vw (V RO:Nat->Prop) (wL wR:World):Prop where
 size:wL.heap.size<=wR.heap.size
 low:∀b,V b->b<wL.heap.size
 mine:∀b,V b->wL.heap[b]?=wR.heap[b]?
 calm:∀b o,V b->wL.heap[b]?=some o->gO o=true
 ro:∀b,RO b->¬V b->b<wL.heap.size->∃c e z,wR.heap[b]?=some (.cells c e z)/\wL.heap[b]?=some (.cells c e (0,c.size))
 dead:∀b,b<wL.heap.size->¬V b->¬RO b->∃e z,wL.heap[b]?=some (.cells #[] e z)
 tape:wL.tape=wR.tape
def grown(V:Nat->Prop)(w w':World)(b:Nat):Prop:=V b\/(w.heap.size<=b/\b<w'.heap.size)
def eC(V RO:Nat->Prop)(e:Event):Prop:=
 match e.loc with
 | .cell a=>e.sync=false/\(V a.block\/(RO a.block/\e.write=false))
 | .obj b=>e.sync=false/\V b
 | .mark m=>gw m=true
 |_=>False
theorem eC.mono{e:Event}(h:eC V RO e)(hv:∀b,V b->V' b):eC V' RO e:=by
 unfold eC at*;split at h<;>simp_all;exact h.2.imp (hv _) id
theorem dE(V:Nat->Prop)(h:w'.heap.size=w.heap.size):grown V w w'=V:=by
 funext b
 exact propext ⟨λx=>x.elim id λx=>absurd x.2 o_,.inl⟩
theorem wi{w2:World}(h:w.heap.size<=w1.heap.size)(h':w1.heap.size<=w2.heap.size):grown (grown V w w1) w1 w2=grown V w w2:=by
 funext b
 unfold grown;refine propext ⟨λx=>?_,λx=>?_⟩
 .rcases x with(x|x)|x
  .exact .inl x
  .exact .inr ⟨x.1,by omega⟩
  .exact .inr ⟨by omega,x.2⟩
 .rcases x with x|x
  .exact .inl (.inl x)
  .by_cases hb:b<w1.heap.size
   .exact .inl (.inr ⟨x.1,hb⟩)
   .exact .inr ⟨by omega,x.2⟩
section
variable{a:Addr}
theorem gC(h:w.cell? a=some v):∃c e f,w.heap[a.block]?=some (.cells c e f)/\a.spot=none/\c[a.off]?=some v:=by
 unfold World.cell? at h;split at h
 .rename_i c e f hb;split at h
  .cases h
  .rename_i hs;exact⟨c,e,f,hb,by cases hq:a.spot with|none=>rfl|some _=>simp[hq]at hs,h⟩
 .cases h
theorem Vw.cell(h:Vw V RO wL wR)(hc:wL.cell? a=some v):wR.cell? a=some v/\(V a.block\/(RO a.block/\wL.frozen? a=true)):=by
 obtain⟨c,e,f,hb,hs,hv⟩:=gC hc;have QK:=(Array.getElem?_eq_some_iff.1 hb).1;by_cases hV:V a.block
 .refine⟨?_,.inl hV⟩;rw[←hc];unfold World.cell?;rw[h.mine _ hV]
 .by_cases hR:RO a.block
  .obtain⟨c',e',z,h1,h2⟩:=h.ro _ hR hV QK;rw[h2]at hb;injection hb with hb;injection hb with q1 q2 q3;subst q1;have hoff:=(Array.getElem?_eq_some_iff.1 hv).1;refine⟨?_,.inr ⟨hR,?_⟩⟩
   .unfold World.cell?;simp[h1,hs,hv]
   .unfold World.frozen?;simp[h2,hoff]
  .obtain⟨e',z,h2⟩:=h.dead _ QK hV hR;rw[h2]at hb;injection hb with hb;injection hb with q1;subst q1;simp at hv
theorem Vw.far(h:Vw V RO wL wR)(P:Program)(q:Bool):(∃x,wL.farLoad P a q=.error x/\vY x=false)/\∀u,∃x,wL.farStore P a u q=.error x/\vY x=false:=by
 have hn:∀s,vY (wL.noCell a s)=false:=λs=>by unfold World.noCell;split<;>rfl
 have hv:∀x t,wL.heap[a.block]?≠some (.view x t):=λx t hb=>by
  have QK:=(Array.getElem?_eq_some_iff.1 hb).1;by_cases hV:V a.block
  .cases h.calm _ _ hV hb
  .by_cases hR:RO a.block
   .obtain⟨c',e',z,h1,h2⟩:=h.ro _ hR hV QK;rw[h2]at hb;cases hb
   .obtain⟨e',z,h2⟩:=h.dead _ QK hV hR;rw[h2]at hb;cases hb
 constructor
 .refine⟨_,?_,hn "load: no such cell"⟩;unfold World.farLoad;split
  .rename_i x t hb;exact absurd hb (hv x t)
  .rfl
 .intro u;refine⟨_,?_,hn "store: no such cell"⟩;unfold World.farStore;split
  .rename_i x t hb;exact absurd hb (hv x t)
  .rfl
theorem Vw.obj(h:Vw V RO wL wR){o:Obj}(hb:wL.heap[r]?=some o)(hn:∀c e f,o≠ .cells c e f):V r:=by
 have QK:=(Array.getElem?_eq_some_iff.1 hb).1;by_cases hV:V r
 .exact hV
 .by_cases hR:RO r
  .obtain⟨c',e',z,h1,h2⟩:=h.ro _ hR hV QK;rw[h2]at hb;injection hb with hb;exact absurd hb.symm (hn _ _ _)
  .obtain⟨e',z,h2⟩:=h.dead _ QK hV hR;rw[h2]at hb;injection hb with hb;exact absurd hb.symm (hn _ _ _)
theorem Vw.set(h:Vw V RO wL wR)(hr:V r)(f:Obj->Obj)(hf:∀o,wL.heap[r]?=some o->gO (f o)=true){TE:World}(hL:TE.heap=wL.heap.modify r f)(hR:Rc.heap=wR.heap.modify r f)(htL:TE.tape=wL.tape)(htR:Rc.tape=wR.tape):Vw V RO TE Rc:=by
 have ne:∀{l:Array Obj} {b:Nat},r≠b->(l.modify r f)[b]?=l[b]?:=λhb=>by rw[Array.getElem?_modify];simp[hb]
 have sz:TE.heap.size=wL.heap.size:=by rw[hL];simp
 have nb:∀{b:Nat},¬V b->r≠b:=λhb e=>hb (e▸hr);refine⟨by rw[sz,hR];simpa using h.size,λb hb=>by rw[sz];exact h.low b hb,λb hb=>?_,λb o hb ho=>?_,λb h1 h2 h3=>?_,λb h1 h2 h3=>?_,by rw[htL,htR];exact h.tape⟩
 .rw[hL,hR,Array.getElem?_modify,Array.getElem?_modify,h.mine b hb]
 .rw[hL,Array.getElem?_modify]at ho;split at ho
  .rename_i e;subst e;obtain⟨x,hx,rfl⟩:=Option.map_eq_some_iff.1 ho;exact hf x hx
  .exact h.calm b o hb ho
 .rw[sz]at h3;rw[hL,hR,ne (nb h2),ne (nb h2)];exact h.ro b h1 h2 h3
 .rw[sz]at h1;rw[hL,ne (nb h2)];exact h.dead b h1 h2 h3
theorem Vw.push(h:Vw V RO wL wR)(he:wL.heap.size=wR.heap.size){o:Obj}(ho:gO o=true):Vw (grown V wL {wL with heap:=wL.heap.push o}) RO {wL with heap:=wL.heap.push o} {wR with heap:=wR.heap.push o}:=by
 rw[show grown V wL {wL with heap:=wL.heap.push o}=λb=>V b\/b=wL.heap.size from funext λb=>propext ⟨.imp id λh=>by have:=h.2;simp at this;omega,.imp id λh=>by subst h;simp⟩];have old:∀{l:Array Obj} {b:Nat},b<l.size->(l.push o)[b]?=l[b]?:=λhb=>by rw[Array.getElem?_push_lt hb,Array.getElem?_eq_getElem hb]
 refine⟨by simpa using h.size,λb hb=>?_,λb hb=>?_,λb x hb hx=>?_,λb h1 h2 h3=>?_,λb h1 h2 h3=>?_,h.tape⟩
 .rcases hb with hb|rfl
  .have:=h.low b hb;simp;omega
  .simp
 .rcases hb with hb|rfl
  .have:=h.low b hb;show(wL.heap.push o)[b]?=(wR.heap.push o)[b]?;rw[old this,old o_];exact h.mine b hb
  .show(wL.heap.push o)[wL.heap.size]?=(wR.heap.push o)[wL.heap.size]?;rw[Array.getElem?_push_size,he,Array.getElem?_push_size]
 .rcases hb with hb|rfl
  .have QK:=h.low b hb;rw[show({wL with heap:=wL.heap.push o}:World).heap=wL.heap.push o from rfl,old QK]at hx;exact h.calm b x hb hx
  .rw[show({wL with heap:=wL.heap.push o}:World).heap=wL.heap.push o from rfl,Array.getElem?_push_size]at hx;cases hx;exact ho
 .have QQ:¬V b/\b≠wL.heap.size:=by simpa using h2
  have QK:b<wL.heap.size:=by simp at h3;omega
  show∃c e z,(wR.heap.push o)[b]?=_/\(wL.heap.push o)[b]?=_;rw[old QK,old o_];exact h.ro b h1 QQ.1 QK
 .have QQ:¬V b/\b≠wL.heap.size:=by simpa using h2
  have QK:b<wL.heap.size:=by simp at h1;omega
  show∃e z,(wL.heap.push o)[b]?=_;rw[old QK];exact h.dead b QK QQ.1 h3
end
def Lh:Value->Bool
 | .agg _| .tuple _=>false
 |_=>true
theorem qG{α:Type}{p:Program}{m:Mode}{a:Addr}{k:Sem α}(hv:Lh v=true):(Sem.store m a v k).runT p w es=match w.cell? a with
 |some _=>if w.frozen? a then(.halt (.unsupported (.unsafePointer "a write to bytes that a string shares")) w,es)else k.runT p (w.setCell a v) (es.push ⟨.cell a,true,m== .atomic⟩)
 |none=>match w.farStore p a v (m== .atomic)with
  | .ok (w,Ww)=>k.runT p w (es++Ww.toArray.map (⟨.cell ·,true,m== .atomic⟩))
  | .error h=>(.halt h w,es):=by
 cases v<;>simp[Lh]at hv<;>rfl
theorem Vw.self(h:Vw V RO wL wR):Vw (λb=>b<wL.heap.size) (λ_=>False) wL wL:=by
 refine⟨Nat.le_refl _,λ_=>id,λ_ _=>rfl,λb o hb ho=>?_,λ_ x=>x.elim,λb hb x=>absurd hb x,rfl⟩;by_cases hV:V b
 .exact h.calm b o hV ho
 .by_cases hR:RO b
  .obtain⟨_,_,_,_,h2⟩:=h.ro b hR hV hb;rw[h2]at ho;cases ho;rfl
  .obtain⟨_,_,h2⟩:=h.dead b hb hV hR;rw[h2]at ho;cases ho;rfl
structure pe (V RO:Nat->Prop) (wL TE wR Rc:World) (es Rr:Array Event):Prop where
 vw:Vw (grown V wL TE) RO TE Rc
 keep:∀b,b<wR.heap.size->¬V b->Rc.heap[b]?=wR.heap[b]?
 mono:wL.heap.size<=TE.heap.size/\wL.drawn<=TE.drawn
 more:Rc.heap.size+wL.heap.size=wR.heap.size+TE.heap.size
 drew:Rc.drawn+wL.drawn=wR.drawn+TE.drawn
 os:Rc.os=wR.os
 output:Rc.output=wR.output
 tape:Rc.tape=wR.tape
 ev:∀e∈Rr,e∈es\/eC (grown V wL TE) RO e
theorem pe.trans{TE w2:World}{e1 Rr:Array Event}(hal:wL.heap.size=wR.heap.size\/w1.heap.size=wL.heap.size)(h:pe V RO wL w1 wR w2 es e1)(h':pe (grown V wL w1) RO w1 TE w2 Rc e1 Rr):pe V RO wL TE wR Rc es Rr:=by
 have g:=wi (V:=V) h.mono.1 h'.mono.1;have m:=h.mono;have m':=h'.mono;have l:=h.more;refine⟨g▸h'.vw,λb hb hn=>?_,by omega,by have:=h'.more;omega,by have:=h.drew;have:=h'.drew;omega,h'.os.trans h.os,h'.output.trans h.output,h'.tape.trans h.tape,λe he=>?_⟩
 .refine(h'.keep b o_ λx=>?_).trans (h.keep b hb hn);rcases x with x|x
  .exact hn x
  .omega
 .rcases h'.ev e he with x|x
  .exact(h.ev e x).imp id λx=>x.mono λb hb=>hb.imp id λhb=>⟨hb.1,by omega⟩
  .exact .inr (g▸x)
theorem pe.still(es:Array Event)(h:Vw V RO wL wR):pe V RO wL wL wR wR es es:=⟨by rw[dE _ rfl];exact h,λ_ _ _=>rfl,⟨Nat.le_refl _,Nat.le_refl _⟩,rfl,rfl,rfl,rfl,rfl,λe he=>.inl he⟩
theorem pe.set{TE:World}(h:Vw V RO wL wR)(hr:V r)(f:Obj->Obj)(hf:∀o,wL.heap[r]?=some o->gO (f o)=true)(hL:TE={wL with heap:=wL.heap.modify r f})(hR:Rc={wR with heap:=wR.heap.modify r f}){e:Event}(he:eC V RO e):pe V RO wL TE wR Rc es (es.push e):=by
 subst hL hR;have sz:({wL with heap:=wL.heap.modify r f}:World).heap.size=wL.heap.size:=by simp
 refine⟨?_,λb _ hn=>?_,⟨by simp,Nat.le_refl _⟩,by simp,rfl,rfl,rfl,rfl,λx hx=>?_⟩
 .rw[dE _ sz];exact h.set hr f hf rfl rfl rfl rfl
 .have:r≠b:=λe=>hn (e▸hr);simp[Array.getElem?_modify,this]
 .rw[dE _ sz];rcases Array.mem_push.1 hx with hx|rfl
  .exact .inl hx
  .exact .inr he
theorem lK{o:Obj}:w.heap.setIfInBounds r o=w.heap.modify r λ_=>o:=by
 apply Array.ext
 .simp
 .intro i h1 h2;simp only[Array.getElem_setIfInBounds (by simpa using h1),Array.getElem_modify]
theorem Qz{α:Type}{s:Sem α}(hf:aG P s):∀{V RO:Nat->Prop} {wL wR:World} {es Rr:Array Event} {r:Result α},Vw V RO wL wR->s.runT P wL es=(r,Rr)->rl r=true->(wL.heap.size=wR.heap.size\/(tT r).heap.size=wL.heap.size)->(wL.drawn=wR.drawn\/(tT r).drawn=wL.drawn)->
 ∃Rc,s.runT P wR es=(Dm Rc r,Rr)/\pe V RO wL (tT r) wR Rc es Rr:=by
 induction hf with
 |pure a=>
  intro V RO wL wR es Rr r hv hr _ _ _;cases hr;exact⟨wR,rfl,.still _ hv⟩
 |halt h=>
  intro V RO wL wR es Rr r hv hr _ _ _;cases hr;exact⟨wR,rfl,.still _ hv⟩
 | @load a k _ ih=>
   intro V RO wL wR es Rr r hv hr hl ha hd;simp only[Sem.runT]at hr⊢;cases hc:wL.cell? a with
   |none=>
    obtain⟨x,h1,h2⟩:=(hv.far P (a:=a) (q:=false)).1;rw[hc]at hr;rw[show(Mode.plain==Mode.atomic)=false from rfl,h1]at hr;cases hr;rw[rl,h2]at hl;cases hl
   |some v=>
    obtain⟨h1,h2⟩:=hv.cell hc;rw[hc]at hr;rw[h1];obtain⟨Rc,q1,q2⟩:=ih v hv hr hl ha hd;refine⟨Rc,q1,{q2 with ev:=λe he=>?_}⟩;rcases q2.ev e he with x|x
    .rcases Array.mem_push.1 x with x|rfl
     .exact .inl x
     .exact .inr ⟨rfl,h2.imp .inl λh=>⟨h.1,rfl⟩⟩
    .exact .inr x
 | @store a v k _ ih=>
   intro V RO wL wR es Rr r hv hr hl ha hd;have Um:Lh v=true:=by
    cases v<;>first|rfl|(simp only[Sem.runT]at hr;cases hr;cases hl)
   rw[qG Um]at hr⊢;cases hc:wL.cell? a with
   |none=>
    obtain⟨x,h1,h2⟩:=(hv.far P (a:=a) (q:=false)).2 v;rw[hc]at hr;rw[show(Mode.plain==Mode.atomic)=false from rfl]at hr;dsimp only at hr;rw[h1]at hr;cases hr;rw[rl,h2]at hl;cases hl
   |some u=>
    obtain⟨h1,h2⟩:=hv.cell hc;rw[hc]at hr;rw[h1];dsimp only at hr⊢;cases hz:wL.frozen? a with
    |true=>rw[hz]at hr;cases hr;cases hl
    |false=>
     rw[hz]at hr;have hV:V a.block:=h2.elim id λh=>by rw[hz]at h;cases h.2
     have hzR:wR.frozen? a=false:=by
      rw[←hz];unfold World.frozen?;rw[hv.mine _ hV]
     rw[hzR];have hD:pe V RO wL (wL.setCell a v) wR (wR.setCell a v) es (es.push ⟨.cell a,true,false⟩):=by
      refine pe.set hv hV _ (λo ho=>?_) rfl rfl ⟨rfl,.inl hV⟩;have:=hv.calm _ _ hV ho;cases o<;>first|rfl|exact this
     have sz:(wL.setCell a v).heap.size=wL.heap.size:=(by simp[World.setCell]);have szR:(wR.setCell a v).heap.size=wR.heap.size:=(by simp[World.setCell]);have S9:=hD.vw;rw[dE _ sz]at S9;obtain⟨Rc,q1,q2⟩:=ih S9 hr hl (by rw[sz,szR];exact ha) hd;refine⟨Rc,q1,hD.trans (.inr sz) ?_⟩;rw[dE _ sz];exact q2
 | @new o k ho _ ih=>
   intro V RO wL wR es Rr r hv hr hl ha hd;have hself:=hv.self.push rfl ho;obtain⟨_,_,m⟩:=ih _ hself hr hl (.inl rfl) (.inl rfl);have hm:=m.mono.1;simp only[Array.size_push]at hm;have he:wL.heap.size=wR.heap.size:=ha.elim id λh=>by omega
   have hp:=hv.push he ho;rw[Sem.runT]at hr⊢;rw[←he];obtain⟨Rc,q1,q2⟩:=ih wL.heap.size hp hr hl (.inl (by simp[he])) hd;refine⟨Rc,q1,pe.trans (w1:={wL with heap:=wL.heap.push o}) (w2:={wR with heap:=wR.heap.push o}) (e1:=es) (.inl he) ⟨?_,λb hb _=>?_,by simp,by simp;omega,rfl,rfl,rfl,rfl,λe he=>.inl he⟩ ?_⟩
   .exact hp
   .exact Array.getElem?_push_lt hb▸(Array.getElem?_eq_getElem hb).symm
   .exact q2
 | @getObj r k _ ih=>
   intro V RO wL wR es Rr rr hv hr hl ha hd;simp only[Sem.runT]at hr⊢;cases hb:wL.heap[r]? with
   |none=>rw[hb]at hr;cases hr;cases hl
   |some o=>
    rw[hb]at hr;have key:(∀c e f,o≠ .cells c e f)->(k o).runT P wL (es.push ⟨.obj r,false,o.isChan⟩)=(rr,Rr)->∃Rc,(k o).runT P wR (es.push ⟨.obj r,false,o.isChan⟩)=(Dm Rc rr,Rr)/\pe V RO wL (tT rr) wR Rc es Rr/\wR.heap[r]?=some o:=λhn hr=>by
     have hV:=hv.obj hb hn;have hq:=hv.calm _ _ hV hb;obtain⟨Rc,q1,q2⟩:=ih o hq hv hr hl ha hd;refine⟨Rc,q1,{q2 with ev:=λe he=>?_},(hv.mine _ hV).symm.trans hb⟩;rcases q2.ev e he with x|x
     .rcases Array.mem_push.1 x with x|rfl
      .exact .inl x
      .refine .inr ⟨?_,.inl hV⟩;cases o<;>first|rfl|cases hq
     .exact .inr x
    cases o with
    |cells c e f=>cases hr;cases hl
    |_=>
     obtain⟨Rc,q1,q2,q3⟩:=key (λc e f=>by simp) hr;rw[q3];exact⟨Rc,q1,q2⟩
 | @setObj r o k ho _ ih=>
   intro V RO wL wR es Rr rr hv hr hl ha hd;simp only[Sem.runT]at hr⊢;cases hb:wL.heap[r]? with
   |none=>rw[hb]at hr;cases hr;cases hl
   |some x=>
    rw[hb]at hr;have key:(∀c e f,x≠ .cells c e f)->k.runT P {wL with heap:=wL.heap.setIfInBounds r o} (es.push ⟨.obj r,true,o.isChan⟩)=(rr,Rr)->∃Rc,k.runT P {wR with heap:=wR.heap.setIfInBounds r o} (es.push ⟨.obj r,true,o.isChan⟩)=(Dm Rc rr,Rr)/\pe V RO wL (tT rr) wR Rc es Rr/\wR.heap[r]?=some x:=λhn hr=>by
     have hV:=hv.obj hb hn;have hD:pe V RO wL {wL with heap:=wL.heap.setIfInBounds r o} wR {wR with heap:=wR.heap.setIfInBounds r o} es (es.push ⟨.obj r,true,o.isChan⟩):=
      pe.set hv hV (λ_=>o) (λ_ _=>ho) (by rw[lK]) (by rw[lK]) ⟨(by cases o<;>first|rfl|cases ho),hV⟩
     have sz:({wL with heap:=wL.heap.setIfInBounds r o}:World).heap.size=wL.heap.size:=(by simp);have S9:=hD.vw;rw[dE _ sz]at S9;obtain⟨Rc,q1,q2⟩:=ih S9 hr hl (by simpa using ha) hd;refine⟨Rc,q1,hD.trans (.inr sz) ?_,(hv.mine _ hV).symm.trans hb⟩;rw[dE _ sz];exact q2
    cases x with
    |cells c e f=>cases hr;cases hl
    |_=>
     obtain⟨Rc,q1,q2,q3⟩:=key (λc e f=>by simp) hr;rw[q3];exact⟨Rc,q1,q2⟩
 | @choose q k _ ih=>
   intro V RO wL wR es Rr r hv hr hl ha hd;simp only[Sem.runT]at hr⊢;split at hr
   .rename_i hq;rw[if_pos hq];exact ih _ hv hr hl ha hd
   .rename_i hq;rw[if_neg hq];have up:∀{V RO:Nat->Prop} {w w':World},Vw V RO w w'->Vw V RO {w with drawn:=w.drawn+1} {w' with drawn:=w'.drawn+1}:=λh=>⟨h.size,h.low,h.mine,h.calm,h.ro,h.dead,h.tape⟩;obtain⟨_,_,m⟩:=ih _ (up hv.self) hr hl (.inl rfl) (.inl rfl);have hm:=m.mono.2;dsimp only at hm;have he:wL.drawn=wR.drawn:=hd.elim id λh=>by omega
    have S9:=up hv;have e1:wR.tape wR.drawn q=wL.tape wL.drawn q:=(by rw[hv.tape,he]);rw[e1];obtain⟨Rc,q1,q2⟩:=ih _ S9 hr hl ha (.inl (by dsimp only;omega));refine⟨Rc,q1,⟨q2.vw,q2.keep,⟨q2.mono.1,by omega⟩,q2.more,?_,q2.os,q2.output,q2.tape,q2.ev⟩⟩;have:=q2.drew;dsimp only at this;omega
 |program _ ih=>
  intro V RO wL wR es Rr r hv hr hl ha hd;exact ih hv hr hl ha hd
 | @mark m k hm _ ih=>
   intro V RO wL wR es Rr r hv hr hl ha hd;obtain⟨Rc,q1,q2⟩:=ih hv hr hl ha hd;refine⟨Rc,q1,{q2 with ev:=λe he=>?_}⟩;rcases q2.ev e he with x|x
   .rcases Array.mem_push.1 x with x|rfl
    .exact .inl x
    .exact .inr hm
   .exact .inr x
 | @eqv s s' h _ ih=>
   intro V RO wL wR es Rr r hv hr hl ha hd;rw[h]at hr⊢;exact ih hv hr hl ha hd
 | @dead s h=>
   intro V RO wL wR es Rr r hv hr hl ha hd;have:=h wL;rw[Sem.runT_eq]at hr;cases hr;rw[hl]at this;cases this

theorem nS{xs:Array Obj}{k:Nat}{f:Obj->Obj}(h:k≠i):(xs.modify i f)[k]?=xs[k]?:=by
 rw[Array.getElem?_modify,if_neg (λe=>h e.symm)]
abbrev cQ(fr:Frame)(cs:List Frame):Goroutine:={frame:=fr,callers:=cs,status:=.running,dying:=none}
def JV:Next->Bool
 | .value _| .skip| .enter ..| .round ..=>true
 |_=>false
def jY(P:Program)(fr:Frame)(cs:List Frame):Next->Goroutine
 | .value v=>{frame:=fr.finish v,callers:=cs,status:=.running,dying:=none}
 | .enter f args=>{frame:=Frame.enter P f args .normal,callers:=fr::cs,status:=.running,dying:=none}
 | .round l f tmps a b=>{frame:=Frame.round l f tmps a b .normal,callers:=fr::cs,status:=.running,dying:=none}
 |_=>{frame:=fr.finish undef,callers:=cs,status:=.running,dying:=none}
def jP(fr:Frame):Prop:=∀d w r s k,fr.todo≠ .call d w r s::k
section
variable{s:Sem Next}
theorem ij(hc:jP fr){n:Next}(hr:s.runT P w #[]=(.ok n w',es))(hn:JV n=true):
 stepG.apply P true fr cs none s w=.go (jY P fr cs n) w' (seen P fr.fn (if fr.kind== .early then #[]else es)):=by
 have hk:=hc;unfold stepG.apply;simp only[hr,↓reduceIte];cases n with
 |enter f args=>
  simp only[GStep.after,jY,Array.append_empty];split
  .rename_i e;exact absurd e (hk _ _ _ _ _)
  .rfl
 |_=>first
  |(simp[JV]at hn;done)
  |simp[GStep.after,jY]
def Le(fr:Frame)(cs:List Frame)(v:Value):Goroutine:={frame:=fr.raise [{v,recovered:=false}],callers:=cs,status:=.running,dying:=none}
theorem Ec(hr:s.runT P w #[]=(.halt (.panic v) w',es)):
 stepG.apply P true fr cs none s w=.go (Le fr cs v) w' (seen P fr.fn (if fr.kind== .early then #[]else es)):=by
 unfold stepG.apply;simp only[hr,↓reduceIte,GStep.after,Array.append_empty];rfl
end
theorem cO(P:Program)(fn:FuncId)(es:Array Event):∀e∈seen P fn es,e∈es:=by
 intro e he;unfold seen at he;dsimp only at he;revert he;refine Array.foldl_induction (motive:=λ_ (x:Bool×Array Event)=>e∈x.2->e∈es) s_ ?_;intro i acc ih;obtain⟨q,kept⟩:=acc;dsimp only;split
 .exact ih
 .intro h;dsimp only at h;split at h
  .exact ih h
  .rcases Array.mem_push.1 h with h|h
   .exact ih h
   .rw[h];exact Array.getElem_mem _
def eZ(fr:Frame):Option (List Item):=
 match fr.todo with
 | .inRegion _ []::k=>some k
 | .inScope _::k=>some k
 | .inBlock _::k=>some k
 | .inLoop b::k=>some (.code b:: .inLoop b::k)
 | .code c::k=>
   match c with
   | .label _=>some k
   | .skip=>some k
   | .region _ ops false=>some (.inRegion ops (List.range ops.size)::k)
   | .exit id=>exitTo id k
   | .scope b=>some (.code b:: .inScope b::k)
   | .loop b=>some (.code b:: .inLoop b::k)
   | .block id b=>some (.code b:: .inBlock id::k)
   | .cond x a b=>match fr.eval x with| .bool q=>some (.code (if q then a else b)::k)|_=>none
   | .seq a b=>some (.code a:: .code b::k)
   |_=>none
 |_=>none
theorem qT{main:Bool}{t:List Item}(h:eZ fr=some t):
 stepG.exec P main listen fr cs none w=.go {frame:={fr with todo:=t},callers:=cs,status:=.running,dying:=none} w:=by
 obtain⟨fn,tmps,todo,defers,mode,kind,roundOf⟩:=fr;unfold eZ at h;unfold stepG.exec;cases todo with
 |nil=>cases h
 |cons i k=>
  cases i with
  |code c=>
   cases c with
   |region id ops draw=>cases draw<;>first|(cases h;rfl)|cases h
   |exit id=>simp only at h⊢;rw[h];rfl
   |cond c a b=>
    simp only at h⊢;split at h
    .rename_i q e;cases h;rw[e]
    .cases h
   |_=>first|(cases h;rfl)|cases h
  |inRegion ops todo=>cases todo<;>first|(cases h;rfl)|cases h
  |_=>first|(cases h;rfl)|cases h
theorem cZ(hm:fr.mode=.run)(main:Bool)(cs:List Frame)(w:World):stepG P main {frame:=fr,callers:=cs,status:=.running,dying:=none} w=stepG.exec P main true fr cs none w:=by
 unfold stepG;simp only[hm]
theorem jD{main:Bool}{k:List Item}{o:Oper}
 (ht:fr.todo=.inRegion ops (i::rest)::k) (ho:ops[i]?=some o) (hw:Region.wanted o (yielded ops fr.tmps)=true) (QH:∀c,o.op≠ .defer c):
 stepG.exec P main listen fr cs none w=stepG.apply P listen fr cs none (execOp fr.eval o) w:=by
 unfold stepG.exec;simp only[ht,ho,Option.map_some,Option.getD_some,hw,↓reduceIte];unfold stepG.oper;simp only[Frame.oper?,ht,ho];split
 .rename_i e;exact absurd e (QH _)
 .rfl
theorem tc{main:Bool}{id:Nat}{k:List Item}{t:Nat}
 (ht:fr.todo=.code (.region id ops true)::k) (hr:(choose (.order fr.fn id)).run P w=.ok t w'):
 stepG.exec P main listen fr cs none w=.go {frame:={fr with todo:=.inRegion ops (Region.schedule (P.follows .mixedOrders) ops t)::k},callers:=cs,status:=.running,dying:=none} w':=by
 unfold stepG.exec;simp only[ht,hr,Bool.not_true,Bool.false_eq_true,↓reduceIte]
def Pg(fr:Frame):Prop:=fr.roundOf=none/\(fr.todo=[]\/∃k,fr.todo=.code .ret::k)
theorem rC{main:Bool}(h:Pg fr):
 stepG.exec P main listen fr cs none w=.go {frame:={fr with mode:=.returning},callers:=cs,status:=.running,dying:=none} w:=by
 obtain⟨h1,h2|⟨k,h2⟩⟩:=h<;>unfold stepG.exec<;>simp only[h1,h2]<;>rfl
def kQ(c:Frame):Frame:=
 match c.mode with
 | .panicking ({recovered:=true, ..}::TK)=>
   match TK.dropWhile (!·.goexit)with
   |[]=>{c with mode:=.returning}
   |rest=>{c with mode:=.panicking rest}
 |_=>c
def back(kd:CallKind)(c:Frame)(v:Value):Frame:=if kd=.deferred then kQ c else c.finish v
theorem j4{main:Bool}{c:Frame}(hk:fr.kind=.normal\/fr.kind=.deferred):
 doReturn P main fr (c::cs) none v w=.go {frame:=back fr.kind c v,callers:=cs,status:=.running,dying:=none} w:=by
 rcases hk with hk|hk<;>simp only[doReturn,back,hk,kQ]<;>rfl
theorem sA{main:Bool}{c:Frame}(hd:fr.defers=[])(hm:fr.mode=.returning)(hk:fr.kind=.normal\/fr.kind=.deferred)(hf:P.funcs[fr.fn]?=some fn)
 (hr:(results fn fr.tmps).runT P w #[]=(.ok v w',es)):unwind P main fr (c::cs) none w=.go {frame:=back fr.kind c v,callers:=cs,status:=.running,dying:=none} w' (seen P fr.fn es):=by
 unfold unwind;simp only[hd,hm,hf,hr,j4 hk,GStep.after,Array.append_empty]
def mb(fr:Frame):Sem Next:=do fr.roundOf.elim (stuck "beginRound: no round") Instr.beginRound;pure .skip
theorem rE{main:Bool}{k:List Item}(ht:fr.todo=.beginRound::k):
 stepG.exec P main listen fr cs none w=stepG.apply P listen fr cs none (mb fr) w:=by
 unfold stepG.exec;simp only[ht];rfl
theorem jW{main:Bool}{l:Nat}{k:List Item}{jump:Option Code}(ht:fr.todo=.endRangeFunc l::k)
 (hr:(Instr.endLoop l).runT P w #[]=(.ok jump w',es)):stepG.exec P main listen fr cs none w=.go {frame:={fr with todo:=(jump.map Item.code).toList++k},callers:=cs,status:=.running,dying:=none} w' (seen P fr.fn es):=by
 unfold stepG.exec;simp only[ht,hr,GStep.after,Array.append_empty]
inductive oo (fr:Frame):Option Code->Prop
 |done (h:fr.todo=[]):oo fr none
 |ret {k:List Item} (h:fr.todo=.code .ret::k):oo fr (some .ret)
 |exit {id:Nat} {k:List Item} (h:fr.todo=.code (.exit id)::k) (he:exitTo id k=none):oo fr (some (.exit id))
theorem wt{main:Bool}{c:Frame}{l:Nat}{j:Option Code}(hj:oo fr j)(hl:fr.roundOf=some l)(hk:fr.kind=.normal\/fr.kind=.deferred)
 (hr:(Instr.endRound l j).runT P w #[]=(.ok v w',es)):stepG.exec P main listen fr (c::cs) none w=.go {frame:=back fr.kind c v,callers:=cs,status:=.running,dying:=none} w' (seen P fr.fn es):=by
 unfold stepG.exec;cases hj with
 |done h=>simp only[h,hl,hr,j4 hk,GStep.after,Array.append_empty]
 |ret h=>simp only[h,hl,hr,j4 hk,GStep.after,Array.append_empty]
 |exit h he=>simp only[h,he,Option.elim_none,hl,hr,j4 hk,GStep.after,Array.append_empty]
theorem m8{main:Bool}{c:Frame}{l:Nat}{j:Option Code}(hj:oo fr j)(hl:fr.roundOf=some l)(hk:fr.kind=.normal)
 (hr:(Instr.endRound l j).runT P w #[]=(.ok v w',es)):stepG.exec P main listen fr (c::cs) none w=.go {frame:=c.finish v,callers:=cs,status:=.running,dying:=none} w' (seen P fr.fn es):=by
 have:=wt (main:=main) (listen:=listen) (c:=c) (cs:=cs) hj hl (.inl hk) hr;simpa only[back,hk,reduceCtorEq,↓reduceIte]using this
def sL(f:Operand)(l:Nat):Call:={callee:=.value f,args:=#[.const (.func (.yield l) #[] #[])],argTypes:=#[]}
def ky(fr:Frame)(f:Operand)(l:Nat):Sem Next:=do let d←resolve fr.eval (sL f l) 0;invoke d.target d.args
def i2(fr:Frame)(k:List Item)(l:Nat)(mark:List Deferred):Frame:={fr with todo:=.inRangeFunc l::k,defers:=mark++fr.defers}
theorem rB{main:Bool}{f:Operand}{ps:Array Tmp}{a b:Code}{k:List Item}{l:Nat}{mark:List Deferred}
 (ht:fr.todo=.code (.rangeFunc f ps a b)::k) (hr:(Instr.enterLoop fr.fn fr.tmps ps a b fr.roundOf).runT P w #[]=(.ok (l,mark) w1,es)):
 stepG.exec P main listen fr cs none w=GStep.after (seen P fr.fn es) (stepG.apply P listen (i2 fr k l mark) cs none (ky (i2 fr k l mark) f l) w1):=by
 unfold stepG.exec;simp only[ht,hr];rfl
theorem jm(hf:P.funcs[f]?=some fn)(QV:(fn.name== "runtime.NumGoroutine")=false)(hb:fn.body.isNone=false)(args:Array Value):(callFunc f args).runT P w #[]=(.ok (.enter f args) w,#[]):=by
 have h1:¬fn.name= "runtime.NumGoroutine" :=by simpa using QV
 have h2:¬fn.body=none:=λe=>by rw[e]at hb;simp at hb
 simp[-Sem.runT_eq,callFunc,bind,Sem.bind,Sem.runT,pure,program,hf,h1,h2]
theorem mt(hf:P.funcs[f]?=some fn)(QV:(fn.name== "runtime.NumGoroutine")=false)(hb:fn.body.isNone=false){cap:Array Value}(hx:fr.eval x=.func (.func f) first cap)(l:Nat):
 (ky fr x l).runT P w #[]=(.ok (.enter f (first++#[.func (.yield l) #[] #[]]++cap)) w,#[]):=by
 have e:ky fr x l=callFunc f (first++#[.func (.yield l) #[] #[]]++cap):=by
  unfold ky resolve sL Deferred.ofValue;simp only[hx];simp[invoke,bind,Sem.bind,pure,Frame.eval]
 rw[e,jm hf QV hb]
def bU(w:World)(r:Loop):World:=(w.alloc (.deferred (some []))).alloc (.loop r)
theorem aX(w:World)(r:Loop)(hb:b<w.heap.size):(bU w r).heap[b]?=w.heap[b]?:=by
 show((w.heap.push _).push _)[b]?=_;rw[Array.getElem?_push,if_neg (by rw[Array.size_push];omega),Array.getElem?_push,if_neg o_]
theorem dK(w:World)(r:Loop):(bU w r).heap[w.heap.size]?=some (.deferred (some [])):=by
 show((w.heap.push _).push _)[w.heap.size]?=_;rw[Array.getElem?_push,if_neg (by rw[Array.size_push];omega),Array.getElem?_push,if_pos rfl]
theorem dJ(w:World)(r:Loop):(bU w r).heap[w.heap.size+1]?=some (.loop r):=by
 show((w.heap.push _).push _)[w.heap.size+1]?=_;rw[Array.getElem?_push,if_pos (by rw[Array.size_push])]
def aO(w:World)(l:Nat)(r:Loop):World:={w with heap:=w.heap.setIfInBounds l (.loop r)}
theorem wD{gg:FuncId}{m:Bool}{f:Frame}{xs:List Frame}{g:Func}{cp Yt:Array Value}{es:List Deferred}(h1:f.defers=⟨.fn (.func gg) cp,Yt⟩::es)(h2:P.funcs[gg]?=some g)(h3:g.body.isSome=true)(h4:g.name≠ "runtime.NumGoroutine"):
 unwind P m f xs none w=.go {frame:=Frame.enter P gg (Yt++cp) .deferred,callers:={f with defers:=es}::xs,status:=.running,dying:=none} w:=by
 have hr:(invoke (.fn (.func gg) cp) Yt).runT P w #[]=(.ok (.enter gg (Yt++cp)) w,#[]):=by
  have h4':(g.name== "runtime.NumGoroutine")=false:=by simpa using h4
  have h3':g.body.isNone=false:=by rw[Option.isNone_eq_false_iff];exact h3
  show(callFunc gg (Yt++cp)).runT P w #[]=_;unfold callFunc
  change (match P.funcs[gg]? with|none=>_|some fn=>_:Sem Next).runT P w #[]=_
  rw[h2];simp only[h4',h3',Bool.false_eq_true,↓reduceIte];rfl
 unfold unwind;simp only[h1];unfold callDeferred;simp only[hr];simp[GStep.after,seen]
section
variable{main:Bool}{fr' c:Frame}{cs':List Frame}
def NU(P:Program)(main:Bool)(fr:Frame)(cs:List Frame)(w:World)(fr':Frame)(cs':List Frame)(w':World):Prop:=
 ∀V RO wR,Vw V RO w wR->(w.heap.size=wR.heap.size\/w'.heap.size=w.heap.size)->(w.drawn=wR.drawn\/w'.drawn=w.drawn)->∃Rc es,stepG P main (cQ fr cs) wR=.go (cQ fr' cs') Rc es/\pe V RO w w' wR Rc #[] es
theorem pe.sub{TE:World}{Rr Wu:Array Event}(h:pe V RO wL TE wR Rc es Rr)(hs:∀e∈Wu,e∈Rr):pe V RO wL TE wR Rc es Wu:={h with ev:=λe he=>h.ev e (hs e he)}
theorem Dj(h:∀w,stepG P main (cQ fr cs) w=.go (cQ fr' cs') w #[]):NU P main fr cs w fr' cs' w:=λ_ _ wR hv _ _=>⟨wR,#[],h wR,.still _ hv⟩
def dA{α:Type}(P:Program)(w:World)(s:Sem α):Prop:=∀V RO wR es r Rr,Vw V RO w wR->s.runT P w es=(r,Rr)->rl r=true->(w.heap.size=wR.heap.size\/(tT r).heap.size=w.heap.size)->(w.drawn=wR.drawn\/(tT r).drawn=w.drawn)->∃Rc,s.runT P wR es=(Dm Rc r,Rr)/\pe V RO w (tT r) wR Rc es Rr
theorem aG.wW{α:Type}{s:Sem α}(h:aG P s):dA P w s:=λ_ _ _ _ _ _ hv hr hl ha hd=>Qz h hv hr hl ha hd
theorem dA.shape{α:Type}{k:Option (TypeId×Nat)->Sem α}{c:Array Value}{e:TypeId}{z:Nat×Nat}(hb:w.heap[r]?=some (.cells c e z))(hc:0<c.size)(h:dA P w (k (some (e,c.size)))):dA P w (.shape r k):=λV RO wR es r' Rr hv hr hl ha hd=>by
 have hs:∀{w1:World} {z1},w1.heap[r]?=some (.cells c e z1)->w1.shape? r=some (e,c.size):=λh1=>by unfold World.shape?;rw[h1]
 have hR:∃z1,wR.heap[r]?=some (.cells c e z1):=by
  have QK:=(Array.getElem?_eq_some_iff.1 hb).1;by_cases h1:V r
  .exact⟨z,(hv.mine r h1).symm.trans hb⟩
  .by_cases h2:RO r
   .obtain⟨c',e',z',q1,q2⟩:=hv.ro r h2 h1 QK;rw[q2]at hb;cases hb;exact⟨z',q1⟩
   .obtain⟨e',z',q⟩:=hv.dead r QK h1 h2;rw[q]at hb;cases hb;simp at hc
 obtain⟨z1,hR⟩:=hR;simp only[Sem.runT,hs hb,hs hR]at hr⊢;exact h V RO wR es r' Rr hv hr hl ha hd
theorem dA.freeze{α:Type}{a:Addr}{k:Sem α}{c:Array Value}{e:TypeId}{z:Nat×Nat}(hb:w.heap[a.block]?=some (.cells c e z))(hc:0<c.size)(hz:z≠(0,c.size))(h:dA P (w.freeze a n) k):dA P w (.freeze a n k):=λV RO wR es r' Rr hv hr hl ha hd=>by
 have hV:V a.block:=by
  have QK:=(Array.getElem?_eq_some_iff.1 hb).1;refine Classical.byContradiction λh1=>?_;by_cases h2:RO a.block
  .obtain⟨c',e',z',q1,q2⟩:=hv.ro _ h2 h1 QK;rw[q2]at hb;injection hb with hb;injection hb with QM _ QW;rw[QM]at QW;exact hz QW.symm
  .obtain⟨e',z',q⟩:=hv.dead _ QK h1 h2;rw[q]at hb;cases hb;simp at hc
 simp only[Sem.runT]at hr⊢;have sz:∀w:World,(w.freeze a n).heap.size=w.heap.size/\(w.freeze a n).drawn=w.drawn:=λw=>by unfold World.freeze;split<;>simp
 have hD:pe V RO w (w.freeze a n) wR (wR.freeze a n) es es:=by
  unfold World.freeze;split
  .exact .still _ hv
  .have:=pe.set (es:=es) (e:=⟨.mark .noRoom,false,true⟩) hv hV (λo=>match o with| .cells c elem (lo,hi)=>.cells c elem (if lo==hi then(a.off,a.off+n)else(min lo a.off,max hi (a.off+n)))|o=>o) (λo ho=>by have:=hv.calm _ _ hV ho;cases o<;>first|rfl|exact this) rfl rfl rfl;exact this.sub λe he=>Array.mem_push.2 (.inl he)
 have S9:=hD.vw;rw[dE _ (sz w).1]at S9;obtain⟨Rc,q1,q2⟩:=h V RO (wR.freeze a n) es r' Rr S9 hr hl (by rw[(sz w).1,(sz wR).1];exact ha) (by rw[(sz w).2,(sz wR).2];exact hd);exact⟨Rc,q1,hD.trans (.inr (sz w).1) (by rw[dE _ (sz w).1];exact q2)⟩
theorem mn{α:Type}{s:Sem α}{r:Result α}(hf:dA P w s)(hr:s.run P w=r)(hl:rl r=true)(hw:tT r=w')(hs:∀wR Rc es,s.runT P wR #[]=(Dm Rc r,es)->∃Rr,stepG P main (cQ fr cs) wR=.go (cQ fr' cs') Rc Rr/\∀e∈Rr,e∈es):NU P main fr cs w fr' cs' w':=λV RO wR hv ha hd=>by
 subst hw;obtain⟨Rc,q1,q2⟩:=hf V RO wR #[] r ((s.runT P w #[]).2) hv (by rw[Sem.runT_eq,hr]) hl ha hd;obtain⟨Rr,h1,h2⟩:=hs wR Rc _ q1;exact⟨Rc,Rr,h1,q2.sub h2⟩
end

structure iJ where
 P:Program
 pad:Bool
 ax:FuncId->Array Value->World->(Value->World->Prop)->Prop
structure so (q:Bool) (w w1:World):Prop where
 heap:∃n,(q=false->n=0)/\w1.heap=w.heap++Array.replicate n (.cells #[] 0)
 tape:w1.tape=w.tape
 os:w1.os=w.os
 output:w1.output=w.output
structure Lg (C:iJ) where
 main:Bool
 ok:Frame->List Frame->World->Prop
 step:∀{fr cs w fr' cs' w'},NU C.P main fr cs w fr' cs' w'->(C.pad=true->w'.heap.size=w.heap.size)->w'.drawn=w.drawn->ok fr' cs' w'->ok fr cs w
 any:∀{fr cs w},(∀w1,so C.pad w w1->∃fr' cs' w',NU C.P main fr cs w1 fr' cs' w'/\ok fr' cs' w')->ok fr cs w
 call:∀{f args w Q c cs},C.ax f args w Q->(∀v w',Q v w'->ok (c.finish v) cs w')->ok (Frame.enter C.P f args .normal) (c::cs) w
def Rn(C:iJ)(Goal:Goroutine->World->Prop)(fr:Frame)(cs:List Frame)(w:World):Prop:=∀L:Lg C,(∀fr cs w,Goal (cQ fr cs) w->L.ok fr cs w)->L.ok fr cs w
def Cl(C:iJ)(f:FuncId)(args:Array Value)(w:World)(R:Ending->World->Prop):Prop:=
 ∀(L:Lg C) c cs,(∀v w',R (.returned v) w'->L.ok (c.finish v) cs w')->(∀ch w',R (.panicked ch) w'->L.ok (c.raise ch) cs w')->L.ok (Frame.enter C.P f args .normal) (c::cs) w
structure Rk (C:iJ) (ev:Operand->Value) (o:Oper) (w:World) (nx:Next) (w':World):Prop where
 run:(execOp ev o).run C.P w=.ok nx w'
 fair:aG C.P (execOp ev o)
 size:C.pad=true->w'.heap.size=w.heap.size
 drew:w'.drawn=w.drawn
section
variable{C:iJ}{b:Frame}{k:List Item}{cs':List Frame}{fr':Frame}{R:Ending->World->Prop}
theorem Cl.mono{R':Ending->World->Prop}(h:Cl C f args w R)(hR:∀e w',R e w'->R' e w'):Cl C f args w R':=λL c cs h1 h2=>h L c cs (λv w' h=>h1 v w' (hR _ _ h)) λch w' h=>h2 ch w' (hR _ _ h)
theorem Rn.now(h:Goal (cQ fr cs) w):Rn C Goal fr cs w:=λ_ hG=>hG _ _ _ h
theorem Rn.step(hs:∀main,NU C.P main fr cs w fr' cs' w')(hz:C.pad=true->w'.heap.size=w.heap.size)(hd:w'.drawn=w.drawn)(h:Rn C Goal fr' cs' w'):Rn C Goal fr cs w:=λL hG=>L.step (hs _) hz hd (h L hG)
theorem Rn.same(hs:∀main w,stepG C.P main (cQ fr cs) w=.go (cQ fr' cs') w #[])(h:Rn C Goal fr' cs' w):Rn C Goal fr cs w:=Rn.step (λm=>Dj (hs m)) (λ_=>rfl) rfl h
theorem Rn.exec(hm:fr.mode=.run)(hs:∀main w,stepG.exec C.P main true fr cs none w=.go (cQ fr' cs') w #[])(h:Rn C Goal fr' cs' w):Rn C Goal fr cs w:=Rn.same (λm w=>(cZ hm m cs w).trans (hs m w)) h
theorem Rn.plain{t:List Item}(hp:eZ (b.atR a k)=some t)(h:Rn C Goal (b.atR a t) cs w):Rn C Goal (b.atR a k) cs w:=Rn.exec rfl (λ_ _=>qT hp) h
theorem Rn.region{id:Nat}{L:List Nat}(hL:List.range ops.size=L)(h:Rn C Goal (b.atR a (.inRegion ops L::k)) cs w):Rn C Goal (b.atR a (.code (.region id ops false)::k)) cs w:=Rn.plain rfl (by rw[hL];exact h)
theorem Rn.cond{A B:Code}(q:Bool)(hq:a.eval x=.bool q)(h:Rn C Goal (b.atR a (.code (if q then A else B)::k)) cs w):Rn C Goal (b.atR a (.code (.cond x A B)::k)) cs w:=by
 refine Rn.plain (t:=.code (if q then A else B)::k) ?_ h;have e:(b.atR a (.code (.cond x A B)::k)).eval x=.bool q:=by rw[Frame.eval_atR];exact hq
 show(match (b.atR a (.code (.cond x A B)::k)).eval x with| .bool q=>some (Item.code (if q then A else B)::k)|_=>none)=_;rw[e]
theorem Rn.tree{α:Type}{s:Sem α}{v:α}(hf:dA C.P w s)(hr:s.run C.P w=.ok v w')(hs:∀main wR Rc es,s.runT C.P wR #[]=(.ok v Rc,es)->∃Rr,stepG C.P main (cQ fr cs) wR=.go (cQ fr' cs') Rc Rr/\∀e∈Rr,e∈es)(hz:C.pad=true->w'.heap.size=w.heap.size)(hd:w'.drawn=w.drawn)
 (h:Rn C Goal fr' cs' w'):Rn C Goal fr cs w:=Rn.step (λm=>mn hf hr rfl rfl (hs m)) hz hd h
section
variable{o:Oper}
theorem u7(ho:ops[n]?=some o)(hw:Region.wanted o (yielded ops a.tmps)=true)(QT:∀c,o.op≠ .defer c){nx:Next}(hn:JV nx=true)(hg:jY P (b.atR a (.inRegion ops (n::rest)::k)) cs nx=cQ fr' cs')(main:Bool)(wR Rc:World)(es:Array Event)(hr:(execOp a.eval o).runT P wR #[]=(.ok nx Rc,es)):
 ∃Rr,stepG P main (cQ (b.atR a (.inRegion ops (n::rest)::k)) cs) wR=.go (cQ fr' cs') Rc Rr/\∀e∈Rr,e∈es:=by
 have hc:jP (b.atR a (.inRegion ops (n::rest)::k)):=λd w r s k e=>by cases e
 have e:=(jD (main:=main) (listen:=true) (cs:=cs) rfl ho hw QT).trans (ij (cs:=cs) hc (by rw[Frame.eval_atR];exact hr) hn);rw[hg]at e;refine⟨_,(cZ rfl main cs wR).trans e,λe he=>?_⟩;have:=cO _ _ _ e he;split at this
 .simp at this
 .exact this
theorem Rn.oper(ho:ops[n]?=some o)(hw:Region.wanted o (yielded ops a.tmps)=true)(QT:∀c,o.op≠ .defer c){nx:Next}(hr:Rk C a.eval o w nx w')(hn:JV nx=true)(hg:jY C.P (b.atR a (.inRegion ops (n::rest)::k)) cs nx=cQ fr' cs')
 (h:Rn C Goal fr' cs' w'):Rn C Goal (b.atR a (.inRegion ops (n::rest)::k)) cs w:=
 Rn.tree hr.fair.wW hr.run (λm wR Rc es h=>u7 ho hw QT hn hg m wR Rc es h) hr.size hr.drew h
theorem m4(ho:ops[n]?=some o)(v:Value):(b.atR a (.inRegion ops (n::rest)::k)).finish v=b.atR (a.put o.dst v) (.inRegion ops rest::k):=by rw[Frame.finish_atR,ho];rfl
theorem oi(ho:ops[n]?=some o)(hw:Region.wanted o (yielded ops a.tmps)=true)(QT:∀c,o.op≠ .defer c)(hr:Rk C a.eval o w (.value v) w')
 (h:Rn C Goal (b.atR (a.put o.dst v) (.inRegion ops rest::k)) cs w'):Rn C Goal (b.atR a (.inRegion ops (n::rest)::k)) cs w:=
 Rn.oper ho hw QT hr rfl (fr':=b.atR (a.put o.dst v) (.inRegion ops rest::k)) (cs':=cs) (by rw[←m4 ho];rfl) h
theorem zu(ho:ops[n]?=some o)(hw:Region.wanted o (yielded ops a.tmps)=true)(QT:∀c,o.op≠ .defer c)(hr:Rk C a.eval o w .skip w')
 (h:Rn C Goal (b.atR (a.put o.dst undef) (.inRegion ops rest::k)) cs w'):Rn C Goal (b.atR a (.inRegion ops (n::rest)::k)) cs w:=
 Rn.oper ho hw QT hr rfl (fr':=b.atR (a.put o.dst undef) (.inRegion ops rest::k)) (cs':=cs) (by rw[←m4 ho];rfl) h
theorem AJ(ho:ops[n]?=some o)(hw:Region.wanted o (yielded ops a.tmps)=true)(QT:∀c,o.op≠ .defer c)(hf:dA C.P w (execOp a.eval o))(hr:(execOp a.eval o).run C.P w=.ok (.value v) w')(hz:C.pad=true->w'.heap.size=w.heap.size)(hd:w'.drawn=w.drawn)
 (h:Rn C Goal (b.atR (a.put o.dst v) (.inRegion ops rest::k)) cs w'):Rn C Goal (b.atR a (.inRegion ops (n::rest)::k)) cs w:=
 Rn.tree hf hr (λm wR Rc es h=>u7 (fr':=b.atR (a.put o.dst v) (.inRegion ops rest::k)) (cs':=cs) ho hw QT rfl (by rw[←m4 ho];rfl) m wR Rc es h) hz hd h
theorem AI(ho:ops[n]?=some o)(hw:Region.wanted o (yielded ops a.tmps)=true)(QT:∀c,o.op≠ .defer c)(hf:aG C.P (execOp a.eval o))(hr:∀w1,so C.pad w w1->∃v w',(execOp a.eval o).run C.P w1=.ok (.value v) w'/\Rn C Goal (b.atR (a.put o.dst v) (.inRegion ops rest::k)) cs w'):
 Rn C Goal (b.atR a (.inRegion ops (n::rest)::k)) cs w:=λL hG=>L.any λw1 hp=>by
 obtain⟨v,w',h1,h2⟩:=hr w1 hp;exact⟨_,_,w',mn hf.wW h1 rfl rfl λwR Rc es h=>u7 (fr':=b.atR (a.put o.dst v) (.inRegion ops rest::k)) (cs':=cs) ho hw QT rfl (by rw[←m4 ho];rfl) _ wR Rc es h,h2 L hG⟩
theorem Rn.enter(ho:ops[n]?=some o)(hw:Region.wanted o (yielded ops a.tmps)=true)(QT:∀c,o.op≠ .defer c)(hr:Rk C a.eval o w (.enter f args) w)
 (h:Rn C Goal (Frame.enter C.P f args .normal) (b.atR a (.inRegion ops (n::rest)::k)::cs) w):Rn C Goal (b.atR a (.inRegion ops (n::rest)::k)) cs w:=
 Rn.oper ho hw QT hr rfl rfl h
theorem Rn.calls{c:Frame}(hC:Cl C f args w R)(h:∀v w',R (.returned v) w'->Rn C Goal (c.finish v) cs w')(hp:∀ch w',R (.panicked ch) w'->Rn C Goal (c.raise ch) cs w'):Rn C Goal (Frame.enter C.P f args .normal) (c::cs) w:=
 λL hG=>hC L c cs (λv w' h1=>h v w' h1 L hG) λch w' h1=>hp ch w' h1 L hG
theorem Rn.call(ho:ops[n]?=some o)(hw:Region.wanted o (yielded ops a.tmps)=true)(QT:∀c,o.op≠ .defer c)(hr:Rk C a.eval o w (.enter f args) w){R:Value->World->Prop}(hC:Cl C f args w λe w'=>∃v,e=.returned v/\R v w')
 (h:∀v w',R v w'->Rn C Goal (b.atR (a.put o.dst v) (.inRegion ops rest::k)) cs w'):Rn C Goal (b.atR a (.inRegion ops (n::rest)::k)) cs w:=
 Rn.enter ho hw QT hr (Rn.calls hC (λv w' ⟨u,e,hR⟩=>by cases e;rw[m4 ho];exact h v w' hR) λch w' ⟨u,e,_⟩=>by cases e)
end
theorem Rn.ends(hb:b.roundOf=none)(hk:k=[]\/∃k',k=.code .ret::k')(h:Rn C Goal {b.atR a k with mode:=.returning} cs w):Rn C Goal (b.atR a k) cs w:=Rn.exec rfl (λ_ _=>rC (fr:=b.atR a k) ⟨hb,hk⟩) h
theorem Rn.leave{c:Frame}(v:Value)(hm:fr.mode=.returning)(hk:fr.kind=.normal)(hd:fr.defers=[])(hf:C.P.funcs[fr.fn]?=some fn)(hr:(results fn fr.tmps).run C.P w=.ok v w)(hF:aG C.P (results fn fr.tmps))
 (h:Rn C Goal (c.finish v) cs w):Rn C Goal fr (c::cs) w:=by
 refine Rn.tree (fr':=c.finish v) (cs':=cs) hF.wW hr (λm wR Rc es h=>⟨_,?_,cO C.P fr.fn es⟩) (λ_=>rfl) rfl h;have hu:=sA (P:=C.P) (main:=m) (c:=c) (cs:=cs) hd hm (.inl hk) hf h;rw[show back fr.kind c v=c.finish v from by rw[hk];rfl]at hu;unfold stepG cQ;simp only[hm];exact hu
theorem AM{id:Nat}(h:∀t w',so C.pad w w'->Rn C Goal (b.atR a (.inRegion ops (Region.schedule (C.P.follows .mixedOrders) ops t)::k)) cs w'):Rn C Goal (b.atR a (.code (.region id ops true)::k)) cs w:=λL hG=>L.any λw1 hp=>by
 have hr:∀w:World,(choose (.order (b.atR a (.code (.region id ops true)::k)).fn id)).run C.P w=.ok (w.tape w.drawn (.order b.fn id)) {w with drawn:=w.drawn+1}:=λw=>by
  simp[choose,Sem.run,Question.forced,Question.cut,Frame.atR]
 refine⟨_,_,_,mn (fr':=b.atR a (.inRegion ops (Region.schedule (C.P.follows .mixedOrders) ops (w1.tape w1.drawn (.order b.fn id)))::k)) (cs':=cs) (s:=choose (.order (b.atR a (.code (.region id ops true)::k)).fn id)) (aG.wW (.choose λn=>.pure n)) (hr w1) rfl rfl λwR Rc es h=>⟨#[],?_,λe he=>by simp at he⟩,h _ {w1 with drawn:=w1.drawn+1} ⟨hp.heap,hp.tape,hp.os,hp.output⟩ L hG⟩;rw[Sem.runT_eq]at h;have:=congrArg Prod.fst h;exact(cZ rfl _ cs wR).trans (tc rfl this)
end

section
variable{α:Type}
theorem mZ:aG P program:=.program (.pure _)
theorem cL{c:Prop}[Decidable c]{s t:Sem α}(h:aG P s)(h':aG P t):aG P (if c then s else t):=by split<;>assumption
theorem wj{β:Type}{s:Sem β}(f:β->α)(h:aG P s):aG P (f<$>s):=h.bind λa=>.pure (f a)
theorem fU{s:Sem α}(h:aG P s:=by
 first
 |exact .pure _
 |exact .halt _
 |exact fK
 |refine cL ?_ ?_
 |(refine aG.bind ?_ λa=>?_<;>try dsimp only)
 |refine wj _ ?_
 |refine .choose λn=>?_
 |split
 all_goals first|contradiction|exact fU):aG P s:=h
theorem fK{s:Sem α}(h:aG P s:=by
 with_reducible first
 |assumption
 |exact mZ
 |exact sb _
 |exact bj _
 |exact iR _
 |exact eN _
 |exact rz _
 |exact iS _ _
 |exact Ce _
 |exact pf _ _ _
 |exact fW _ _
 |exact jT _
 |exact oS _ _ _ _
 |exact gS _ _ _
 |exact np _
 |exact dY _
 |exact yL _
 |exact pj _ _ _
 |exact wn _
 |exact nm _
 |exact se _ _ _ _ _ λq w=>by cases q<;>with_unfolding_all rfl):aG P s:=h
theorem sb(t:TypeId):aG P (typeInfo t):=by unfold typeInfo;exact fU
theorem bj(t:TypeId):aG P (underlying t):=by unfold underlying;exact fU
theorem iR(t:TypeId):aG P (zeroValue t):=by unfold zeroValue;exact fU
theorem eN(t:TypeId):aG P (sizeOf t):=by unfold sizeOf;exact fU
theorem rz(t:TypeId):aG P (isAgg t):=by unfold isAgg;exact fU
theorem wn(q:Question):aG P (choose q):=.choose λ_=>.pure _
theorem nm(n:Nat):aG P (askRoom n):=by unfold askRoom;exact cL (.mark rfl (.pure _)) (.pure _)
theorem fW(t:TypeId)(c:Array Value):aG P (newRow t c):=by unfold newRow;exact .new rfl λ_=>.pure _
theorem oR(t:TypeId):aG P (elemOf t):=by unfold elemOf;exact fU
theorem jT(e:RuntimeError):aG P (runtimePanic e:Sem α):=by
 unfold runtimePanic;refine .program ?_;cases e with
 |typeAssertion i c a m=>exact(oR _).bind λt=>(fW _ _).bind λ_=>.halt _
 |panicNil=>exact(oR _).bind λt=>(fW _ _).bind λ_=>.halt _
 |_=>exact .halt _
theorem oS(k:IntKind)(x y:Int)(c:BoundsCode):aG P (boundsPanic k x y c:Sem α):=by unfold boundsPanic;exact fU
theorem Ce(a:Addr):aG P (load a):=.load λ_=>.pure _
theorem iS(a:Addr)(n:Nat):aG P (loadCells a n):=by
 have:∀n i acc,aG P (loadCellsFrom a i n acc):=λn=>by
  induction n with
  |zero=>exact λ_ _=>.pure _
  |succ n ih=>exact λi acc=>.load λv=>ih _ _
 exact this _ _ _
theorem pf(a:Addr)(vs:List Value):∀i,aG P (storeCells a vs i):=by
 induction vs with
 |nil=>exact λ_=>.pure _
 |cons v vs ih=>exact λi=>.store (ih _)
theorem m_(t:TypeId)(a:Addr):aG P (loadVar t a):=by unfold loadVar;exact fU
theorem sd(t:TypeId)(a:Addr)(v:Value):aG P (storeVar t a v):=by unfold storeVar;exact fU
theorem gS(t:TypeId)(c:Array Value)(n:Nat):aG P (part t c n):=by unfold part;exact fU
theorem np(v:Value):aG P (asIntOf v):=by unfold asIntOf;split<;>first|exact .pure _|exact .halt _
theorem dY(v:Value):aG P (Instr.sureAddr v):=by unfold Instr.sureAddr;split<;>first|exact .pure _|exact .halt _
theorem wm(t:TypeId)(v:Value):aG P (Instr.loadAt t v):=(dY v).bind λa=>m_ t a
theorem ut(t:TypeId)(v u:Value):aG P (Instr.storeAt t v u):=(dY v).bind λa=>sd t a u
theorem Fg(t:TypeId)(v:Value):aG P (Instr.box t v):=(fW _ _).bind λ_=>.pure _
theorem yS(t:TypeId):aG P (Instr.alloc t true (.tuple #[])):=(iR t).bind λ_=>(fW _ _).bind λ_=>.pure _
theorem po(t:TypeId)(n:Nat)(ps:Array (Nat×Value)):aG P (Instr.buildSlice t n ps):=by unfold Instr.buildSlice;exact fU
theorem ry(t:TypeId)(n c:Value):aG P (Instr.makeSlice t n c):=by unfold Instr.makeSlice asInt;exact fU
theorem yL(v:Value):aG P (Builtin.lenOf v):=by unfold Builtin.lenOf;split<;>first|exact .pure _|exact .halt _
theorem pj(a b:Nat)(v:Value):aG P (Builtin.firstCells a b v):=by unfold Builtin.firstCells;exact fU
theorem Cg(ts:Array TypeId)(t:TypeId)(xs:Array Value):aG P (Builtin.copy_ ts t xs):=by unfold Builtin.copy_;exact fU
def sq(P:Program)(s:Sem α):Prop:=∀w h w',s.run P w=.halt h w'->vY h=false
theorem sq.bind{β:Type}{s:Sem β}{k:β->Sem α}(h:sq P s)(hk:∀a,sq P (k a)):sq P (s>>=k):=λw x w' e=>by
 rw[Sem.run_bind]at e;cases hs:s.run P w with
 |ok a w1=>rw[hs]at e;exact hk a w1 x w' e
 |halt y w1=>rw[hs]at e;cases e;exact h w _ _ hs
theorem s0(a b c:Nat)(o:Option Addr)(x:Value):sq P (Builtin.mayShare a b c o x):=by
 have hp:∀{α:Type} (a:α),sq P (pure a):=λa w h w' e=>by cases e
 have hh:∀a n,sq P (Builtin.holdsCells a n):=λa n=>by
  unfold Builtin.holdsCells;refine sq.bind (s:=shape a.block) (λw h w' e=>by cases e) λs=>?_;cases s<;>exact hp _
 have hz:∀a,sq P (frozen a):=λa w h w' e=>by cases e
 have jp:∀q:Bool,sq P (if (!q)=true then pure true else match x with
  | .slice (some b) _ _=>do pure (!(←Builtin.holdsCells b (c*a))||o.any (·.block==b.block))
  |_=>pure false:Sem Bool):=λq=>by
  cases q
  .exact hp _
  .cases x with
   |slice p l c=>cases p with
    |none=>exact hp _
    |some p=>exact(hh _ _).bind λ_=>hp _
   |_=>exact hp _
 unfold Builtin.mayShare;cases o with
 |none=>exact(hp _).bind λq=>jp q
 |some p=>exact(hh _ _).bind λ_=>(hz _).bind λ_=>(hp _).bind λq=>jp q
theorem se{k:Bool->Sem α}(a b c:Nat)(o:Option Addr)(x:Value)(h:∀q w,rl ((k q).run P w)=false):aG P (Builtin.mayShare a b c o x>>=k):=.dead λw=>by
 rw[Sem.run_bind];cases hs:(Builtin.mayShare a b c o x).run P w with
 |ok q w1=>exact h q w1
 |halt y w1=>exact s0 _ _ _ _ _ w y w1 hs
theorem wo(ts:Array TypeId)(t:TypeId)(xs:Array Value):aG P (Builtin.append_ ts t xs):=by
 unfold Builtin.append_ asInt;exact fU
theorem ta{β γ:Type}(f:γ->Sem β)(h:∀x,aG P (f x)):∀xs:List γ,aG P (xs.mapM f)
 |[]=>by rw[List.mapM_nil];exact .pure _
 |x::xs=>by rw[List.mapM_cons];exact(h x).bind λ_=>(ta f h xs).bind λ_=>.pure _
theorem sZ{β γ:Type}(f:γ->Sem β)(h:∀x,aG P (f x))(xs:Array γ):aG P (xs.mapM f):=by
 rw[Array.mapM_eq_mapM_toList];exact wj _ (ta f h _)
theorem yQ(t:TypeId)(ps:Array (Nat×Value)):aG P (Instr.build t ps):=by
 unfold Instr.build;refine(iR t).bind λz=>(bj t).bind λu=>?_;split
 .refine(sZ _ (λf=>(eN _).bind λ_=>.pure _) _).bind λ_=>?_;split<;>first|exact .pure _|exact .halt _
 .refine(eN _).bind λ_=>?_;split<;>first|exact .pure _|exact .halt _
 .exact .halt _
theorem oT(v:Value):aG P (asAddr v):=by unfold asAddr;exact fU
theorem iA(fn:Func)(tmps:Array Value):aG P (results fn tmps):=(sZ _ (λx=>by
 cases x with
 |tmp t=>exact .pure _
 |cell a t=>exact(oT _).bind λ_=>m_ _ _) _).bind λ_=>.pure _
end

section
variable{l:Nat}
theorem oP{α:Type}{k:Obj->Sem α}(r:Nat)(h:∀o,gO o=true->aG P (k o)):aG P (getObj r>>=k):=.getObj h
theorem ii{α:Type}{k:Unit->Sem α}{o:Obj}(r:Nat)(ho:gO o=true)(h:aG P (k ())):aG P (setObj r o>>=k):=.setObj ho h
theorem lC{α:Type}{k:Loop->Sem α}(h:∀r,aG P (k r)):aG P (Instr.getLoop l>>=k):=by
 refine aG.bind ?_ h;unfold Instr.getLoop;exact oP l λo _=>by cases o<;>first|exact .pure _|exact .halt _
theorem yI(args:Array Value):aG P (Instr.yield l args):=lC λ_=>cL (.halt _) (.pure _)
theorem yR:aG P (Instr.beginRound l):=lC λr=>ii l rfl (by cases r.state<;>first|exact .pure _|exact jT _)
theorem lM(j:Option Code):aG P (Instr.endRound l j):=lC λ_=>ii l rfl (.pure _)
theorem nl:aG P (Instr.endLoop l):=lC λ_=>cL ((jT _).bind λ_=>ii l rfl (.pure _)) (ii l rfl (.pure _))
theorem rA(fn:FuncId)(tmps:Array Value)(ps:Array Tmp)(a b:Code):aG P (Instr.enterLoop fn tmps ps a b none):=.new rfl λ_=>.new rfl λ_=>.pure _
theorem Cc:aG P (Instr.takeDeferred l):=oP l λo _=>by
 cases o with
 |deferred ds=>cases ds with
  |none=>exact .halt _
  |some ds=>exact ii l rfl (.pure _)
 |_=>exact .halt _
end
section
variable(P:Program){l:Nat}{r:Loop}
theorem Bp(h:w.heap[l]?=some (.loop r))(hs:args.size=r.params.size):
 (Instr.yield l args).run P w=.ok (.round l r.fn ((r.params.zip args).foldl (λtmps (t,a)=>tmps.setIfInBounds t a) r.tmps) r.assign r.body) w:=by
 simp[Instr.yield,Instr.getLoop,getObj,bind,Sem.bind,Sem.run,pure,h,hs]
theorem Bu(h:w.heap[l]?=some (.loop r))(hs:r.state=.ready):(Instr.beginRound l).run P w=.ok () (aO w l {r with state:=.busy}):=by
 simp[Instr.beginRound,Instr.getLoop,getObj,setObj,bind,Sem.bind,Sem.run,pure,h,hs,aO]
theorem mu(h:w.heap[l]?=some (.loop r))(j:Option Code):(Instr.endRound l j).run P w=.ok (.bool j.isNone) (aO w l {r with state:=if j.isNone then .ready else .done,pending:=j}):=by
 simp[Instr.endRound,Instr.getLoop,getObj,setObj,bind,Sem.bind,Sem.run,pure,h,aO]
theorem vo(h:w.heap[l]?=some (.loop r))(hs:r.state=.ready):(Instr.endLoop l).run P w=.ok r.pending (aO w l {r with state:=.exhausted}):=by
 simp[Instr.endLoop,Instr.getLoop,getObj,setObj,bind,Sem.bind,Sem.run,pure,h,hs,aO]
theorem rY(fn:FuncId)(tmps:Array Value)(ps:Array Tmp)(a b:Code):
 (Instr.enterLoop fn tmps ps a b none).run P w=.ok (w.heap.size+1,[{target:=.collected w.heap.size,args:=#[]}]) (bU w {state:=.ready,pending:=none,fn,tmps,params:=ps,assign:=a,body:=b,defers:=w.heap.size}):=by
 simp[Instr.enterLoop,newObj,bind,Sem.bind,Sem.run,pure,bU];rfl
theorem Dn(h:w.heap[l]?=some (.deferred (some ds))):(Instr.takeDeferred l).run P w=.ok ds {w with heap:=w.heap.setIfInBounds l (.deferred none)}:=by
 simp[Instr.takeDeferred,getObj,setObj,bind,Sem.bind,Sem.run,pure,h]
end
section
variable{C:iJ}{b:Frame}{k:List Item}{cs':List Frame}{fr' c:Frame}{l:Nat}{r:Loop}
theorem ia(w:World)(l:Nat)(r:Loop):(aO w l r).heap.size=w.heap.size:=by simp[aO]
theorem sC{main:Bool}{ps:Array Tmp}{ca cb:Code}{cap:Array Value}(hb:b.roundOf=none)(hf:C.P.funcs[f]?=some fn)(QV:(fn.name== "runtime.NumGoroutine")=false)(Wn:fn.body.isNone=false)(hx:a.eval x=.func (.func f) first cap):
 NU C.P main (b.atR a (.code (.rangeFunc x ps ca cb)::k)) cs w (Frame.enter C.P f (first++#[.func (.yield (w.heap.size+1)) #[] #[]]++cap) .normal) (b.atR ⟨a.tmps,{target:=.collected w.heap.size,args:=#[]}::a.defers⟩ (.inRangeFunc (w.heap.size+1)::k)::cs)
  (bU w {state:=.ready,pending:=none,fn:=b.fn,tmps:=a.tmps,params:=ps,assign:=ca,body:=cb,defers:=w.heap.size}):=by
 refine mn (s:=Instr.enterLoop (b.atR a (.code (.rangeFunc x ps ca cb)::k)).fn (b.atR a (.code (.rangeFunc x ps ca cb)::k)).tmps ps ca cb (b.atR a (.code (.rangeFunc x ps ca cb)::k)).roundOf) (r:=.ok (w.heap.size+1,[{target:=.collected w.heap.size,args:=#[]}]) (bU w {state:=.ready,pending:=none,fn:=b.fn,tmps:=a.tmps,params:=ps,assign:=ca,body:=cb,defers:=w.heap.size})) ?_ ?_ rfl rfl λwR _ es h=>?_
 .rw[show(b.atR a (.code (.rangeFunc x ps ca cb)::k)).roundOf=none from hb];exact(rA _ _ _ _ _).wW
 .rw[show(b.atR a (.code (.rangeFunc x ps ca cb)::k)).roundOf=none from hb];exact rY _ _ _ _ _ _
 .have RE:(i2 (b.atR a (.code (.rangeFunc x ps ca cb)::k)) k (w.heap.size+1) [{target:=.collected w.heap.size,args:=#[]}]).eval x=.func (.func f) first cap:=by
   rw[←hx,←Frame.eval_atR b a (.code (.rangeFunc x ps ca cb)::k)];cases x<;>rfl
  have hc:jP (i2 (b.atR a (.code (.rangeFunc x ps ca cb)::k)) k (w.heap.size+1) [{target:=.collected w.heap.size,args:=#[]}]):=λd w r s k e=>by cases e
  have e2:=rB (P:=C.P) (main:=main) (listen:=true) (cs:=cs) (fr:=b.atR a (.code (.rangeFunc x ps ca cb)::k)) rfl h;rw[ij (cs:=cs) hc (mt hf QV Wn RE _) rfl]at e2;refine⟨_,(cZ rfl main cs wR).trans e2,λe he=>cO C.P b.fn es e ?_⟩;rcases Array.mem_append.1 he with h|h
  .exact h
  .have:=cO _ _ _ e h;split at this<;>simp at this
theorem Rn.range{ps:Array Tmp}{ca cb:Code}{cap:Array Value}(hp:C.pad=false)(hb:b.roundOf=none)(hf:C.P.funcs[f]?=some fn)(QV:(fn.name== "runtime.NumGoroutine")=false)(Wn:fn.body.isNone=false)(hx:a.eval x=.func (.func f) first cap)
 (h:Rn C Goal (Frame.enter C.P f (first++#[.func (.yield (w.heap.size+1)) #[] #[]]++cap) .normal) (b.atR ⟨a.tmps,{target:=.collected w.heap.size,args:=#[]}::a.defers⟩ (.inRangeFunc (w.heap.size+1)::k)::cs)
   (bU w {state:=.ready,pending:=none,fn:=b.fn,tmps:=a.tmps,params:=ps,assign:=ca,body:=cb,defers:=w.heap.size})):Rn C Goal (b.atR a (.code (.rangeFunc x ps ca cb)::k)) cs w:=
 Rn.step (λ_=>sC hb hf QV Wn hx) (λh=>by rw[hp]at h;cases h) rfl h
theorem lH{o:Oper}(ho:ops[n]?=some o)(hw:Region.wanted o (yielded ops a.tmps)=true)(QT:∀c,o.op≠ .defer c)(hl:w.heap[l]?=some (.loop r))(hs:args.size=r.params.size)(hr:∀w es,(execOp a.eval o).runT C.P w es=(Instr.yield l args).runT C.P w es)
 (h:Rn C Goal (Frame.round l r.fn ((r.params.zip args).foldl (λtmps (t,a)=>tmps.setIfInBounds t a) r.tmps) r.assign r.body .normal) (b.atR a (.inRegion ops (n::rest)::k)::cs) w):Rn C Goal (b.atR a (.inRegion ops (n::rest)::k)) cs w:=by
 refine Rn.oper (nx:=.round l r.fn ((r.params.zip args).foldl (λtmps (t,a)=>tmps.setIfInBounds t a) r.tmps) r.assign r.body) ho hw QT ⟨?_,.eqv hr (yI _),λ_=>rfl,rfl⟩ rfl rfl h;have:=congrArg Prod.fst (hr w #[]);rw[Sem.runT_fst,Sem.runT_fst]at this;exact this.trans (Bp _ hl hs)
theorem iI(hl:b.roundOf=some l)(h0:w.heap[l]?=some (.loop r))(hs:r.state=.ready)(h:Rn C Goal (b.atR a k) cs (aO w l {r with state:=.busy})):Rn C Goal (b.atR a (.beginRound::k)) cs w:=by
 have RA:(b.atR a (.beginRound::k)).roundOf=some l:=hl;have hc:jP (b.atR a (.beginRound::k)):=λd w r s k e=>by cases e
 refine Rn.tree (s:=mb (b.atR a (.beginRound::k))) (v:=.skip) (fr':=b.atR a k) (cs':=cs) ?_ ?_ (λm wR _ es h=>⟨_,(cZ rfl m cs wR).trans ((rE (P:=C.P) (main:=m) (listen:=true) (cs:=cs) (w:=wR) (fr:=b.atR a (.beginRound::k)) rfl).trans (ij (cs:=cs) hc h rfl)),λe he=>?_⟩) (λ_=>ia _ _ _) rfl h
 .unfold mb;rw[RA];exact(yR.bind λ_=>.pure _).wW
 .unfold mb;rw[RA];show(Instr.beginRound l>>=λ_=>pure Next.skip).run C.P w=_;rw[Sem.run_bind,Bu _ h0 hs];rfl
 .have:=cO _ _ _ e he;split at this
  .simp at this
  .exact this
theorem gZ(hl:b.roundOf=some l)(hk:b.kind=.normal)(h0:w.heap[l]?=some (.loop r))(h:Rn C Goal (c.finish (.bool true)) cs (aO w l {r with state:=.ready,pending:=none})):Rn C Goal (b.atR a []) (c::cs) w:=
 Rn.tree (lM none).wW (mu _ h0 none) (λm wR _ es h=>⟨_,(cZ rfl m _ wR).trans (m8 (fr:=b.atR a []) (j:=none) (.done rfl) hl hk h),cO C.P b.fn es⟩) (λ_=>ia _ _ _) rfl h
theorem fm(h0:w.heap[l]?=some (.loop r))(hs:r.state=.ready)(hp:r.pending=none)(h:Rn C Goal (b.atR a k) cs (aO w l {r with state:=.exhausted})):Rn C Goal (b.atR a (.endRangeFunc l::k)) cs w:=by
 refine Rn.tree (v:=none) (fr':=b.atR a k) (cs':=cs) nl.wW (by rw[vo _ h0 hs,hp]) (λm wR _ es h=>⟨_,(cZ rfl m _ wR).trans (jW (fr:=b.atR a (.endRangeFunc l::k)) rfl h),cO C.P b.fn es⟩) (λ_=>ia _ _ _) rfl h
theorem Bc{main:Bool}{x:Array Value}{rest:List Deferred}(hm:fr.mode=.returning)(hd:fr.defers={target:=.collected l,args:=x}::rest)(h:(Instr.takeDeferred l).runT P w #[]=(.ok ds w',es)):
 stepG P main (cQ fr cs) w=.go (cQ {fr with defers:=ds++rest} cs) w' (seen P fr.fn es):=by
 unfold stepG;simp only[hm,unwind,hd,h,GStep.after,Array.append_empty]
theorem Rn.take(hd:a.defers={target:=.collected l,args:=#[]}::ds)(hl:w.heap[l]?=some (.deferred (some [])))(h:Rn C Goal {b.atR ⟨a.tmps,ds⟩ k with mode:=.returning} cs {w with heap:=w.heap.setIfInBounds l (.deferred none)}):Rn C Goal {b.atR a k with mode:=.returning} cs w:=
 Rn.tree (v:=[]) (fr':={b.atR ⟨a.tmps,ds⟩ k with mode:=.returning}) (cs':=cs) Cc.wW (Dn _ hl) (λm wR Rc es h=>⟨_,Bc (fr:={b.atR a k with mode:=.returning}) (w':=Rc) rfl hd h,cO C.P b.fn es⟩) (λ_=>by simp) rfl h
end

def ig:Value->Bool
 | .pointer _| .agg _| .iface _ _| .float _ _| .complex _ _ _=>false
 |_=>true
section
variable{α:Type}
theorem jU{β γ:Type}(f:γ->β->Sem (ForInStep β))(h:∀x b,aG P (f x b)):∀(xs:List γ) (b:β),aG P (forIn xs b f)
 |[],b=>by rw[List.forIn_nil];exact .pure _
 |x::xs,b=>by
  rw[List.forIn_cons];refine(h x b).bind λs=>?_;cases s
  .exact .pure _
  .exact jU f h xs _
theorem m5{β γ:Type}(xs:Array γ)(b:β)(f:γ->β->Sem (ForInStep β))(h:∀x b,aG P (f x b)):aG P (forIn xs b f):=by
 rw[←Array.forIn_toList];exact jU f h _ b
theorem m7(t:TypeId){x y:Value}(h:(ig x=true/\ig y=true)\/∃a,x=.pointer a/\y=.pointer none)(d:Nat):aG P (Op.equalIn d t x y):=by
 cases d with
 |zero=>exact .halt _
 |succ d=>
  unfold Op.equalIn;refine(bj t).bind λu=>?_;rcases h with⟨hx,hy⟩|⟨a,rfl,rfl⟩
  .split<;>first|exact .pure _|exact .halt _|exact cL (.pure _) (.halt _)|(simp[ig]at hx hy;done)
  .cases u<;>cases a<;>first|exact .pure _|exact .halt _
theorem Fh(op:BinOp)(t:TypeId){x y:Value}(hx:ig x=true)(hy:ig y=true):aG P (binOp op t x y):=by
 unfold binOp;split<;>first|(simp[ig]at hx hy;done)|exact(m7 t (.inl ⟨hx,hy⟩) _).bind λ_=>.pure _|exact .halt _|skip
 .unfold Op.shift;exact cL (jT _) (.pure _)
 .unfold Op.shift;exact cL (jT _) (.pure _)
 .refine cL (.halt _) ?_;unfold Op.intArith Op.intDiv Op.intBits Op.intCmp;cases op<;>first|exact .pure _|exact cL (jT _) (.pure _)|exact .halt _
 .unfold Op.stringOp;cases op<;>first|exact .pure _|exact .halt _|exact cL (.halt _) (.pure _)
theorem yP{op:BinOp}(ho:op=.eql\/op=.neq)(t:TypeId)(a:Option Addr):aG P (binOp op t (.pointer a) (.pointer none)):=by
 rcases ho with rfl|rfl<;>exact(m7 t (.inr ⟨a,rfl,rfl⟩) _).bind λ_=>.pure _
theorem nc{op:BinOp}{t:TypeId}{y:Operand}{a b:Value}(h:(ig a=true/\ig b=true)\/∃c,a=.pointer c/\b=.pointer none):aG P (eqGuard op t x y a b):=by
 unfold eqGuard;refine cL (.pure _) ?_;rcases h with⟨hx,hy⟩|⟨c,rfl,rfl⟩
 .have:∀d,aG P (Op.eqGuardIn d t .nilIface .nilIface):=λd=>by
   cases d with
   |zero=>exact .halt _
   |succ d=>
    unfold Op.eqGuardIn;refine(bj t).bind λu=>?_;cases u<;>exact .pure _
  cases a<;>first|exact .pure _|(simp[ig]at hx;done)|skip
  cases b<;>first|exact .pure _|(simp[ig]at hy;done)|skip
  apply cL
  .exact .pure _
  .refine(this _).bind λq=>?_;cases q<;>first|exact .pure _|exact .halt _
 .exact .pure _
theorem pg(x:Value)(y:Nat)(c:BoundsCode):aG P (Instr.sliceBound x y c):=by unfold Instr.sliceBound;exact fU
theorem nY(q:Bool)(l c:Nat)(x y z:Option Value):aG P (Instr.sliceBounds q l c x y z):=by
 unfold Instr.sliceBounds;cases x<;>cases y<;>cases z<;>dsimp only<;>first
  |exact .halt _
  |(repeat' (first|exact .pure _|exact .halt _|exact pg _ _ _|refine aG.bind ?_ λ_=>?_))
theorem yK(t:TypeId)(x:Value)(a b c:Option Value):aG P (Instr.sliceAt t x a b c):=by
 unfold Instr.sliceAt Instr.slice
 repeat' (first|exact .pure _|exact .halt _|exact bj _|exact eN _|exact dY _|exact oT _|exact nY _ _ _ _ _ _|refine cL ?_ ?_|refine aG.bind ?_ λ_=>?_|split)
theorem yM(t:TypeId)(x i:Value):aG P (Instr.index t x i):=by unfold Instr.index;exact fU
theorem ux(t:TypeId)(x i:Value):aG P (Instr.indexAt t x i):=by
 unfold Instr.indexAt
 repeat' (first|exact .pure _|exact .halt _|exact bj _|exact eN _|exact dY _|exact np _|exact oS _ _ _ _|refine cL ?_ ?_|refine aG.bind ?_ λ_=>?_|split)
theorem yO(t:TypeId)(x:Value)(i:Nat):aG P (Instr.field t x i):=by
 unfold Instr.field asAgg
 repeat' (first|exact .pure _|exact .halt _|exact bj _|exact gS _ _ _|refine aG.bind ?_ λ_=>?_|split)
theorem uz(x:Value)(i:Nat):aG P (Instr.extract x i):=by unfold Instr.extract;exact fU
theorem yJ(op:UnOp)(x:Value):aG P (Op.unary op x):=by
 unfold Op.unary Op.intArith Op.intBits;split<;>first|exact .pure _|exact .halt _
theorem Fc(ts:Array TypeId)(t:TypeId)(xs:Array Value):aG P (Builtin.len_ ts t xs):=by
 unfold Builtin.len_
 repeat' (first|exact .pure _|exact .halt _|exact bj _|refine .getObj λ_ _=>?_|refine aG.bind ?_ λ_=>?_|split)
theorem Ff(ts:Array TypeId)(t:TypeId)(xs:Array Value):aG P (Builtin.cap_ ts t xs):=by
 unfold Builtin.cap_
 repeat' (first|exact .pure _|exact .halt _|exact bj _|refine .getObj λ_ _=>?_|refine aG.bind ?_ λ_=>?_|split)
def lS(P:Program)(t:TypeId)(i:Nat):Bool:=
 match P.underlying t with
 |some (.struct fs)=>match fs[i]? with
  |some f=>match P.info? f.type with
   |some d=>d.size !=0
   |none=>true
  |none=>true
 |_=>true
theorem pn(a:Addr)(f:Field)(h:∀d,P.info? f.type=some d->d.size≠0):aG P (fieldPlace a f):=by
 unfold fieldPlace sizeOf typeInfo;refine .program ?_;simp only[Sem.bind];cases hi:P.info? f.type with
 |none=>exact .halt _
 |some d=>
  show aG P (if d.size=0 then _ else _);rw[if_neg (h d hi)];exact .pure _
theorem uy(t:TypeId)(x:Value)(i:Nat)(h:lS P t i=true):aG P (Instr.fieldAt t x i):=by
 unfold lS at h;unfold Instr.fieldAt underlying;refine .program ?_;show aG P (((match P.underlying t with|some d=>pure d|none=>stuck "no such type"):Sem TypeDesc)>>=_);cases hu:P.underlying t with
 |none=>exact .halt _
 |some d=>
  simp only[pure_bind];cases d with
  |struct fs=>
   rw[hu]at h;dsimp only at h⊢;cases hf:fs[i]? with
   |none=>exact .halt _
   |some f=>
    rw[hf]at h;dsimp only at h;refine(dY x).bind λa=>(pn a f λd hd e=>?_).bind λ_=>.pure _;rw[hd]at h;simp[e]at h
  |_=>exact .halt _
theorem yN(c:Array Value)(e:TypeId){k:Addr->Sem α}(h:∀a,aG P (k a)):aG P (newRow e c>>=λa=>markStringish a>>=λ_=>k a):=by
 refine .eqv (s':=.new (.cells c e (c.size,c.size+1)) λb=>k ⟨b,0,none⟩) (λw es=>?_) (.new rfl λ_=>h _);have hm:∀(l:Array Obj) (o:Obj) (f:Obj->Obj),(l.push o).modify l.size f=l.push (f o):=λl o f=>by
  apply Array.ext
  .simp
  .intro i h1 h2;rw[Array.getElem_modify];split
   .rename_i e;subst e;simp
   .rename_i e;have:i<l.size:=(by simp at h2;omega);simp[Array.getElem_push_lt this]
 simp[-Sem.runT_eq,newRow,newObj,markStringish,shape,freeze,bind,Sem.bind,Sem.runT,pure,World.shape?,World.freeze];show(k _).runT P {w with heap:=(w.heap.push (.cells c e)).modify w.heap.size _} es=_;rw[hm];rfl
theorem uq(e:TypeId)(s:ByteArray):aG P (Conv.stringToBytes e s):=.choose λ_=>yN _ _ λ_=>.pure _
theorem uw(x:Value):aG P (Conv.bytesToString x):=by
 unfold Conv.bytesToString;split
 .exact .pure _
 .refine(iS _ _).bind λcs=>aG.bind (m5 _ _ _ λv b=>?_) λ_=>.pure _;split<;>first|exact .pure _|exact .halt _
 .exact .halt _
theorem uv(x:Value):aG P (Conv.runesToString x):=by
 unfold Conv.runesToString;split
 .exact .pure _
 .refine(iS _ _).bind λcs=>aG.bind (m5 _ _ _ λv b=>?_) λ_=>.pure _;split<;>first|exact .pure _|exact .halt _
 .exact .halt _
def xZ(P:Program)(s d:TypeId):Bool:=
 match P.underlying s,P.underlying d with
 |some (.int _),some (.int _)=>true
 |some .string,some .string=>true
 |some .string,some (.slice _)|some (.slice _),some .string=>true
 |_,_=>false
theorem uA{s d:TypeId}(h:xZ P s d=true)(x:Value)(hx:ig x=true):aG P (convert s d x):=by
 unfold xZ at h;unfold convert underlying;refine .program ?_;simp only[Sem.bind];cases hs:P.underlying s with
 |none=>exact .halt _
 |some a=>
  refine .program ?_;simp only[Sem.bind];cases hd:P.underlying d with
  |none=>exact .halt _
  |some b=>
   rw[hs,hd]at h;cases a<;>cases b<;>first|(simp at h;done)|skip
   .cases x<;>first|exact .pure _|exact .halt _|(simp[ig]at hx;done)
   .cases x<;>first|exact .pure _|exact .halt _|(simp[ig]at hx;done)
   .cases x<;>first|exact .halt _|(simp[ig]at hx;done)|(rename_i a l c;cases a<;>exact .halt _)|skip
    refine(bj _).bind λu=>?_;split<;>first|exact uq _ _|exact .choose λ_=>.new rfl λ_=>.pure _|exact .halt _
   .cases x<;>first|exact .pure _|(simp[ig]at hx;done)|skip
    all_goals
     refine(bj _).bind λu=>?_;split<;>first|exact uw _|exact uv _|exact .halt _
def kE(P:Program)(ev:Operand->Value):Op->Prop
 | .move _| .assign _| .pick _ _ _| .alloc _| .box _ _| .build _ _| .buildSlice _ _ _| .load _ _| .store _ _ _| .unOp _ _ _| .makeInterface _ _| .makeFunc _ _ _| .makeSlice _ _ _| .slice _ _ _ _ _| .field _ _ _| .indexAddr _ _ _| .index _ _ _| .extract _ _=>True
 | .fieldAddr t _ i=>lS P t i=true
 | .nilCheck x=>∃a,ev x=.pointer (some a)
 | .convert s d x=>xZ P s d=true/\ig (ev x)=true
 | .binOp op _ x y _=>(ig (ev x)=true/\ig (ev y)=true)\/((op=.eql\/op=.neq)/\∃a,ev x=.pointer a/\ev y=.pointer none)
 | .call c=>match c.callee with
   | .builtin .append| .builtin .cap| .builtin .copy| .builtin .len=>True
   |_=>False
 |_=>False
theorem gA{o:Oper}(h:kE P ev o.op):aG P (execOp ev o):=by
 unfold execOp;have v:∀{s:Sem Value},aG P s->aG P (do pure (Next.value (←s))):=λh=>h.bind λ_=>.pure _;have u:∀{s:Sem Unit},aG P s->aG P (do s;pure Next.skip):=λh=>h.bind λ_=>.pure _;cases ho:o.op<;>rw[ho]at h<;>first|exact h.elim|exact .pure _|(obtain⟨a,ha⟩:=h;simp only[ha];exact .pure _)|skip
 .exact(by unfold asBool;split<;>first|exact .pure _|exact .halt _:aG P (asBool _)).bind λ_=>.pure _
 .exact v (yS _)
 .exact v (Fg _ _)
 .exact v (yQ _ _)
 .exact v (po _ _ _)
 .exact v (wm _ _)
 .exact u (ut _ _ _)
 .refine v ?_;rcases h with h|⟨h1,a,h2,h3⟩
  .exact(nc (.inl h)).bind λ_=>Fh _ _ h.1 h.2
  .rw[h2,h3];exact(nc (.inr ⟨a,rfl,rfl⟩)).bind λ_=>yP h1 _ _
 .exact v (yJ _ _)
 .exact v (uA h.1 _ h.2)
 .exact v (by unfold Instr.makeInterface;exact fU)
 .exact v (ry _ _ _)
 .exact v (yK _ _ _ _ _)
 .exact v (uy _ _ _ h)
 .exact v (yO _ _ _)
 .exact v (ux _ _ _)
 .exact v (yM _ _ _)
 .exact v (uz _ _)
 .rename_i c;obtain⟨cl,Yt,ts⟩:=c;unfold kE at h;cases cl with
  |builtin b=>cases b<;>first|exact h.elim|exact v (wo _ _ _)|exact v (Ff _ _ _)|exact v (Cg _ _ _)|exact v (Fc _ _ _)
  |_=>exact h.elim
end

end Go.Proofs.YtkmoglhgkcnalaaGreatDoor
namespace Go.Proofs.YtkmoglhgkcnalaaGreatDoor
open Go Go.Conc Go.RowKit
theorem Ci{main:Bool}{k:List Item}
 (ht:fr.todo=.inRegion ops (i::rest)::k) (hw:((ops[i]?).map (Region.wanted · (yielded ops fr.tmps))).getD false=false):
 stepG.exec P main listen fr cs none w=.go {frame:=fr.finish undef,callers:=cs,status:=.running,dying:=none} w:=by
 unfold stepG.exec;simp only[ht,hw,Bool.false_eq_true,↓reduceIte]
def j8(listed:Array Bool):Nat:=listed.toList.count false
theorem qs{listed:Array Bool}(h:j8 listed=0)(k:Nat)(hk:k<listed.size):listed[k]?=some true:=by
 have h1:false∉listed.toList:=List.count_eq_zero.1 h;rw[Array.getElem?_eq_getElem hk];cases e:listed[k]with
 |true=>rfl
 |false=>exact absurd (by rw[←e];exact Array.mem_toList_iff.2 (Array.getElem_mem hk)) h1
theorem oz{listed:Array Bool}{f:Nat}(h:j8 listed=f+1):∃k,k<listed.size/\listed[k]?=some false/\∀j,j<k->listed[j]?=some true:=by
 have h1:false∈listed.toList:=by
  apply List.count_pos_iff.1;unfold j8 at h;omega
 have h2:∃k:Nat,listed[k]?=some false:=by
  obtain⟨k,hk,e⟩:=Array.getElem_of_mem (Array.mem_toList_iff.1 h1);exact⟨k,by rw[Array.getElem?_eq_getElem hk,e]⟩
 obtain⟨k,hk⟩:=h2;induction k using Nat.strongRecOn with
 |ind k ih=>
  have QK:k<listed.size:=(Array.getElem?_eq_some_iff.1 hk).1;by_cases hj:∃j:Nat,j<k/\listed[j]?=some false
  .obtain⟨j,h3,h4⟩:=hj;exact ih j h3 h4
  .refine⟨k,QK,hk,λj hj1=>?_⟩;have hn:¬listed[j]?=some false:=λe=>hj ⟨j,hj1,e⟩;rw[Array.getElem?_eq_getElem o_]at hn⊢;cases e:listed[j]' o_ with
   |true=>rfl
   |false=>rw[e]at hn;exact absurd rfl hn
theorem qp{listed:Array Bool}{f:Nat}(h:j8 listed=f+1)(hn:listed[n]?=some false):j8 (listed.setIfInBounds n true)=f:=by
 obtain⟨QK,e⟩:=Array.getElem?_eq_some_iff.1 hn;unfold j8 at h⊢;rw[Array.toList_setIfInBounds];have hl:n<listed.toList.length:=by simpa using QK
 have:=List.count_set (l:=listed.toList) (i:=n) (a:=true) (b:=false) hl;have e':listed.toList[n]=false:=by simpa using e
 rw[this,e',h];rfl
def kg(ops:Array Oper)(n k:Nat):Bool:=((ops[n]?).map λo=>o.after.any λe=>e.on==k&&Region.binds .any e).getD false
theorem cP{k:Nat}{o:Oper}{listed:Array Bool}(h:kg ops n k=true)(ho:ops[n]?=some o)(hd:∀e∈o.after,Region.binds .any e=true->listed[e.on]?=some true):listed[k]?=some true:=by
 unfold kg at h;rw[ho]at h;simp only[Option.map_some,Option.getD_some]at h;obtain⟨j,hj,he⟩:=Array.any_eq_true.1 h;simp only[Bool.and_eq_true,beq_iff_eq]at he;rw[←he.1];exact hd _ (Array.getElem_mem hj) he.2
theorem dS{o:Oper}{d:Option Tmp}(ho:ops[n]?=some o)(h:(ops[n]?).map (λo=>(o.dst,o.op,o.guard))=some (d,p,none)):o.dst=d/\o.op=p/\∀y,Region.wanted o y=true:=by
 rw[ho]at h;simp only[Option.map_some,Option.some.injEq,Prod.mk.injEq]at h;refine⟨h.1,h.2.1,λy=>?_⟩;unfold Region.wanted;rw[h.2.2]
theorem kC{d:Option Tmp}{g:Option (Nat×Bool)}(h:(ops[n]?).map (λo=>(o.dst,o.op,o.guard))=some (d,p,g)):∃o,ops[n]?=some o/\o.dst=d/\o.op=p/\o.guard=g:=by
 cases ho:ops[n]? with
 |none=>rw[ho]at h;cases h
 |some o=>
  rw[ho]at h;simp only[Option.map_some,Option.some.injEq,Prod.mk.injEq]at h;exact⟨o,rfl,h⟩
theorem ka{d:Option Tmp}(h:(ops[n]?).map (λo=>(o.dst,o.op,o.guard))=some (d,p,none)):∃o,ops[n]?=some o/\o.dst=d/\o.op=p/\∀y,Region.wanted o y=true:=
 let ⟨o,ho,_⟩:=kC h
 ⟨o,ho,dS ho h⟩
theorem oQ{o:Oper}{d:Option Tmp}(ho:ops[n]?=some o)(h:(ops[n]?).map (λo=>(o.dst,o.op,o.guard))=some (d,p,none):=by rfl):o.dst=d/\o.op=p/\∀y,Region.wanted o y=true:=dS ho h
theorem aQ{d:Nat}(h:a.tmps[d]?=some v):a.eval (.tmp d)=v:=by
 show a.tmps.getD d undef=v;rw[Array.getD_eq_getD_getElem?,h];rfl
structure ay (F:List (Nat×Value)) (N:Nat) (ds:List Deferred) (a:Act):Prop where
 defers:a.defers=ds
 size:N<=a.tmps.size
 slot:∀d v,F.lookup d=some v->a.tmps[d]?=some v
theorem ay.get(h:ay F N ds a){d:Nat}(hd:F.lookup d=some v):a.eval (.tmp d)=v:=aQ (h.slot d v hd)
theorem ay.g(h:ay F N ds a)(d:Nat)(e:F.lookup d=some v:=by rfl):a.eval (.tmp d)=v:=h.get e
theorem ay.put(h:ay F N ds a){d:Nat}(hd:d<N)(v:Value):ay ((d,v)::F) N ds (a.put (some d) v):=by
 refine⟨h.defers,by simpa[Act.put]using h.size,λe u he=>?_⟩;show(a.tmps.setIfInBounds d v)[e]?=some u;by_cases hed:e=d
 .subst hed;simp only[List.lookup,beq_self_eq_true,Option.some.injEq]at he;subst he;exact Array.getElem?_setIfInBounds_self_of_lt (Nat.lt_of_lt_of_le hd h.size)
 .rw[Array.getElem?_setIfInBounds_ne (Ne.symm hed)];have hb:(e==d)=false:=by simpa using hed
  simp only[List.lookup,hb]at he;exact h.slot e u he
theorem ay.sub{F':List (Nat×Value)}(h:ay F N ds a)(hs:∀d v,F'.lookup d=some v->F.lookup d=some v):ay F' N ds a:=⟨h.defers,h.size,λd v hd=>h.slot d v (hs d v hd)⟩
def dT(k:Nat):List Value->List (Nat×Value)
 |[]=>[]
 |v::L=>(k,v)::dT (k+1) L
theorem oK:∀(L:List Value) (k d:Nat) (v:Value),(dT k L).lookup d=some v->k<=d/\L[d- k]?=some v
 |[],_,_,_,h=>by simp[dT]at h
 |u::L,k,d,v,h=>by
  by_cases hd:d=k
  .subst hd;simp only[dT,List.lookup,beq_self_eq_true,Option.some.injEq]at h;subst h;simp
  .have hb:(d==k)=false:=(by simpa using hd);simp only[dT,List.lookup,hb]at h;obtain⟨h1,h2⟩:=oK L (k+1) d v h;refine⟨by omega,?_⟩;rw[show d- k=(d-(k+1))+1 from by omega];simpa using h2
theorem dc(L:List Value)(N:Nat)(h:L.length<=N):ay (dT 0 L) N [] ⟨L.toArray++Array.replicate (N- L.toArray.size) undef,[]⟩:=by
 refine⟨rfl,by simp;omega,λd v hd=>?_⟩;obtain⟨_,h2⟩:=oK L 0 d v hd;rw[Nat.sub_zero]at h2;have QK:d<L.length:=(List.getElem?_eq_some_iff.1 h2).1;show(L.toArray++_)[d]?=_;rw[Array.getElem?_append_left (by simpa using QK)];simpa using h2
def wS:List (Nat×Value)->List (Nat×Value)->Prop
 |[],_=>True
 |p::r,F=>F.lookup p.1=some p.2/\wS r F
theorem wS.get:∀{G:List (Nat×Value)},wS G F->∀d v,G.lookup d=some v->F.lookup d=some v
 |[],_,_,_,h=>by cases h
 |p::r,h,d,v,hd=>by
  by_cases e:d=p.1
  .subst e;have e2:(p::r).lookup p.1=some p.2:=(by simp[List.lookup]);rw[e2]at hd;cases hd;exact h.1
  .have e2:(p::r).lookup d=r.lookup d:=(by simp[List.lookup,show(d==p.1)=false from by simpa using e]);rw[e2]at hd;exact wS.get h.2 d v hd
theorem ay.only{G:List (Nat×Value)}(hF:ay F N ds a)(h:wS G F):ay G N ds a:=hF.sub λd v hd=>h.get d v hd
theorem gn(w:World)(r:Loop):(bU w r).heap.size=w.heap.size+2:=by
 show((w.heap.push _).push _).size=_;rw[Array.size_push,Array.size_push]
theorem aD(w:World)(o:Obj):Bw w (w.alloc o):=⟨rfl,rfl,rfl,by show _<=(w.heap.push o).size;simp,λk hk=>by show(w.heap.push o)[k]?=_;rw[Array.getElem?_push,if_neg o_]⟩
theorem cN(w:World)(a:Addr)(v:Value)(h:N<=a.block):Below N w (w.setCell a v):=⟨rfl,rfl,rfl,by simp[World.setCell],λk hk=>by simp only[World.setCell];exact nS o_⟩
theorem zj(w:World):Below N w {w with drawn:=w.drawn+1}:=⟨rfl,rfl,rfl,Nat.le_refl _,λ_ _=>rfl⟩
theorem dk(w:World)(l:Nat)(r:Loop)(h:N<=l):Below N w (aO w l r):=⟨rfl,rfl,rfl,by simp[aO],λk hk=>Array.getElem?_setIfInBounds_ne o_⟩
theorem fh(w:World)(r:Loop):Bw w (bU w r):=⟨rfl,rfl,rfl,by rw[gn];omega,λk hk=>aX w r hk⟩
theorem eR(w:World)(l:Nat)(h:N<=l):Below N w {w with heap:=w.heap.setIfInBounds l (.deferred none)}:=⟨rfl,rfl,rfl,by simp,λk hk=>Array.getElem?_setIfInBounds_ne o_⟩
theorem ab(h:Below N w w')(hN:N<=w'.heap.size)(h':Bw w' Rb):Below N w Rb:=h.trans (h'.mono hN)
def gl(id:Nat):Code->Option (Array Oper)
 | .region i ops _=>if i=id then some ops else none
 | .seq x y=>(gl id x).or (gl id y)
 | .block _ x=>gl id x
 | .loop x=>gl id x
 | .cond _ x y=>(gl id x).or (gl id y)
 | .rangeFunc _ _ x y=>(gl id x).or (gl id y)
 |_=>none
def bC(f:Func)(id:Nat):Array Oper:=(gl id (f.body.getD .skip)).getD #[]
abbrev rG(f:Func)(n:Nat):Code:=.region n (bC f n) false
abbrev rD(f:Func)(n:Nat):Code:=.region n (bC f n) true
theorem fJ{c:Code}(L:List Value)(hf:P.funcs[f]?=some fn)(hb:fn.body=some c)(hN:fn.ntmps=N):Frame.enter P f L.toArray .normal=(base f).atR ⟨L.toArray++Array.replicate (N- L.toArray.size) undef,[]⟩ [.code c]:=by
 subst hN;exact enter_at L.toArray hf hb
theorem fO(b k c:Nat):(⟨b,k,none⟩:Addr).add c=⟨b,k+c,none⟩:=by
 unfold Addr.add;split
 .rename_i h;rw[h];rfl
 .rfl
theorem aK(w:World)(o:Obj):(w.alloc o).heap[w.heap.size]?=some o:=by
 show(w.heap.push o)[w.heap.size]?=_;rw[Array.getElem?_push,if_pos rfl]
theorem bp(w:World)(o:Obj)(h:b<w.heap.size):(w.alloc o).heap[b]?=w.heap[b]?:=by
 show(w.heap.push o)[b]?=_;rw[Array.getElem?_push,if_neg o_]
theorem ao(w:World)(o:Obj):(w.alloc o).heap.size=w.heap.size+1:=by
 show(w.heap.push o).size=_;rw[Array.size_push]
theorem fP{l:Nat}{r r':Loop}(h:w.heap[l]?=some (.loop r)):(aO w l r').heap[l]?=some (.loop r'):=Array.getElem?_setIfInBounds_self_of_lt (Array.getElem?_eq_some_iff.1 h).1
theorem aF(w:World){l:Nat}(r:Loop)(h:b≠l):(aO w l r).heap[b]?=w.heap[b]?:=Array.getElem?_setIfInBounds_ne (Ne.symm h)
theorem jb{v0:Value}{t:TypeId}(h:w.heap[b]?=some (.cells #[v0] t)):(w.setCell ⟨b,0,none⟩ v).heap[b]?=some (.cells #[v] t):=by
 simp only[World.setCell];rw[Array.getElem?_modify,h];simp
theorem br(w:World){a:Addr}(v:Value)(h:b≠a.block):(w.setCell a v).heap[b]?=w.heap[b]?:=by
 simp only[World.setCell];exact nS h
def rb(f:FuncId)(l:Nat):Frame:={(default:Frame)with fn:=f,kind:=.normal,roundOf:=some l}
theorem PW{Z:Act->List Nat->World->Prop}{md:Region.Mode}(Inv:Nat->Array Bool->Act->World->Prop)
 (R_:∀listed a w,Inv 0 listed a w->Z a [] w)
 (Rv:∀fuel listed a w,Inv (fuel+1) listed a w->Region.ready md ops listed=[]->Z a [] w)
 (Rj:∀fuel listed a w n rest,Inv (fuel+1) listed a w->n∈Region.ready md ops listed->(∀a' w',Inv fuel (listed.setIfInBounds n true) a' w'->Z a' rest w')->
   Z a (n::rest) w):
 ∀(fuel t:Nat) (listed:Array Bool) (a:Act) (w:World),Inv fuel listed a w->Z a (Region.linearise.go md ops fuel t listed []) w:=by
 intro fuel;induction fuel with
 |zero=>intro t listed a w h;simpa[Region.linearise.go]using R_ listed a w h
 |succ fuel ih=>
  intro t listed a w h;have hgo:Region.linearise.go md ops (fuel+1) t listed []=(match (Region.ready md ops listed)[t%(Region.ready md ops listed).length]? with
   |some i=>Region.linearise.go md ops fuel (t/(Region.ready md ops listed).length) (listed.setIfInBounds i true) [i]
   |none=>[].reverse):=by
   simp only[Region.linearise.go];rfl
  rw[hgo];cases hi:(Region.ready md ops listed)[t%(Region.ready md ops listed).length]? with
  |none=>
   have XV:Region.ready md ops listed=[]:=by
    cases hr:Region.ready md ops listed with
    |nil=>rfl
    |cons x xs=>
     rw[hr]at hi;have QK:t%(x::xs).length<(x::xs).length:=Nat.mod_lt _ s_;simp at hi;simp at QK;omega
   exact Rv fuel listed a w h XV
  |some n=>
   show Z a (Region.linearise.go md ops fuel (t/(Region.ready md ops listed).length) (listed.setIfInBounds n true) [n]) w;rw[linearise_go_acc,List.reverse_singleton,List.singleton_append];exact Rj fuel listed a w n _ h (List.mem_of_getElem? hi) λa' w' h'=>ih _ _ a' w' h'
theorem Ef{Z:Act->List Nat->World->Prop}{md:Region.Mode}(Rs:∀(n:Nat) (o:Oper),ops[n]?=some o->∀e∈o.after,Region.binds md e=true->e.on<n)(Inv:Array Bool->Act->World->Prop)
 (Rw:∀listed a w,(∀n,n<ops.size->listed[n]?=some true)->Inv listed a w->Z a [] w)
 (Rj:∀listed a w n o rest,listed.size=ops.size->ops[n]?=some o->listed[n]?=some false->(∀e∈o.after,Region.binds md e=true->listed[e.on]?=some true)->Inv listed a w->
   (∀a' w',Inv (listed.setIfInBounds n true) a' w'->Z a' rest w')->Z a (n::rest) w)
 (t:Nat) (a:Act) (w:World) (h0:Inv (Array.replicate ops.size false) a w):Z a (Region.linearise md ops t) w:=by
 unfold Region.linearise;refine PW (md:=md) (λfuel listed a w=>listed.size=ops.size/\j8 listed=fuel/\Inv listed a w) (λlisted a w h=>?_) (λfuel listed a w h hr=>?_) (λfuel listed a w n rest h hn Rl=>?_) ops.size t _ a w ⟨by simp,?_,h0⟩
 .exact Rw listed a w (λn hn=>qs h.2.1 n (by rw[h.1];exact hn)) h.2.2
 .exfalso;obtain⟨n,h1,h2,h3⟩:=oz h.2.1;have QK:n<ops.size:=by rw[←h.1];exact h1
  have hm:n∈Region.ready md ops listed:=by
   unfold Region.ready;rw[List.mem_filter];refine⟨List.mem_range.2 QK,?_⟩;rw[Array.getElem?_eq_getElem QK];have e1:listed.getD n true=false:=(by simp[Array.getD_eq_getD_getElem?,h2]);rw[e1];simp only[Bool.not_false,Option.map_some,Option.getD_some,Bool.true_and];rw[Array.all_eq_true'];intro e he;cases hb:Region.binds md e with
   |false=>rfl
   |true=>
    have:=Rs n _ (Array.getElem?_eq_getElem QK) e he hb;simp[Array.getD_eq_getD_getElem?,h3 _ this]
  rw[hr]at hm;simp at hm
 .unfold Region.ready at hn;rw[List.mem_filter]at hn;obtain⟨SA,RV⟩:=hn;have QK:=List.mem_range.1 SA;rw[Array.getElem?_eq_getElem QK]at RV;simp only[Option.map_some,Option.getD_some,Bool.and_eq_true,Bool.not_eq_true']at RV;have hl:n<listed.size:=by rw[h.1];exact QK
  have hf:listed[n]?=some false:=by
   have:=RV.1;rw[Array.getD_eq_getD_getElem?,Array.getElem?_eq_getElem hl]at this;rw[Array.getElem?_eq_getElem hl];simpa using this
  refine Rj listed a w n _ rest h.1 (Array.getElem?_eq_getElem QK) hf (λe he hb=>?_) h.2.2 λa' w' h'=>Rl a' w' ⟨by simp[h.1],qp h.2.1 hf,h'⟩;have:=Array.all_eq_true'.1 RV.2 e he;rw[hb]at this;simp only[Bool.not_true,Bool.false_or]at this;rw[Array.getD_eq_getD_getElem?]at this;cases e3:listed[e.on]? with
  |none=>rw[e3]at this;simp at this
  |some q=>rw[e3]at this;simp at this;rw[this]
 .simp[j8]
structure Ga (df:List Deferred) (fx:List (Nat×Value)) (ds:List Nat) (G:Nat->Value->World->Prop) (N:Nat) (w0:World) (a:Act) (w:World) (L:Nat->Prop):Prop where
 defers:a.defers=df
 size:N<=a.tmps.size
 fixed:∀p∈fx,a.tmps[p.1]?=some p.2
 old:Bw w0 w
 come:∀n d,ds[n]?=some d->L n->∃v,a.tmps[d]?=some v/\G n v w
def vP:Op->Bool
 | .defer _=>false
 |_=>true
def reach(ops:Array Oper):Nat->Nat->Nat->Bool
 |0,_,_=>false
 |fuel+1,n,k=>kg ops n k||(List.range n).any λm=>kg ops n m&&reach ops fuel m k
def me(ops:Array Oper)(listed:Array Bool):Prop:=∀(n:Nat) (o:Oper),ops[n]?=some o->listed[n]?=some true->∀e∈o.after,Region.binds .any e=true->listed[e.on]?=some true
theorem me.reach{listed:Array Bool}(h:me ops listed):∀(fuel n k:Nat) (o:Oper),ops[n]?=some o->(∀e∈o.after,Region.binds .any e=true->listed[e.on]?=some true)->reach ops fuel n k=true->listed[k]?=some true
 |0,_,_,_,_,_,hr=>by cases hr
 |fuel+1,n,k,o,ho,Rs,hr=>by
  simp only[Go.Proofs.YtkmoglhgkcnalaaGreatDoor.reach,Bool.or_eq_true,List.any_eq_true,List.mem_range,Bool.and_eq_true]at hr;rcases hr with h1|⟨m,hm,h1,h2⟩
  .exact cP h1 ho Rs
  .have hl:=cP h1 ho Rs;cases hm2:ops[m]? with
   |none=>
    exfalso;cases fuel with
    |zero=>cases h2
    |succ f=>
     have hz:∀k,kg ops m k=false:=λk=>by unfold kg;rw[hm2];rfl
     simp[Go.Proofs.YtkmoglhgkcnalaaGreatDoor.reach,hz]at h2
   |some om=>exact h.reach fuel m k om hm2 (h m om hm2 hl) h2
theorem me.set{listed:Array Bool}(h:me ops listed){o:Oper}(ho:ops[m]?=some o)(Rs:∀e∈o.after,Region.binds .any e=true->listed[e.on]?=some true):me ops (listed.setIfInBounds m true):=by
 have up:∀k,listed[k]?=some true->(listed.setIfInBounds m true)[k]?=some true:=λk hk=>by
  by_cases e:m=k
  .subst e;exact Array.getElem?_setIfInBounds_self_of_lt (Array.getElem?_eq_some_iff.1 hk).1
  .rw[Array.getElem?_setIfInBounds_ne e];exact hk
 intro n on hn hl e he hb;by_cases q:m=n
 .subst q;rw[ho]at hn;cases hn;exact up _ (Rs e he hb)
 .rw[Array.getElem?_setIfInBounds_ne q]at hl;exact up _ (h n on hn hl e he hb)
def yX(ops:Array Oper):Bool:=(List.range ops.size).all λn=>((ops[n]?).map λo=>o.after.all λe=> !Region.binds .any e||decide (e.on<n)).getD true
theorem n_(h:yX ops=true)(n:Nat)(o:Oper)(ho:ops[n]?=some o):∀e∈o.after,Region.binds .any e=true->e.on<n:=by
 intro e he hb;have hn:n<ops.size:=(Array.getElem?_eq_some_iff.1 ho).1;have:=List.all_eq_true.1 h n (List.mem_range.2 hn);rw[ho]at this;simp only[Option.map_some,Option.getD_some]at this;have:=Array.all_eq_true'.1 this e he;rw[hb]at this;simpa using this
def fI(ops:Array Oper)(ds:List Nat)(fx:List Nat)(N:Nat):Bool:=
 yX ops&&decide (ds.length<=ops.size)&&((List.range ds.length).all λn=>((ops[n]?).map λo=>o.dst==ds[n]?&&vP o.op).getD false)&&decide ds.Nodup&&(ds.all λd=>decide (d<N)&& !fx.contains d)&&
 ((List.range ops.size).all λn=>decide (n<ds.length)||((List.range n).all λk=>reach ops ops.size n k))
theorem sH{t:Nat}(RX:P.follows .mixedOrders=true):Region.schedule (P.follows .mixedOrders) ops t=Region.linearise .any ops t:=by
 unfold Region.schedule;rw[RX];simp
theorem OY{Z:Act->List Nat->World->Prop}{X:Nat->Oper->Act->World->(Value->World->Prop)->Prop}{ds:List Nat}{G:Nat->Value->World->Prop}(hdo:∀n o a w' rest R,n<ds.length->ops[n]?=some o->(∀c,o.op≠ .defer c)->X n o a w' R->(∀v Rb,R v Rb->Z (a.put o.dst v) rest Rb)->Z a (n::rest) w')(RB:fI ops ds (fx.map (·.1)) N=true)(Sf:∀n v w w',G n v w->Bw w w'->G n v w')
 (QH:∀n o a w',n<ds.length->ops[n]?=some o->Bw w w'->N<=a.tmps.size->(∀p∈fx,a.tmps[p.1]?=some p.2)->(∀m d,ds[m]?=some d->kg ops n m=true->∃v,a.tmps[d]?=some v/\G m v w')->X n o a w' λv Rb=>G n v Rb/\Bw w' Rb)
 (Rt:Nat->Act->World->Prop) (hs0:∀a w',Ga df fx ds G N w a w' (λ_=>True)->Rt ds.length a w')
 (QZ:∀n o a w' rest,ds.length<=n->ops[n]?=some o->Rt n a w'->(∀a' Rb,Rt (n+1) a' Rb->Z a' rest Rb)->Z a (n::rest) w')
 (Rw:∀a w',Rt ops.size a w'->Z a [] w') (Y9:a.defers=df) (hN:N<=a.tmps.size) (Uq:∀p∈fx,a.tmps[p.1]?=some p.2) (WC:Bw w w1) (t:Nat):Z a (Region.linearise .any ops t) w1:=by
 simp only[fI,Bool.and_eq_true,decide_eq_true_eq,List.all_eq_true,List.mem_range,Bool.or_eq_true]at RB;obtain⟨⟨⟨⟨⟨c1,c3⟩,c4⟩,c5⟩,c6⟩,c7⟩:=RB;have tail:∀{listed:Array Bool} {m:Nat} {o:Oper},me ops listed->ds.length<=m->ops[m]?=some o->(∀e∈o.after,Region.binds .any e=true->listed[e.on]?=some true)->∀n,n<m->listed[n]?=some true:=λ{listed m o} RS hm ho Rs n hn=>by
  have QK:m<ops.size:=(Array.getElem?_eq_some_iff.1 ho).1;exact RS.reach ops.size m n o ho Rs (((c7 m QK).resolve_left o_) n hn)
 refine Ef (n_ c1) (λlisted a w'=>me ops listed/\(((∀n,ds.length<=n->n<ops.size->listed[n]?=some false)/\Ga df fx ds G N w a w' λn=>listed[n]?=some true)\/∃j,ds.length<j/\j<=ops.size/\(∀n,n<j->listed[n]?=some true)/\(∀n,j<=n->n<ops.size->listed[n]?=some false)/\Rt j a w'))
  (λlisted a w' Rv h=>?_) (λlisted a w' m o rest QY ho hm Rs h hgo=>?_) t a _ ⟨λn o _ hl=>?_,.inl ⟨λn _ hn=>by simp[hn],Y9,hN,Uq,WC,λn d hd hl=>?_⟩⟩
 .refine Rw a w' ?_;obtain⟨RS,h⟩:=h;rcases h with⟨h1,h2⟩|⟨j,h1,h2,h3,h4,h5⟩
  .have hK:ds.length=ops.size:=by
    refine Nat.le_antisymm c3 (Nat.le_of_not_lt λQK=>?_);have:=h1 ds.length (Nat.le_refl _) QK;rw[Rv _ QK]at this;cases this
   rw[←hK];exact hs0 a w' ⟨h2.defers,h2.size,h2.fixed,h2.old,λn d hd _=>h2.come n d hd (Rv n (by have:=(List.getElem?_eq_some_iff.1 hd).1;omega))⟩
  .have hj:j=ops.size:=by
    refine Nat.le_antisymm h2 (Nat.le_of_not_lt λQK=>?_);have:=h4 j (Nat.le_refl _) QK;rw[Rv _ QK]at this;cases this
   rw[←hj];exact h5
 .have hmlt:m<ops.size:=(Array.getElem?_eq_some_iff.1 ho).1;obtain⟨RS,h⟩:=h;have hgo:=λa' Rb x=>hgo a' Rb ⟨RS.set ho Rs,x⟩;by_cases WQ:m<ds.length
  .rcases h with⟨h1,h2⟩|⟨j,h1,h2,h3,h4,h5⟩
   .have hc:=c4 m WQ;rw[ho]at hc;simp only[Option.map_some,Option.getD_some,Bool.and_eq_true,beq_iff_eq]at hc;obtain⟨e1,e3⟩:=hc;have hdm:ds[m]?=some ds[m]:=List.getElem?_eq_getElem WQ;refine hdo m o a w' rest _ WQ ho (λc e=>by rw[e]at e3;cases e3) (QH m o a w' WQ ho h2.old h2.size h2.fixed λn d hd hn=>h2.come n d hd (cP hn ho Rs)) λv Rb hv=>?_;rw[e1,hdm];have K1:=c6 ds[m] (List.getElem_mem WQ);refine hgo _ _ (.inl ⟨λn hn QK=>?_,h2.defers,by simpa[Act.put]using h2.size,λp hp=>?_,ab h2.old h2.old.size hv.2,λn d hd hl=>?_⟩)
    .rw[Array.getElem?_setIfInBounds_ne o_];exact h1 n hn QK
    .show(a.tmps.setIfInBounds ds[m] v)[p.1]?=_;rw[Array.getElem?_setIfInBounds_ne (λe=>by
      have h6:ds[m]∉fx.map (·.1):=(by simpa using K1.2);exact h6 (by rw[e];exact List.mem_map_of_mem hp))]
     exact h2.fixed p hp
    .by_cases Uc:n=m
     .subst Uc;rw[hdm]at hd;cases hd;refine⟨v,?_,hv.1⟩;show(a.tmps.setIfInBounds ds[n] v)[ds[n]]?=_;exact Array.getElem?_setIfInBounds_self_of_lt (Nat.lt_of_lt_of_le K1.1 h2.size)
     .rw[Array.getElem?_setIfInBounds_ne (Ne.symm Uc)]at hl;obtain⟨u,V4,hu2⟩:=h2.come n d hd hl;refine⟨u,?_,Sf n u w' Rb hu2 hv.2⟩;show(a.tmps.setIfInBounds ds[m] v)[d]?=_;rw[Array.getElem?_setIfInBounds_ne (λe=>by
       obtain⟨hn,rfl⟩:=List.getElem?_eq_some_iff.1 hd;exact Uc ((List.getElem_inj c5).1 e).symm)]
      exact V4
   .have:=h3 m o_;rw[hm]at this;cases this
  .have Uy:=tail RS o_ ho Rs;have UL:∀n,n<m+1->(listed.setIfInBounds m true)[n]?=some true:=λn hn=>by
    by_cases e:m=n
    .subst e;exact Array.getElem?_setIfInBounds_self_of_lt o_
    .rw[Array.getElem?_setIfInBounds_ne e];exact Uy n o_
   rcases h with⟨h1,h2⟩|⟨j,h1,h2,h3,h4,h5⟩
   .have hmK2:m=ds.length:=by
     refine Nat.le_antisymm (Nat.le_of_not_lt λQK=>?_) o_;have:=h1 ds.length (Nat.le_refl _) o_;rw[Uy _ QK]at this;cases this
    have hS:Rt m a w':=by
     rw[hmK2];exact hs0 a w' ⟨h2.defers,h2.size,h2.fixed,h2.old,λn d hd _=>h2.come n d hd (Uy n (by have:=(List.getElem?_eq_some_iff.1 hd).1;omega))⟩
    refine QZ m o a w' rest o_ ho hS λa' Rb hS'=>hgo a' Rb (.inr ⟨m+1,by omega,by omega,UL,λn hn QK=>?_,hS'⟩);rw[Array.getElem?_setIfInBounds_ne o_];exact h1 n o_ QK
   .have hmj:m=j:=by
     refine Nat.le_antisymm (Nat.le_of_not_lt λQK=>?_) (Nat.le_of_not_lt λQK=>?_)
     .have:=h4 j (Nat.le_refl _) o_;rw[Uy _ QK]at this;cases this
     .have:=h3 m QK;rw[hm]at this;cases this
    subst hmj;refine QZ m o a w' rest o_ ho h5 λa' Rb hS'=>hgo a' Rb (.inr ⟨m+1,by omega,by omega,UL,λn hn QK=>?_,hS'⟩);rw[Array.getElem?_setIfInBounds_ne o_];exact h4 n o_ QK
 .rw[Array.getElem?_replicate]at hl;split at hl
  .cases hl
  .cases hl
 .rw[Array.getElem?_replicate]at hl;split at hl
  .cases hl
  .cases hl
theorem so.below{q:Bool}(h:so q w w1):Bw w w1:=by
 obtain⟨⟨n,_,e⟩,h2,h3,h4⟩:=h;refine⟨h3,h2,h4,by rw[e];simp,λk hk=>?_⟩;rw[e,Array.getElem?_append_left hk]
section
variable{C:iJ}{b:Frame}{k:List Item}{o:Oper}
def JJ(C:iJ)(a:Act)(o:Oper)(w:World)(R:Value->World->Prop):Prop:=
 (aG C.P (execOp a.eval o)/\∀w1,so C.pad w w1->∃v w',(execOp a.eval o).run C.P w1=.ok (.value v) w'/\R v w')\/∃f args,Rk C a.eval o w (.enter f args) w/\Cl C f args w λe w'=>∃v,e=.returned v/\R v w'
def xc(C:iJ)(ops:Array Oper)(a:Act)(o:Oper)(w:World)(R:Value->World->Prop):Prop:=(Region.wanted o (yielded ops a.tmps)=true/\JJ C a o w R)\/(Region.wanted o (yielded ops a.tmps)=false/\R undef w)
theorem nA(ho:ops[n]?=some o)(hw:Region.wanted o (yielded ops a.tmps)=false)(h:Rn C Goal (b.atR (a.put o.dst undef) (.inRegion ops rest::k)) cs w):Rn C Goal (b.atR a (.inRegion ops (n::rest)::k)) cs w:=by
 refine Rn.exec rfl (λ_ _=>Ci (fr:=b.atR a (.inRegion ops (n::rest)::k)) rfl (by rw[ho];exact hw)) ?_;rw[m4 ho];exact h
theorem G0(ho:ops[n]?=some o)(QT:∀c,o.op≠ .defer c)(h:xc C ops a o w R)(next:∀v w',R v w'->Rn C Goal (b.atR (a.put o.dst v) (.inRegion ops rest::k)) cs w'):Rn C Goal (b.atR a (.inRegion ops (n::rest)::k)) cs w:=by
 rcases h with⟨hw,⟨h1,h2⟩|⟨f,args,h1,h2⟩⟩|⟨hw,h⟩
 .exact AI ho hw QT h1 λw1 hp=>let ⟨v,w',q1,q2⟩:=h2 w1 hp;⟨v,w',q1,next v w' q2⟩
 .exact Rn.call ho hw QT h1 h2 next
 .exact nA ho hw (next undef w h)
theorem tm{id:Nat}{ds:List Nat}{G:Nat->Value->World->Prop}(RX:C.P.follows .mixedOrders=true)(RB:fI ops ds (fx.map (·.1)) N=true)(Sf:∀n v w w',G n v w->Bw w w'->G n v w')
 (QH:∀n o a w',n<ds.length->ops[n]?=some o->Bw w w'->N<=a.tmps.size->(∀p∈fx,a.tmps[p.1]?=some p.2)->(∀m d,ds[m]?=some d->kg ops n m=true->∃v,a.tmps[d]?=some v/\G m v w')->xc C ops a o w' λv Rb=>G n v Rb/\Bw w' Rb)
 (Rt:Nat->Act->World->Prop) (hs0:∀a w',Ga df fx ds G N w a w' (λ_=>True)->Rt ds.length a w')
 (QZ:∀n o a w' rest,ds.length<=n->ops[n]?=some o->Rt n a w'->(∀a' Rb,Rt (n+1) a' Rb->Rn C Goal (b.atR a' (.inRegion ops rest::k)) cs Rb)->Rn C Goal (b.atR a (.inRegion ops (n::rest)::k)) cs w')
 (Rw:∀a w',Rt ops.size a w'->Rn C Goal (b.atR a k) cs w') (Y9:a.defers=df) (hN:N<=a.tmps.size) (Uq:∀p∈fx,a.tmps[p.1]?=some p.2):Rn C Goal (b.atR a (.code (.region id ops true)::k)) cs w:=by
 refine AM λt w1 hp=>?_;rw[sH RX];exact OY (Z:=λa L w=>Rn C Goal (b.atR a (.inRegion ops L::k)) cs w) (X:=λ_ o a w R=>xc C ops a o w R) (λn o a w' rest R _ ho QT h next=>G0 ho QT h next) RB Sf QH Rt hs0 QZ (λa w' h=>Rn.plain rfl (Rw a w' h)) Y9 hN Uq hp.below t
end
section
variable{C:iJ}{c:Code}{t u:Tmp}{L:List Value}{R:Ending->World->Prop}{d:TypeDesc}
theorem bm(hf:C.P.funcs[f]?=some fn)(hb:fn.body=some c)(h:∀a,ay (dT 0 L) N [] a->Rn C Goal ((base f).atR a [.code c]) cs w)(hN:fn.ntmps=N:=by rfl)(hL:L.length<=N:=by exact Nat.le_of_ble_eq_true rfl):Rn C Goal (Frame.enter C.P f L.toArray .normal) cs w:=by
 rw[fJ L hf hb hN];exact h _ (dc L N hL)
theorem eQ(hf:C.P.funcs[f]?=some fn)(h:∀cs,Rn C (λg w'=>∃(a:Act) (k:List Item) (v:Value),g=cQ {(base f).atR a k with mode:=.returning} cs/\a.defers=[]/\(results fn a.tmps).run C.P w'= .ok v w'/\R (.returned v) w') (Frame.enter C.P f args .normal) cs w):Cl C f args w R:=λL c cs h1 _=>h (c::cs) L λfr cs' w' ⟨a,k,v,e,hd,hr,hR⟩=>by
 injection e with e1 e2;subst e1 e2;exact Rn.leave (Goal:=λg w1=>g=cQ (c.finish v) cs/\w1=w') (fr:={(base f).atR a k with mode:=.returning}) v rfl rfl hd hf hr (iA _ _) (Rn.now ⟨rfl,rfl⟩) L λfr1 Cq w1 ⟨e,ew⟩=>by
  injection e with e1 e2;subst e1 e2 ew;exact h1 v _ hR
theorem j6(hf:C.P.funcs[f]?=some fn)(Ru:fn.results=#[.tmp t])
 (h:∀cs,Rn C (λg w'=>∃(a:Act) (k:List Item) (v:Value),g=cQ {(base f).atR a k with mode:=.returning} cs/\a.defers=[]/\a.tmps[t]?=some v/\R (.returned v) w') (Frame.enter C.P f args .normal) cs w):Cl C f args w R:=by
 refine eQ hf (λcs L hG=>h cs L λfr cs' w' ⟨a,k,v,e,h1,h2,h3⟩=>hG _ _ _ ⟨a,k,v,e,h1,?_,h3⟩);rw[results_tmp Ru,Array.getD_eq_getD_getElem?,h2];rfl
theorem av(hf:C.P.funcs[f]?=some fn)(hb:fn.body=some c)(h:∀cs a,ay (dT 0 L) N [] a->Rn C (λg w'=>∃(a:Act) (k:List Item) (v:Value),g=cQ {(base f).atR a k with mode:=.returning} cs/\a.defers=[]/\a.tmps[t]?=some v/\R (.returned v) w') ((base f).atR a [.code c]) cs w)(hN:fn.ntmps=N:=by rfl)(hL:L.length<=N:=by exact Nat.le_of_ble_eq_true rfl)(Ru:fn.results=#[.tmp t]:=by rfl):Cl C f L.toArray w R:=
 j6 hf Ru λcs=>bm hf hb (h cs) hN hL
theorem ri{bk:Nat}{cells:Array Value}(h4:w'.heap[bk]?=some (.cells cells tt))(h5:cells.size=n)(hu:P.underlying ty=some d)(hd:d.isRow=true)(hi:(P.info? ty).map (·.size)=some n):(loadVar ty ⟨bk,0,none⟩).run P w'= .ok (.agg cells) w':=by
 have hr:w'.rangeAt bk 0 cells.toList:=λj x hx=>by
  rw[Nat.zero_add];have:w'.cell? ⟨bk,j,none⟩=cells[j]?:=by simp[World.cell?,h4]
  rw[this,←hx,Array.getElem?_toList]
 have hl:=run_loadVar_mid (P:=P) w' bk 0 ty cells.toList d hr hu hd (by rw[hi];simp[h5]);simpa using hl
theorem ff(hf:C.P.funcs[f]?=some fn)(Ru:fn.results=#[.cell t ty,.tmp u])(hu:C.P.underlying ty=some d)(hd:d.isRow=true)(hi:(C.P.info? ty).map (·.size)=some n)
 (h:∀cs,Rn C (λg w'=>∃(a:Act) (k:List Item) (bk:Nat) (cells:Array Value) (tt:TypeId) (v:Value),g=cQ {(base f).atR a k with mode:=.returning} cs/\a.defers=[]/\a.tmps[t]?=some (.pk bk 0)/\w'.heap[bk]?=some (.cells cells tt)/\cells.size=n/\a.tmps[u]?=some v/\R (.returned (.tuple #[.agg cells,v])) w') (Frame.enter C.P f args .normal) cs w):Cl C f args w R:=by
 refine eQ hf λcs L hG=>h cs L λfr cs' w' ⟨a,k,bk,cells,tt,v,e,h2,h3,h4,h5,h6,h7⟩=>hG _ _ _ ⟨a,k,_,e,h2,?_,h7⟩;have hp:a.tmps[t]?.getD undef=.pk bk 0:=by rw[h3];rfl
 have hv:a.tmps[u]?.getD undef=v:=by rw[h6];rfl
 simp[results,Ru,hp,hv,asAddr,ri h4 h5 hu hd hi]
theorem ce(hf:C.P.funcs[f]?=some fn)(Ru:fn.results=#[.cell t ty])(hu:C.P.underlying ty=some d)(hd:d.isRow=true)(hi:(C.P.info? ty).map (·.size)=some n)
 (h:∀cs,Rn C (λg w'=>∃(a:Act) (k:List Item) (bk:Nat) (cells:Array Value) (tt:TypeId),g=cQ {(base f).atR a k with mode:=.returning} cs/\a.defers=[]/\a.tmps[t]?=some (.pk bk 0)/\w'.heap[bk]?=some (.cells cells tt)/\cells.size=n/\R (.returned (.agg cells)) w') (Frame.enter C.P f args .normal) cs w):Cl C f args w R:=by
 refine eQ hf λcs L hG=>h cs L λfr cs' w' ⟨a,k,bk,cells,tt,e,h2,h3,h4,h5,h7⟩=>hG _ _ _ ⟨a,k,_,e,h2,?_,h7⟩;have hp:a.tmps[t]?.getD undef=.pk bk 0:=by rw[h3];rfl
 simp[results,Ru,hp,asAddr,ri h4 h5 hu hd hi]
end

end Go.Proofs.YtkmoglhgkcnalaaGreatDoor
namespace Go.Proofs.YtkmoglhgkcnalaaGreatDoor
open Go Go.Conc
open Go.ConcN (sumTo upd sumTo_upd upd_ne upd_same CT Apart PermW WgLive)
def dB(P:Program)(QS:Value->World->Prop)(m:Machine)(t:Trace):Prop:=
 ∃N last o w' t',runNT P (N+1) m t=(.ended o w',t')/\runN P N m=.next last/\step P last=.ended o w'/\Go.Conc.Good P QS last o w' t'
section
variable{PL:Program}
theorem dB.next{m m':Machine}{t ops:Trace}(h:stepT P m=(.next m',ops))(h':dB P QS m' (t++ops)):dB P QS m t:=by
 obtain⟨N,last,o,w',t',h1,h2,h3,h4⟩:=h';exact⟨N+1,last,o,w',t',by rw[runNT];simp only[h];exact h1,by rw[runN];simp only[step,h];exact h2,h3,h4⟩
theorem dB.now{m:Machine}{t ops:Trace}{o:Outcome}(h:stepT P m=(.ended o w,ops))(h':Go.Conc.Good P QS m o w (t++ops)):dB P QS m t:=
 ⟨0,m,o,w,t++ops,by simp[runNT,h],rfl,by simp[step,h],h'⟩
def di(S:Nat->Prop):Loc->Prop
 | .cell a=>S a.block
 | .obj r=>S r
 |_=>False
def fA(S:Nat->Prop)(l:Loc):Prop:=di S l\/l.isMemory=false
theorem bA{g:Nat}{fn:FuncId}{pos:String}:∀op∈MemOp.ofEvents g fn pos es,op.g=g:=λop QH=>by
 obtain⟨e,_,rfl⟩:=Go.Conc.mem_ofEvents QH;rfl
theorem rh{t:Trace}{gs:Array Goroutine}{q:Nat->Nat}(h:Leavers P t gs q)(a a':Goroutine)(w':World)(fn:FuncId)(pos:String)(es:Array Event)(XS:0<gs.size):
 Leavers P (t++MemOp.ofEvents 0 fn pos es) ((gs.map (woken P a a' w')).setIfInBounds 0 a') q:=by
 refine⟨λi g hi hg=>?_,λj hj=>?_⟩
 .rw[Array.getElem?_setIfInBounds_ne o_,Array.getElem?_map]at hg;obtain⟨y,hy,rfl⟩:=Option.map_eq_some_iff.1 hg;have hq:=h.old i y hi hy;rw[woken_quitsD hq,Deaf_other t (g':=0) o_ _ bA];exact hq
 .have SV:gs.size<=j:=by simpa using hj
  rw[Deaf_other t (g':=0) o_ _ bA];exact h.above j SV
theorem Ey{t:Trace}{gs:Array Goroutine}{q:Nat->Nat}(h:Leavers P t gs q){k:Nat}{g:Goroutine}(QK:i<gs.size)(w':World)(es:Array Event)(hq:QuitsD P k (deafBehind (Deaf t i) es) g'):
 Leavers P (t++MemOp.ofEvents i g.frame.fn g.frame.place es) ((gs.map (woken P g g' w')).setIfInBounds i g') (upd q i k):=by
 refine⟨λj x hj hx=>?_,λj hj=>?_⟩
 .by_cases hji:i=j
  .subst hji;rw[Array.getElem?_setIfInBounds_self_of_lt (by simpa using QK)]at hx;cases hx;rw[upd_same,Deaf_own];exact hq
  .rw[Array.getElem?_setIfInBounds_ne hji,Array.getElem?_map]at hx;obtain⟨y,hy,rfl⟩:=Option.map_eq_some_iff.1 hx;have VJ:=h.old j y hj hy;rw[woken_quitsD VJ,upd_ne q k (Ne.symm hji),Deaf_other t hji _ bA];exact VJ
 .have SV:gs.size<=j:=by simpa using hj
  rw[Deaf_other t (g':=i) o_ _ bA];exact h.above j SV
theorem vR{t:Trace}{gs:Array Goroutine}{q:Nat->Nat}(h:Leavers P t gs q){a:Goroutine}(h0:gs[0]?=some a)(hr:a.status=.running):∀g∈gs,Conc.awake g:=by
 intro g hg;obtain⟨i,hi,rfl⟩:=Array.mem_iff_getElem.1 hg;by_cases h1:i=0
 .subst h1;rw[Array.getElem?_eq_getElem hi]at h0;cases h0;exact awake_of (.inl hr)
 .exact awake_of ((h.old i _ o_ (Array.getElem?_eq_getElem hi)).status.elim .inl λx=>.inr (.inr x))
theorem xQ{Sh:Loc->Prop}{t:Trace}(h:Quiet Sh t){g:Nat}{fn:FuncId}{pos:String}(hm:∀e∈es,e.mute=true):Quiet Sh (t++MemOp.ofEvents g fn pos es):=
 h.app λop QH x hx _=>by
  obtain⟨e,he,rfl⟩:=Go.Conc.mem_ofEvents QH;have:=touch_mute (hm e he);simp only at hx;rw[this]at hx;cases hx
theorem GC{S:Nat->Prop}{a:Goroutine}(hr:a.status=.running)(w:World):
 ∀(M:Nat) (gs:Array Goroutine) (d0:Nat) (sl:Option (Nat×Nat)) (t:Trace) (q:Nat->Nat),sumTo gs.size q<=M->gs[0]?=some a->Leavers P t gs q->Past (fA S) B t->Quiet (fA S) t->(∀op∈t,op.g<gs.size)->
  (∀TD d0 sl0 d S8 t' q',TD[0]?=some a->Leavers P t' TD q'->Past (fA S) B t'->Quiet (fA S) t'->(∀op∈t',op.g<TD.size)->stepT P (crowd TD (w.at d0) sl0)=runT P (crowd TD (w.at d) S8) 0->dB P QS (crowd TD (w.at d0) sl0) t')->
  dB P QS (crowd gs (w.at d0) sl) t:=by
 intro M;induction M with
 |zero=>
  intro gs d0 sl t q hM h0 hL hP hQ hW hk;obtain⟨i,g,d,S8,hi,hg,QZ⟩:=crowd_pick (P:=P) (w:=w.at d0) (sl:=sl) (vR hL h0 hr) ⟨0,a,h0,hr⟩;by_cases hi0:i=0
  .subst hi0;exact hk gs d0 sl d S8 t q h0 hL hP hQ hW QZ
  .exfalso;have hq:=hL.old i g o_ hi;have QK:i<gs.size:=(Array.getElem?_eq_some_iff.1 hi).1;have U2:q i=0:=by
    have h1:sumTo gs.size (upd q i 0)+q i=sumTo gs.size q+0:=sumTo_upd q 0 id QK;omega
   rw[U2]at hq;rw[hq.1]at hg;cases hg
 |succ M ih=>
  intro gs d0 sl t q hM h0 hL hP hQ hW hk;obtain⟨i,g,d,S8,hi,hg,QZ⟩:=crowd_pick (P:=P) (w:=w.at d0) (sl:=sl) (vR hL h0 hr) ⟨0,a,h0,hr⟩;by_cases hi0:i=0
  .subst hi0;exact hk gs d0 sl d S8 t q h0 hL hP hQ hW QZ
  .have XS:0<i:=(by omega);have hq:=hL.old i g XS hi;have QK:i<gs.size:=(Array.getElem?_eq_some_iff.1 hi).1;have hib:(i==0)=false:=(by simpa using hi0);cases U2:q i with
   |zero=>rw[U2]at hq;rw[hq.1]at hg;cases hg
   |succ k=>
    rw[U2]at hq;rcases hq with⟨hf,_⟩|⟨_,g',es,hm,XM,V5⟩
    .rw[hf]at hg;cases hg
    .have Q_:=runT_crowd_go (P:=P) (sl:=S8) (i:=i) hi (by rw[hib];exact XM ((w.at d0).at d));have hsum:sumTo gs.size (upd q i k)+(k+1)=sumTo gs.size q+k:=by
      have h1:sumTo gs.size (upd q i k)+q i=sumTo gs.size q+k:=sumTo_upd q k id QK;omega
     refine dB.next (QZ.trans Q_) ?_;refine ih _ d S8 _ (upd q i k) (by simp only[Array.size_setIfInBounds,Array.size_map];omega) ?_ (Ey hL QK _ es V5) (hP.mute o_ hm) (xQ hQ hm) (λop QH=>?_) hk
     .rw[Array.getElem?_setIfInBounds_ne o_,Array.getElem?_map,h0];simp[woken_run hr]
     .rw[Array.size_setIfInBounds,Array.size_map];rcases Array.mem_append.1 QH with QH|QH
      .exact hW op QH
      .rw[bA op QH];exact QK
theorem F9{gs:Array Goroutine}{wM:World}{t:Trace}{S:Nat->Prop}{gM:Goroutine}{q:Nat->Nat}(Q_:gM.status=.running)(at0:gs[0]?=some gM)(leave:Leavers P t gs q)(past:Past (fA S) wM.heap.size t)(quiet:Quiet (fA S) t)(who:∀op∈t,op.g<gs.size)
 (h:∀d,∃v es,stepG P true gM (wM.at d)=.ended (.done v) (wM.at d) es/\(∀e∈es,EvL (fA S) wM.heap.size e)/\QS v (wM.at d)) (sl:Option (Nat×Nat)):dB P QS (crowd gs wM sl) t:=by
 refine GC Q_ wM _ gs wM.drawn sl t q (Nat.le_refl _) at0 leave past quiet who ?_;intro TD d0 sl0 d S8 t' q' h0 hL hP hQ hWho QZ;obtain⟨v,es,he,Va,hpost⟩:=h d;have Sy:=runT_many_ended (P:=P) (sl:=S8) (i:=0) h0 (show stepG P (0==0) gM (wM.at d)=_ from he);have Xs:=hP.own (fn:=gM.frame.fn) (pos:=gM.frame.place) Va;refine dB.now (QZ.trans Sy) ⟨v,rfl,hpost,Xs.clean,Xs.over,⟨λx hx=>?_,rfl⟩,λj x hx hj=>?_⟩
 .obtain⟨j,hj⟩:=List.mem_iff_getElem?.1 hx;rw[List.getElem?_drop]at hj;exact⟨_,(hL.old (1+j) x o_ (by simpa[crowd]using hj)).leaves⟩
 .refine⟨q' j,?_⟩;have hd:(t'++MemOp.ofEvents 0 gM.frame.fn gM.frame.place es).deaf j (t'++MemOp.ofEvents 0 gM.frame.fn gM.frame.place es).size=Deaf t' j:=Deaf_other t' (g:=j) (g':=0) o_ _ bA;rw[hd];exact(hL.old j x o_ hx).hears _
end
section
variable{α:Type}{r:α->α->Prop}
def Ac(r:α->α->Prop)(n:Nat)(f' f:Nat->α):Prop:=∃i x,i<n/\r x (f i)/\f'=upd f i x
theorem oe:∀(n:Nat) (f:Nat->α),(∀i,i<n->Acc r (f i))->Acc (Ac r n) f
 |0,f,_=>⟨_,λf' ⟨i,_,hi,_⟩=>absurd hi (Nat.not_lt_zero _)⟩
 |n+1,f,h=>by
  have key:∀x,Acc r x->∀f,Acc (Ac r n) f->f n=x->(∀i,i<n->Acc r (f i))->Acc (Ac r (n+1)) f:=by
   intro x hx;induction hx with
   |intro x _ ihx=>
    intro f hf;induction hf with
    |intro f hf' ihf=>
     intro hn ha;refine⟨_,λf' ⟨i,y,hi,hy,e⟩=>?_⟩;subst e;by_cases h1:i=n
     .subst h1;rw[hn]at hy;have ha':∀k,k<i->Acc r (upd f i y k):=λk hk=>by rw[upd_ne f y o_];exact ha k hk
      exact ihx y hy (upd f i y) (oe i _ ha') (upd_same f i y) ha'
     .have QK:i<n:=(by omega);refine ihf (upd f i y) ⟨i,y,QK,hy,rfl⟩ (by rw[upd_ne f y o_];exact hn) λk hk=>?_;by_cases WS:k=i
      .subst WS;rw[upd_same];exact(ha k hk).inv hy
      .rw[upd_ne f y WS];exact ha k hk
  exact key (f n) (h n (Nat.lt_succ_self n)) f (oe n f λi hi=>h i o_) rfl λi hi=>h i o_
end
structure bo (V RO:Nat->Prop) (w w':World) (es:Array Event):Prop where
 keep:∀b,b<w.heap.size->¬V b->w'.heap[b]?=w.heap[b]?
 size:w.heap.size<=w'.heap.size
 os:w'.os=w.os
 output:w'.output=w.output
 tape:w'.tape=w.tape
 ev:∀e∈es,eC (grown V w w') RO e
theorem bo.mono(h:bo V RO w w' es)(hv:∀b,V b->V' b):bo V' RO w w' es:=
 ⟨λb hb hn=>h.keep b hb λx=>hn (hv b x),h.size,h.os,h.output,h.tape,λe he=>(h.ev e he).mono λb hb=>hb.imp (hv b) id⟩
structure dw (V:Nat->Prop) (w QI:World):Prop where
 keep:∀b,V b->QI.heap[b]?=w.heap[b]?
 size:w.heap.size<=QI.heap.size
 os:QI.os=w.os
 output:QI.output=w.output
 tape:QI.tape=w.tape
theorem dw.refl(V:Nat->Prop)(w:World):dw V w w:=⟨λ_ _=>rfl,Nat.le_refl _,rfl,rfl,rfl⟩
theorem dw.trans{RJ:World}(h:dw V w QI)(h':dw V QI RJ):dw V w RJ:=
 ⟨λb hb=>(h'.keep b hb).trans (h.keep b hb),Nat.le_trans h.size h'.size,h'.os.trans h.os,h'.output.trans h.output,h'.tape.trans h.tape⟩
theorem dw.at(V:Nat->Prop)(w:World)(d:Nat):dw V w (w.at d):=⟨λ_ _=>rfl,Nat.le_refl _,rfl,rfl,rfl⟩
theorem dw.mono(h:dw V w QI)(hv:∀b,V' b->V b):dw V' w QI:=⟨λb hb=>h.keep b (hv b hb),h.size,h.os,h.output,h.tape⟩
section
variable{Sh:Loc->Prop}{Own Wb Rd Rd':Nat->Loc->Prop}{t:Trace}
theorem J7(h:CT Sh Own Rd t j)(ho:∀i a,touchAt t i=some a->∀k,Wb k a.loc↔Own k a.loc)(hr:∀i a,touchAt t i=some a->∀k,Rd' k a.loc↔Rd k a.loc):CT Sh Wb Rd' t j:=
 {quiet:=h.quiet
  own:=λk k1 kj l hl i a ha e=>h.own k k1 kj l (by rw[←e];exact(ho i a ha k).1 (by rw[e];exact hl)) i a ha e
  rd:=λk k1 kj l hl i a ha e hw=>h.rd k k1 kj l (by rw[←e];exact(hr i a ha k).1 (by rw[e];exact hl)) i a ha e hw
  free:=λl hs hl i a ha e=>h.free l hs (λk k1 kj=>⟨λx=>(hl k k1 kj).1 (by rw[←e];exact(ho i a ha k).2 (by rw[e];exact x)),λx=>(hl k k1 kj).2 (by rw[←e];exact(hr i a ha k).2 (by rw[e];exact x))⟩) i a ha e
  mine:=λl hs hl i a ha e hw=>h.mine l hs (λk k1 kj x=>hl k k1 kj (by rw[←e];exact(ho i a ha k).2 (by rw[e];exact x))) i a ha e hw
  nr:=h.nr
  gs:=h.gs}
end

end Go.Proofs.YtkmoglhgkcnalaaGreatDoor
namespace Go.Proofs.YtkmoglhgkcnalaaGreatDoor
open Go Go.Conc
open Go.ConcN (sumTo upd sumTo_upd upd_ne upd_same CT Apart PermW WgLive)
open Go.ConcR (KK WgAt stA smA rd wr mk DC0)
abbrev dh:Go.ConcR.Payload:=⟨0⟩
def NM(P:Program)(ty:TypeId)(Wg:Nat):Goroutine->World->Prop:= @Go.ConcN.AtK1 dh P ty Wg 0 0 0 1
def tu(ty:TypeId)(Wg:Nat):World->World->Prop:= @Go.ConcN.RW dh ty Wg 0 0 0 0
structure aA where
 P:Program
 ty:TypeId
 /-- the group's block;the XG;the type of the XG cells;how many there are;what each is to hold-/
 Wg:Nat
 C:Nat
 ety:TypeId
 n:Nat
 val:Nat->Value
 /-- what nobody writes-/
 RO:Nat->Prop
 /-- whose cell is whose-/
 mine:Nat->Nat->Prop
def aA.list(X:aA)(w:World):Prop:=∃cs,w.heap[X.C]?=some (.cells cs X.ety)/\cs.size=X.n
def aA.at(X:aA)(c:Nat):Addr:=⟨X.C,c,none⟩
structure aV (X:aA) (i:Nat) (V:Nat->Prop) (w QI:World):Prop where
 own:dw (λb=>V b\/X.RO b) w QI
 live:WgLive X.ty X.Wg w->WgLive X.ty X.Wg QI
 list:X.list w->X.list QI
 cells:∀c,X.mine i c->QI.cell? (X.at c)=w.cell? (X.at c)
theorem aV.refl(X:aA)(i:Nat)(V:Nat->Prop)(w:World):aV X i V w w:=⟨dw.refl _ w,id,id,λ_ _=>rfl⟩
theorem aV.trans{X:aA}{RJ:World}(h:aV X i V w QI)(h':aV X i V QI RJ):aV X i V w RJ:=
 ⟨h.own.trans h'.own,h'.live∘h.live,h'.list∘h.list,λc hc=>(h'.cells c hc).trans (h.cells c hc)⟩
structure ep where
 V:Nat->Prop
 g:Goroutine
 w:World
def tz(X:aA)(i:Nat)(x:ep):Prop:=
 x.g.status=.running/\∀QI,aV X i x.V x.w QI->(∀c,X.mine i c->QI.cell? (X.at c)=some (X.val c))/\
  ∃g',stepG X.P false x.g QI=.go g' QI #[mk (.releaseMerge (stA X.Wg))]/\∃m,Goes X.P false (tu X.ty X.Wg) DC0 (NM X.P X.ty X.Wg) m g' QI
def iU(X:aA)(i:Nat)(V:Nat->Prop)(w w':World)(es:Array Event):Prop:=
 bo V X.RO w w' es\/∃c v,X.mine i c/\w'=w.setCell (X.at c) v/\es=#[⟨.cell (X.at c),true,false⟩]
def ep.next(x:ep)(QI:World)(g':Goroutine)(w':World):ep:=⟨grown x.V QI w',g',w'⟩
def aE(X:aA)(i:Nat)(x:ep):Prop:=
 ∀Q:ep->Prop,(∀x,tz X i x->Q x)->
  (∀x:ep,x.g.status=.running->(∀QI,aV X i x.V x.w QI->∃g' w' es,stepG X.P false x.g QI=.go g' w' es/\iU X i x.V QI w' es/\Q (x.next QI g' w'))->Q x)->Q x
section
variable{X:aA}{x:ep}
theorem aE.stop(h:tz X i x):aE X i x:=λ_ hs _=>hs x h
theorem aE.step(hr:x.g.status=.running)(h:∀QI,aV X i x.V x.w QI->∃g' w' es,stepG X.P false x.g QI=.go g' w' es/\iU X i x.V QI w' es/\aE X i (x.next QI g' w')):aE X i x:=
 λQ hs hn=>hn x hr λQI QJ=>let ⟨g',w',es,h1,h2,h3⟩:=h QI QJ;⟨g',w',es,h1,h2,h3 Q hs hn⟩
theorem aE.cases(h:aE X i x):tz X i x\/(x.g.status=.running/\∀QI,aV X i x.V x.w QI->∃g' w' es,stepG X.P false x.g QI=.go g' w' es/\iU X i x.V QI w' es/\aE X i (x.next QI g' w')):=by
 have key:=h (λx=>aE X i x/\(tz X i x\/(x.g.status=.running/\∀QI,aV X i x.V x.w QI->∃g' w' es,stepG X.P false x.g QI=.go g' w' es/\iU X i x.V QI w' es/\aE X i (x.next QI g' w'))))
  (λx hs=>⟨aE.stop hs,.inl hs⟩) (λx hr hn=>?_)
 .exact key.2
 .have h':∀QI,aV X i x.V x.w QI->∃g' w' es,stepG X.P false x.g QI=.go g' w' es/\iU X i x.V QI w' es/\aE X i (x.next QI g' w'):=λQI QJ=>
   let ⟨g',w',es,h1,h2,h3⟩:=hn QI QJ
   ⟨g',w',es,h1,h2,h3.1⟩
  exact⟨aE.step hr h',.inr ⟨hr,h'⟩⟩
theorem aE.running(h:aE X i x):x.g.status=.running:=by
 rcases h.cases with h|h
 .exact h.1
 .exact h.1
def jj(X:aA)(i:Nat)(y x:ep):Prop:=¬tz X i x/\∃QI g' w' es,aV X i x.V x.w QI/\stepG X.P false x.g QI=.go g' w' es/\y=x.next QI g' w'
theorem aE.acc(h:aE X i x):Acc (jj X i) x:=by
 refine h (λx=>Acc (jj X i) x) (λx hs=>⟨_,λy hy=>absurd hs hy.1⟩) λx _ hn=>⟨_,λy hy=>?_⟩;obtain⟨_,QI,g',w',es,h1,h2,rfl⟩:=hy;obtain⟨g2,w2,es2,h3,_,h4⟩:=hn QI h1;rw[h3]at h2;cases h2;exact h4
end
structure aY (X:aA) (V:Nat->Prop) (w QI:World):Prop where
 own:dw (λb=>V b\/X.RO b) w QI
 live:WgLive X.ty X.Wg w->WgLive X.ty X.Wg QI
theorem aY.refl(X:aA)(V:Nat->Prop)(w:World):aY X V w w:=⟨dw.refl _ w,id⟩
theorem aY.trans{X:aA}{RJ:World}(h:aY X V w QI)(h':aY X V QI RJ):aY X V w RJ:=⟨h.own.trans h'.own,h'.live∘h.live⟩
def bq(X:aA)(Next:(Nat->Prop)->Goroutine->World->Prop):Nat->(Nat->Prop)->Goroutine->World->Prop
 |0,V,g,w=>∀QI,aY X V w QI->Next V g QI
 |m+1,V,g,w=>(∀QI,aY X V w QI->Next V g QI)\/(g.status=.running/\∀QI,aY X V w QI->∃g' w' es,stepG X.P true g QI=.go g' w' es/\bo V X.RO QI w' es/\bq X Next m (grown V QI w') g' w')
section
variable{X:aA}{Next Xw:(Nat->Prop)->Goroutine->World->Prop}{g:Goroutine}
theorem bq.stop(h:∀QI,aY X V w QI->Next V g QI):bq X Next m V g w:=by
 cases m with
 |zero=>exact h
 |succ m=>exact .inl h
theorem bq.step(hr:g.status=.running)(h:∀QI,aY X V w QI->∃g' w' es,stepG X.P true g QI=.go g' w' es/\bo V X.RO QI w' es/\bq X Next m (grown V QI w') g' w'):bq X Next (m+1) V g w:=.inr ⟨hr,h⟩
theorem bq.rely:∀{m:Nat} {V:Nat->Prop} {g:Goroutine} {w QI:World},bq X Next m V g w->aY X V w QI->bq X Next m V g QI
 |0,_,_,_,_,h,hr=>λRJ SQ=>h RJ (hr.trans SQ)
 |_+1,_,_,_,_,h,hr=>h.elim (λh=>.inl λRJ SQ=>h RJ (hr.trans SQ)) λ⟨hs,h⟩=>.inr ⟨hs,λRJ SQ=>h RJ (hr.trans SQ)⟩
theorem bq.mono(hN:∀V g w,Next V g w->Xw V g w):∀{m:Nat} {V:Nat->Prop} {g:Goroutine} {w:World},bq X Next m V g w->bq X Xw m V g w
 |0,_,_,_,h=>λQI QJ=>hN _ _ _ (h QI QJ)
 |_+1,_,_,_,h=>h.elim (λh=>.inl λQI QJ=>hN _ _ _ (h QI QJ)) λ⟨hs,h⟩=>.inr ⟨hs,λQI QJ=>let ⟨g',w',es,h1,h2,h3⟩:=h QI QJ;⟨g',w',es,h1,h2,bq.mono hN h3⟩⟩
theorem bq.running(hN:∀V g w,Next V g w->g.status=.running)(h:bq X Next m V g w):g.status=.running:=by
 cases m with
 |zero=>exact hN _ _ _ (h w (aY.refl X V w))
 |succ m=>exact h.elim (λh=>hN _ _ _ (h w (aY.refl X V w))) λh=>h.1
theorem bq.trans{G5:(Nat->Prop)->Goroutine->World->Prop}{k:Nat}:∀{m:Nat} {V:Nat->Prop} {g:Goroutine} {w:World},bq X G5 m V g w->(∀V g w,G5 V g w->bq X Next k V g w)->bq X Next (m+k) V g w
 |0,V,g,w,h,hM=>by
  have h0:=hM V g w (h w (aY.refl X V w));rw[Nat.zero_add];exact h0
 |m+1,V,g,w,h,hM=>by
  rw[show m+1+k=(m+k)+1 from by omega];rcases h with h|⟨hs,h⟩
  .have h0:=hM V g w (h w (aY.refl X V w));have up:∀{k:Nat} {V:Nat->Prop} {g:Goroutine} {w:World},bq X Next k V g w->∀e,bq X Next (e+k) V g w:=by
    intro k;induction k with
    |zero=>exact λh e=>bq.stop h
    |succ k ih=>
     intro V g w h e;rw[show e+(k+1)=(e+k)+1 from by omega];exact h.elim .inl λ⟨hs,h⟩=>.inr ⟨hs,λQI QJ=>let ⟨g',w',es,h1,h2,h3⟩:=h QI QJ;⟨g',w',es,h1,h2,ih h3 e⟩⟩
   rw[show m+k+1=(m+1)+k from by omega];exact up h0 (m+1)
  .exact .inr ⟨hs,λQI QJ=>let ⟨g',w',es,h1,h2,h3⟩:=h QI QJ;⟨g',w',es,h1,h2,bq.trans h3 hM⟩⟩
theorem c_(V RO:Nat->Prop)(w:World):bo V RO w w #[]:=⟨λ_ _ _=>rfl,Nat.le_refl _,rfl,rfl,rfl,λe he=>by simp at he⟩
theorem bK(V:Nat->Prop)(w:World):grown V w w=V:=by
 funext b
 apply propext;exact⟨λh=>h.elim id λh=>absurd h.2 (Nat.not_lt.2 h.1),.inl⟩
theorem nE{Stop:Goroutine->World->Prop}:∀{m:Nat} {g:Goroutine} {w:World},Goes X.P true (aY X V) DC0 Stop m g w->bq X (λV' g w=>V'=V/\Stop g w) m V g w
 |0,_,_,h=>λQI QJ=>⟨rfl,h QI QJ⟩
 |m+1,g,w,h=>by
  rcases h with h|⟨hs,h⟩
  .exact .inl λQI QJ=>⟨rfl,h QI QJ⟩
  .refine .inr ⟨hs,λQI QJ=>?_⟩;have hg:=h QI QJ;cases QZ:stepG X.P true g QI with
   |go g' w' es=>
    rw[QZ,goes_go]at hg;obtain⟨⟨h1,h2⟩,h3⟩:=hg;subst h1 h2;refine⟨g',w',#[],rfl,c_ _ _ _,?_⟩;rw[bK];exact nE h3
   |_=>rw[QZ]at hg;exact hg.elim
end

end Go.Proofs.YtkmoglhgkcnalaaGreatDoor
namespace Go.Proofs.YtkmoglhgkcnalaaGreatDoor
open Go Go.Conc
open Go.ConcR (DC0)
section
variable{X:aA}{Stop:Goroutine->World->Prop}
theorem mJ(h:∀e∈es,eC V RO e):bo V RO w w es:=⟨λ_ _ _=>rfl,Nat.le_refl _,rfl,rfl,rfl,λe he=>(h e he).mono λ_ hb=>.inl hb⟩
theorem lw(V RO:Nat->Prop)(w:World)(o:Obj):bo V RO w (w.alloc o) #[]:=
 ⟨λb hb _=>by show(w.heap.push o)[b]?=_;rw[Array.getElem?_push,if_neg (Nat.ne_of_lt hb)],by show _<=(w.heap.push o).size;rw[Array.size_push];omega,rfl,rfl,rfl,λe he=>by simp at he⟩
theorem A5{a:Addr}(ha:V a.block)(v:Value):bo V RO w (w.setCell a v) #[⟨.cell a,true,false⟩]:=
 ⟨λb _ hb=>by simp only[World.setCell];exact nS λe=>hb (e▸ha),by simp[World.setCell],rfl,rfl,rfl,λe he=>by simp only[List.mem_toArray,List.mem_singleton]at he;subst he;exact⟨rfl,.inl (.inl ha)⟩⟩
theorem aE.own{g:Goroutine}(hr:g.status=.running)(h:∀QI,aV X i V w QI->∃g' w' es,stepG X.P false g QI=.go g' w' es/\bo V X.RO QI w' es/\aE X i ⟨grown V QI w',g',w'⟩):aE X i ⟨V,g,w⟩:=
 aE.step hr λQI QJ=>let ⟨g',w',es,h1,h2,h3⟩:=h QI QJ;⟨g',w',es,h1,.inl h2,h3⟩
theorem aE.put{g:Goroutine}(hr:g.status=.running)(h:∀QI,aV X i V w QI->∃g' c v,X.mine i c/\stepG X.P false g QI=.go g' (QI.setCell (X.at c) v) #[⟨.cell (X.at c),true,false⟩]/\aE X i ⟨V,g',QI.setCell (X.at c) v⟩):aE X i ⟨V,g,w⟩:=by
 refine aE.step hr λQI QJ=>?_;obtain⟨g',c,v,h1,h2,h3⟩:=h QI QJ;refine⟨g',_,_,h2,.inr ⟨c,v,h1,rfl,rfl⟩,?_⟩;have e:grown V QI (QI.setCell (X.at c) v)=V:=by
  funext b
  apply propext;exact⟨λh=>h.elim id λh=>absurd h.2 (by simpa[World.setCell]using h.1),.inl⟩
 show aE X i ⟨grown V QI (QI.setCell (X.at c) v),g',_⟩;rw[e];exact h3
end

end Go.Proofs.YtkmoglhgkcnalaaGreatDoor
namespace Go.Proofs.YtkmoglhgkcnalaaGreatDoor
open Go Go.Conc
open Go.ConcN (WgLive)
open Go.ConcR (KK WgAt stA smA rd wr DC0)
section
variable{main:Bool}{R R':World->World->Prop}{D':World->World->Array Event->Prop}{Stop:Goroutine->World->Prop}{rel:Mark}
def Ki(P:Program)(main:Bool)(g:Goroutine)(w:World):Prop:=∃g',stepG P main g w=.go g' w #[Go.ConcR.mk .disable]
def zA(P:Program)(main:Bool)(R:World->World->Prop)(rel:Mark)(g:Goroutine)(w:World):Prop:=
 g.status=.running/\∃g',stepG P main g w=.go g' w #[Go.ConcR.mk rel]/\∃m,Goes P main R DC0 (Ki P main) m g' w
theorem Er{a b:Mark}(h:(#[Go.ConcR.mk a]:Array Event)=#[Go.ConcR.mk b]):a=b:=by
 simpa[Go.ConcR.mk]using h
theorem Ib(U1:rel≠ .disable)(hR:∀w,R w w)(Wo:∀w,R' w w)(hS:∀g w,Stop g w->∃g',stepG P main g w=.go g' w #[Go.ConcR.mk rel])(hD:∀w w',¬D' w w' #[Go.ConcR.mk .disable]):
 ∀(m n:Nat) (g:Goroutine) (w:World),Goes P main R DC0 (Ki P main) m g w->Goes P main R' D' Stop n g w->False:=by
 have TO:∀n g w,Goes P main R' D' Stop n g w->∀g' es,stepG P main g w=.go g' w es->es≠#[Go.ConcR.mk rel]->D' w w es/\∃n',n=n'+1/\Goes P main R' D' Stop n' g' w:=by
  intro n g w h g' es QZ QQ;rcases Goes.cases h with hs|⟨n',rfl,hs⟩
  .obtain⟨g1,h1⟩:=hS g w (hs w (Wo w));rw[QZ]at h1;cases h1;exact absurd rfl QQ
  .obtain⟨g1,w1,Wu,h1,h2,h3⟩:=hs w (Wo w);rw[QZ]at h1;cases h1;exact⟨h2,n',rfl,h3⟩
 intro m;induction m with
 |zero=>
  intro n g w h h';obtain⟨g',QZ⟩:=h w (hR w);exact hD _ _ (TO n g w h' g' _ QZ λe=>U1 (Er e).symm).1
 |succ m ih=>
  intro n g w h h';rcases Goes.cases h with hs|⟨m',e,hs⟩
  .obtain⟨g',QZ⟩:=hs w (hR w);exact hD _ _ (TO n g w h' g' _ QZ λe=>U1 (Er e).symm).1
  .cases e;obtain⟨g',w',es,QZ,⟨rfl,rfl⟩,h2⟩:=hs w (hR w);obtain⟨_,n',rfl,h3⟩:=TO n g w' h' g' _ QZ s_;exact ih n' g' w' h2 h3
theorem zd(U1:rel≠ .disable)(hR:∀w,R w w)(Wo:∀w,R' w w)(Sd:∀w w',R w w'->R' w w')(htr:∀a b c,R' a b->R' b c->R' a c)(hS:∀g w,Stop g w->∃g',stepG P main g w=.go g' w #[Go.ConcR.mk rel])(hD:∀w w',¬D' w w' #[Go.ConcR.mk .disable]):
 ∀(m n:Nat) (g:Goroutine) (w:World),Goes P main R DC0 (zA P main R rel) m g w->Goes P main R' D' Stop n g w->Goes P main R DC0 Stop m g w:=by
 have cand:∀n g w,zA P main R rel g w->Goes P main R' D' Stop n g w->Stop g w:=by
  intro n g w ⟨_,g',QZ,m,hm⟩ h;rcases Goes.cases h with hs|⟨n',rfl,hs⟩
  .exact hs w (Wo w)
  .exfalso;obtain⟨g1,w1,Wu,h1,h2,h3⟩:=hs w (Wo w);rw[QZ]at h1;cases h1;exact Ib U1 hR Wo hS hD m n' _ _ hm h3
 intro m;induction m with
 |zero=>exact λn g w h h' QI QJ=>cand n g QI (h QI QJ) (Goes.rely htr h' (Sd _ _ QJ))
 |succ m ih=>
  intro n g w h h';rcases h with h|⟨hs,h⟩
  .exact .inl λQI QJ=>cand n g QI (h QI QJ) (Goes.rely htr h' (Sd _ _ QJ))
  .refine .inr ⟨hs,λQI QJ=>?_⟩;have hg:=h QI QJ;cases QZ:stepG P main g QI with
   |go g' w' es=>
    rw[QZ,goes_go]at hg;rw[goes_go];obtain⟨⟨h1,h2⟩,h3⟩:=hg;subst h1 h2;refine⟨⟨rfl,rfl⟩,?_⟩;have h'':=Goes.rely htr h' (Sd _ _ QJ);rcases Goes.cases h'' with hq|⟨n',rfl,hq⟩
    .obtain⟨g1,e1⟩:=hS g _ (hq _ (Wo _));rw[QZ]at e1;simp at e1
    .obtain⟨g1,w1,Wu,e1,_,e3⟩:=hq _ (Wo _);rw[QZ]at e1;cases e1;exact ih n' _ _ h3 e3
   |_=>rw[QZ]at hg;exact hg.elim
end

end Go.Proofs.YtkmoglhgkcnalaaGreatDoor
namespace Go.Proofs.YtkmoglhgkcnalaaGreatDoor
open Go Go.Conc
open Go.ConcN (sumTo upd sumTo_upd upd_ne upd_same CT Apart PermW WgLive)
open Go.ConcR (KK WgAt stA smA rd wr mk DC0)
section
variable(X:aA)(Fin Anch:(Nat->Prop)->Goroutine->World->Prop)
def zt(m:Mark)(Next:(Nat->Prop)->Goroutine->World->Prop)(V:Nat->Prop)(g:Goroutine)(w:World):Prop:=
 g.status=.running/\∃g',stepG X.P true g w=.go g' w #[mk m]/\∃k,bq X Next k V g' w
def Kj:=zt X (.acquire (stA X.Wg)) Fin
def NN:=zt X .enable (Kj X Fin)
def Px(V:Nat->Prop)(g:Goroutine)(w:World):Prop:=
 g.status=.running/\(WgAt X.ty X.Wg w 0 0->∃g',stepG X.P true g w=.go g' w #[rd (stA X.Wg)]/\∃k,bq X (NN X Fin) k V g' w)
def NL(V:Nat->Prop)(g:Goroutine)(w:World):Prop:=
 g.status=.running/\g.offers=none/\((∃st,WgAt X.ty X.Wg w st 0)->stepG X.P true g w=.go {g with status:=.blocked} w #[])/\
  (WgAt X.ty X.Wg w 0 1->∃g',stepG X.P true g w=.go g' (w.setCell (smA X.Wg) (.int .u32 0)) (semEvents (smA X.Wg))/\∃k,bq X (Px X Fin) k V g' (w.setCell (smA X.Wg) (.int .u32 0)))
def Pw:=zt X (.write (smA X.Wg)) (NL X Fin)
def Py(vs:Nat)(V:Nat->Prop)(g:Goroutine)(w:World):Prop:=
 g.status=.running/\∀v:Nat,v<2147483648->WgAt X.ty X.Wg w (v*KK) 0->
  (v=vs->∃g',stepG X.P true g w=.go g' (w.setCell (stA X.Wg) (.int .u64 (v*KK+1))) #[rd (stA X.Wg),wr (stA X.Wg)]/\∃k,bq X (Pw X Fin) k V g' (w.setCell (stA X.Wg) (.int .u64 (v*KK+1))))/\
  (v≠vs->∃g',stepG X.P true g w=.go g' w #[rd (stA X.Wg)]/\∃k,bq X Anch k V g' w)
def pE(V:Nat->Prop)(g:Goroutine)(w:World):Prop:=
 g.status=.running/\∀v:Nat,v<2147483648->WgAt X.ty X.Wg w (v*KK) 0->∃g',stepG X.P true g w=.go g' w #[rd (stA X.Wg)]/\
  (v=0->∃k,bq X (NN X Fin) k V g' w)/\(v≠0->∃k,bq X (Py X Fin Anch v) k V g' w)
def Gg:=zt X .disable Anch
def NO(i:Nat)(Next:(Nat->Prop)->Goroutine->World->Prop)(V:Nat->Prop)(g:Goroutine)(w:World):Prop:=
 g.status=.running/\∃g' child Vc,stepG X.P true g w=.spawn g' child w #[]/\(∀b,Vc b->V b)/\(X.list w->(∀b,Vc b->b<w.heap.size)->aE X i ⟨Vc,child,w⟩)/\Next (λb=>V b/\¬Vc b) g' w
def Gf(i:Nat)(Next:(Nat->Prop)->Goroutine->World->Prop):=zt X .enable (NO X i Next)
def Pz(i:Nat)(Next:(Nat->Prop)->Goroutine->World->Prop):=zt X (.read (smA X.Wg)) (Gf X i Next)
def PC(i:Nat)(Next:(Nat->Prop)->Goroutine->World->Prop)(V:Nat->Prop)(g:Goroutine)(w:World):Prop:=
 g.status=.running/\∀v:Nat,v<2147483647->WgAt X.ty X.Wg w (v*KK) 0->
  ∃g',stepG X.P true g w=.go g' (w.setCell (stA X.Wg) (.int .u64 ((v+1)*KK))) #[rd (stA X.Wg),wr (stA X.Wg)]/\
   (v=0->∃k,bq X (Pz X i Next) k V g' (w.setCell (stA X.Wg) (.int .u64 ((v+1)*KK))))/\(v≠0->∃k,bq X (Gf X i Next) k V g' (w.setCell (stA X.Wg) (.int .u64 ((v+1)*KK))))
def xf(i:Nat)(Next:(Nat->Prop)->Goroutine->World->Prop):=zt X .disable (PC X i Next)
def ji(n:Nat):Nat->(Nat->Prop)->Goroutine->World->Prop
 |0,V,g,w=>∃k,bq X (Gg X Anch) k V g w
 |r+1,V,g,w=>∃k,bq X (xf X (n-(r+1)) (ji n r)) k V g w
end

end Go.Proofs.YtkmoglhgkcnalaaGreatDoor
namespace Go.Proofs.YtkmoglhgkcnalaaGreatDoor
open Go Go.Conc
open Go.ConcN (sumTo upd sumTo_upd upd_ne upd_same CT Apart PermW WgLive RelBy WD ShN OkW Ok0)
open Go.ConcR (KK WgAt stA smA rd wr mk DC0)
abbrev wZ(X:aA):Nat->Nat->Nat->Goroutine->World->Prop:= @Go.ConcN.WSit dh X.P X.ty X.Wg 0 0 (λ_ _=>False) (λ_ _=>False) 0 1 .nilFunc
def gF(S:Nat->Prop)(Wg:Nat)(l:Loc):Prop:=fA (λb=>S b\/b=Wg) l
def mL(X:aA)(m j:Nat)(Nd:Nat->ep)(k:Nat)(l:Loc):Prop:=∃i,i<j/\k=1+m+i/\(di (Nd i).V l\/∃c,X.mine i c/\l=.cell (X.at c))
def tW(X:aA)(m:Nat)(k:Nat)(l:Loc):Prop:=m<k/\di X.RO l
structure iB (X:aA) (S:Nat->Prop) (j:Nat) (Nd:Nat->ep) (V0:Nat->Prop) (w:World):Prop where
 mine:∀i i' c,X.mine i c->X.mine i' c->i=i'
 wgc:X.Wg≠X.C
 wgl:X.Wg<w.heap.size/\X.C<w.heap.size
 ro:∀b,X.RO b->b<w.heap.size/\b≠X.Wg/\b≠X.C
 sh:∀b,S b->b<w.heap.size/\¬X.RO b/\b≠X.C
 v0:∀b,V0 b->b<w.heap.size/\¬X.RO b/\b≠X.Wg/\b≠X.C/\¬S b
 priv:∀i,i<j->∀b,(Nd i).V b->b<w.heap.size/\¬X.RO b/\b≠X.Wg/\b≠X.C/\¬S b/\¬V0 b
 two:∀i i',i<j->i'<j->∀b,(Nd i).V b->(Nd i').V b->i=i'
section
variable{X:aA}{S:Nat->Prop}{Nd:Nat->ep}
theorem fa{B:Nat->Prop}{l:Loc}(ha:di A l)(hb:di B l):∃b,A b/\B b:=by
 cases l with
 |cell a=>exact⟨_,ha,hb⟩
 |obj r=>exact⟨_,ha,hb⟩
 |_=>exact ha.elim
theorem tG{B:Nat->Prop}{l:Loc}(ha:di A l)(hb:fA B l):∃b,A b/\B b:=by
 rcases hb with hb|hb
 .exact fa ha hb
 .cases l with
  |cell a=>cases hb
  |obj r=>cases hb
  |_=>exact ha.elim
theorem iB.apart(h:iB X S j Nd V0 w):Apart (gF S X.Wg) (mL X m j Nd) (tW X m):=by
 refine⟨λk k' l ⟨i,hi,hk,ho⟩ ⟨i',R5,V9,WJ⟩=>?_,λk k' l ⟨i,hi,hk,ho⟩ ⟨_,hr⟩=>?_,λk l ⟨i,hi,hk,ho⟩ hs=>?_,λk l ⟨_,hr⟩ hs=>?_⟩
 .have:i=i':=by
   rcases ho with ho|⟨c,hc,rfl⟩<;>rcases WJ with WJ|⟨c',TT,e⟩
   .obtain⟨b,h1,h2⟩:=fa ho WJ;exact h.two i i' hi R5 b h1 h2
   .subst e;exact absurd rfl (h.priv i hi _ ho).2.2.2.1
   .exact absurd rfl (h.priv i' R5 _ WJ).2.2.2.1
   .simp only[aA.at,Loc.cell.injEq,Addr.mk.injEq,true_and,and_true]at e;subst e;exact h.mine i i' c hc TT
  omega
 .rcases ho with ho|⟨c,hc,rfl⟩
  .obtain⟨b,h1,h2⟩:=fa ho hr;exact(h.priv i hi b h1).2.1 h2
  .exact absurd rfl (h.ro _ hr).2.2
 .rcases ho with ho|⟨c,hc,rfl⟩
  .obtain⟨b,h1,h2⟩:=tG ho hs;exact h2.elim (h.priv i hi b h1).2.2.2.2.1 (h.priv i hi b h1).2.2.1
  .have SI:S X.C\/X.C=X.Wg:=hs.elim id λh=>by cases h
   exact SI.elim (λhs=>absurd rfl (h.sh _ hs).2.2) λe=>h.wgc e.symm
 .obtain⟨b,h1,h2⟩:=tG hr hs;exact h2.elim (λh2=>(h.sh b h2).2.1 h1) (h.ro b h1).2.1
theorem iB.grow(h:iB X S j Nd V0 w)(hs:w.heap.size<=w'.heap.size):iB X S j Nd V0 w':=
 ⟨h.mine,h.wgc,⟨by have:=h.wgl.1;omega,by have:=h.wgl.2;omega⟩,λb hb=>⟨by have:=(h.ro b hb).1;omega,(h.ro b hb).2⟩,λb hb=>⟨by have:=(h.sh b hb).1;omega,(h.sh b hb).2⟩,λb hb=>⟨by have:=(h.v0 b hb).1;omega,(h.v0 b hb).2⟩,λi hi b hb=>⟨by have:=(h.priv i hi b hb).1;omega,(h.priv i hi b hb).2⟩,h.two⟩
theorem iB.work(h:iB X S j Nd V0 w)(hi:i<j){wl:World}(hs:w.heap.size<=w'.heap.size):iB X S j (upd Nd i ⟨grown (Nd i).V w w',g',wl⟩) V0 w':=by
 have hg:=h.grow hs;have SC:∀b,w.heap.size<=b/\b<w'.heap.size->b<w'.heap.size/\¬X.RO b/\b≠X.Wg/\b≠X.C/\¬S b/\¬V0 b:=λb hb=>
  ⟨hb.2,λhr=>by have:=(h.ro b hr).1;omega,by have:=h.wgl.1;omega,by have:=h.wgl.2;omega,λhr=>by have:=(h.sh b hr).1;omega,λhr=>by have:=(h.v0 b hr).1;omega⟩
 refine⟨hg.mine,hg.wgc,hg.wgl,hg.ro,hg.sh,hg.v0,λk hk b hb=>?_,λk k' hk V9 b hb Sk=>?_⟩
 .by_cases e:k=i
  .subst e;rw[upd_same]at hb;rcases hb with hb|hb
   .exact hg.priv k hk b hb
   .exact SC b hb
  .rw[upd_ne Nd _ e]at hb;exact hg.priv k hk b hb
 .by_cases e:k=i<;>by_cases e':k'=i
  .omega
  .subst e;rw[upd_same]at hb;rw[upd_ne Nd _ e']at Sk;rcases hb with hb|hb
   .exact h.two k k' hk V9 b hb Sk
   .have:=(h.priv k' V9 b Sk).1;omega
  .subst e';rw[upd_same]at Sk;rw[upd_ne Nd _ e]at hb;rcases Sk with Sk|Sk
   .exact h.two k k' hk V9 b hb Sk
   .have:=(h.priv k hk b hb).1;omega
  .rw[upd_ne Nd _ e]at hb;rw[upd_ne Nd _ e']at Sk;exact h.two k k' hk V9 b hb Sk
theorem iB.main(h:iB X S j Nd V0 w)(hs:w.heap.size<=w'.heap.size):iB X S j Nd (grown V0 w w') w':=by
 have hg:=h.grow hs;refine⟨hg.mine,hg.wgc,hg.wgl,hg.ro,hg.sh,λb hb=>?_,λk hk b hb=>?_,hg.two⟩
 .rcases hb with hb|hb
  .exact hg.v0 b hb
  .exact⟨hb.2,λhr=>by have:=(h.ro b hr).1;omega,by have:=h.wgl.1;omega,by have:=h.wgl.2;omega,λhr=>by have:=(h.sh b hr).1;omega⟩
 .obtain⟨h1,h2,h3,h4,h5,h6⟩:=hg.priv k hk b hb;refine⟨h1,h2,h3,h4,h5,λhv=>hv.elim h6 λhv=>?_⟩;have:=(h.priv k hk b hb).1;omega
end

end Go.Proofs.YtkmoglhgkcnalaaGreatDoor
namespace Go.Proofs.YtkmoglhgkcnalaaGreatDoor
open Go Go.Conc
open Go.ConcN (sumTo upd sumTo_upd upd_ne upd_same CT Apart PermW WgLive RelBy WD ShN OkW Ok0 norel_of)
open Go.ConcR (KK WgAt stA smA rd wr mk DC0)
structure iC (X:aA) (S:Nat->Prop) (m j:Nat) (gs:Array Goroutine) (w:World) (t:Trace) (D:Nat->WD) (Nd:Nat->ep) (V0:Nat->Prop) (d0:Nat) (q:Nat->Nat):Prop where
 size:gs.size=1+m+j
 old:∀i,0<i->i<=m->∃g,gs[i]?=some g/\QuitsD X.P (q i) (Deaf t i) g
 wk:∀i,i<j->∃g,gs[1+m+i]?=some g/\(((D i).stage=7/\(D i).fuel=0/\(D i).deaf=0/\g=(Nd i).g/\aE X i (Nd i)/\aV X i (Nd i).V (Nd i).w w)\/((D i).stage<=6/\wZ X (D i).stage (D i).fuel (D i).deaf g w))
 lies:iB X S j Nd V0 w
 tabRO:X.RO 0
 ct:CT (gF S X.Wg) (mL X m j Nd) (tW X m) t (m+j)
 norel:NoRelease (stA X.Wg) t
 deaf0:Deaf t 0=d0
 deafW:∀i,i<j->Deaf t (1+m+i)=(D i).deaf
 rel:∀i,i<j->(D i).stage<=6->∃r,RelBy (stA X.Wg) t (1+m+i) r
 has:∀i,i<j->(D i).stage<=6->∀c,X.mine i c->w.cell? (X.at c)=some (X.val c)
 list:X.list w
 seen:∀op∈t,op.act.low w.heap.size
 over:∀(i g:Nat),t.g? i=some g->g≠0->g<=m->t.counts i->∃k,t.g? k=some 0/\HappensBefore t i k
 known:∀(i:Nat) (a:Touch) (g:Nat),touchAt t i=some a->t.g? i=some g->g<=m->a.loc.isMemory=true->Knows t 0 i\/(gF S X.Wg a.loc/\a.kind=.atomic)
 atom:∀(i:Nat) (a:Touch) (g:Nat),touchAt t i=some a->t.g? i=some g->m<g->a.kind=.atomic->gF S X.Wg a.loc
section
variable{X:aA}{S:Nat->Prop}{gs:Array Goroutine}{t:Trace}{D:Nat->WD}{Nd:Nat->ep}{d0:Nat}{q:Nat->Nat}
theorem I8{Sh:Loc->Prop}{Own Rd:Nat->Loc->Prop}{k:Nat}(hv:∀l,di V l->Own k l)(hr:∀l,di RO l->Rd k l){e:Event}(he:eC V RO e)(fn:FuncId)(pos:String):OkW Sh Own Rd k {g:=k,fn,pos,act:=.ofEvent e}:=by
 refine⟨rfl,λx hx=>?_⟩;obtain⟨loc,wr,sy⟩:=e;cases loc with
 |cell a=>
  obtain⟨rfl,h⟩:=he;have RE:(MemAct.access ⟨.cell a,wr,false⟩).touch?=some x:=hx;simp only[MemAct.touch?,Option.some.injEq]at RE;subst RE;rcases h with h|⟨h,h2⟩
  .exact .inr (.inl (hv (.cell a) h))
  .exact .inr (.inr ⟨hr (.cell a) h,h2⟩)
 |obj r=>
  obtain⟨rfl,h⟩:=he;have RE:(MemAct.ofEvent ⟨.obj r,wr,false⟩).touch?=some x:=hx;simp only[MemAct.ofEvent,MemAct.touch?,Option.some.injEq]at RE;subst RE;exact .inr (.inl (hv (.obj r) h))
 |mark mm=>
  have hm:gw mm=true:=he;cases mm with
  |extern f=>cases hx
  |noRoom=>cases hx
  |_=>simp[gw]at hm
 |output=>exact he.elim
 |goroutines=>exact he.elim
theorem BK{e:Event}(he:eC V RO e){x:Touch}(hx:(MemAct.ofEvent e).touch?=some x):x.kind=.plain:=by
 obtain⟨loc,wr,sy⟩:=e;cases loc with
 |cell a=>
  obtain⟨rfl,h⟩:=he;have RE:(MemAct.access ⟨.cell a,wr,false⟩).touch?=some x:=hx;simp only[MemAct.touch?,Option.some.injEq]at RE;subst RE;rfl
 |obj r=>
  obtain⟨rfl,h⟩:=he;simp only[MemAct.ofEvent,MemAct.touch?,Option.some.injEq]at hx;subst hx;rfl
 |mark mm=>
  have hm:gw mm=true:=he;cases mm with
  |extern f=>cases hx
  |noRoom=>cases hx
  |_=>simp[gw]at hm
 |output=>exact he.elim
 |goroutines=>exact he.elim
theorem t_(hv:∀b,V b->b<B)(hr:∀b,RO b->b<B){e:Event}(he:eC V RO e):(MemAct.ofEvent e).low B:=by
 obtain⟨loc,wr,sy⟩:=e;cases loc with
 |cell a=>
  obtain⟨rfl,h⟩:=he;show a.block<B;rcases h with h|⟨h,_⟩
  .exact hv _ h
  .exact hr _ h
 |obj r=>
  obtain⟨rfl,h⟩:=he;simp only[MemAct.ofEvent,MemAct.low,Loc.low];exact hv _ h
 |mark mm=>
  have hm:gw mm=true:=he;cases mm with
  |extern f=>trivial
  |noRoom=>trivial
  |_=>simp[gw]at hm
 |output=>exact he.elim
 |goroutines=>exact he.elim
theorem iG{e:Event}(he:eC V RO e):e.loc≠ .mark .disable/\e.loc≠ .mark .enable/\∀a,e.loc≠ .mark (.release a):=by
 obtain⟨loc,wr,sy⟩:=e;cases loc with
 |mark mm=>
  have hm:gw mm=true:=he;cases mm with
  |extern f=>exact⟨(by intro h;cases h),(by intro h;cases h),λa h=>(by cases h)⟩
  |noRoom=>exact⟨(by intro h;cases h),(by intro h;cases h),λa h=>(by cases h)⟩
  |_=>simp[gw]at hm
 |_=>exact⟨(by intro h;cases h),(by intro h;cases h),λa h=>(by cases h)⟩
theorem oy(h:∀op∈t,op.act.low B){a:Touch}(ha:touchAt t i=some a):a.loc.low B:=by
 obtain⟨x,hx,TP⟩:=touch_of ha;have hl:=h x (Array.mem_of_getElem? hx);cases Yg:x.act with
 |access e=>rw[Yg]at hl TP;simp only[MemAct.touch?,Option.some.injEq]at TP;subst TP;exact hl
 |mark mm=>
  rw[Yg]at hl TP;cases mm<;>simp only[MemAct.touch?]at TP<;>first|(cases TP;done)|(simp only[Option.some.injEq]at TP;subst TP;exact hl)
 |_=>rw[Yg]at TP;simp[MemAct.touch?]at TP
end

section
variable{X:aA}{S:Nat->Prop}{gs:Array Goroutine}{t:Trace}{D:Nat->WD}{Nd:Nat->ep}{d0:Nat}{q:Nat->Nat}
structure iV (A:Nat->Prop) (w w':World):Prop where
 keep:∀b,b<w.heap.size->¬A b->w'.heap[b]?=w.heap[b]?
 size:w.heap.size<=w'.heap.size
 os:w'.os=w.os
 output:w'.output=w.output
 tape:w'.tape=w.tape
theorem bo.turns(h:bo V RO w w' es):iV V w w':=⟨h.keep,h.size,h.os,h.output,h.tape⟩
theorem sE(w:World)(a:Addr)(v:Value):iV (· =a.block) w (w.setCell a v):=
 ⟨λb _ hb=>by simp only[World.setCell];exact nS hb,by simp[World.setCell],rfl,rfl,rfl⟩
theorem iV.live(h:iV A w w')(hw:¬A Wg)(hl:Wg<w.heap.size):WgLive ty Wg w->WgLive ty Wg w':=λ⟨st,sm,h1⟩=>⟨st,sm,(h.keep Wg hl hw).trans h1⟩
theorem iV.cell(h:iV A w w'){a:Addr}(hw:¬A a.block)(hl:a.block<w.heap.size):w'.cell? a=w.cell? a:=by
 unfold World.cell?;rw[h.keep _ hl hw]
theorem iV.list(h:iV A w w')(hw:¬A X.C)(hl:X.C<w.heap.size):X.list w->X.list w':=λ⟨cs,h1,h2⟩=>⟨cs,(h.keep _ hl hw).trans h1,h2⟩
theorem iV.kept(h:iV A w w')(hv:∀b,V b->¬A b/\b<w.heap.size):dw V w w':=⟨λb hb=>h.keep b (hv b hb).2 (hv b hb).1,h.size,h.os,h.output,h.tape⟩
theorem jl(c:Nat)(v:Value)(h:X.list w):X.list (w.setCell (X.at c) v):=by
 obtain⟨cs,h1,h2⟩:=h;refine⟨cs.setIfInBounds c v,?_,by simpa using h2⟩;simp[World.setCell,aA.at,Array.getElem?_modify,h1]
theorem Bm{c c':Nat}(hc:c'≠c)(v:Value)(h:X.list w):(w.setCell (X.at c) v).cell? (X.at c')=w.cell? (X.at c'):=by
 obtain⟨cs,h1,h2⟩:=h;unfold World.cell?;simp[World.setCell,aA.at,Array.getElem?_modify,h1,Array.getElem?_setIfInBounds_ne (Ne.symm hc)]
theorem qe(hL:iB X S j Nd V0 w)(hl:X.list w)(hi:i<j)(h:iU X i (Nd i).V w w' es):
 aY X V0 w w'/\(∀i',i'<j->i'≠i->aV X i' (Nd i').V w w')/\(X.RO 0->tu X.ty X.Wg w w')/\X.list w'/\(∀i',i'≠i->∀c,X.mine i' c->w'.cell? (X.at c)=w.cell? (X.at c))/\w.heap.size<=w'.heap.size/\w'.heap[X.Wg]?=w.heap[X.Wg]?:=by
 have key:∀A:Nat->Prop,iV A w w'->(∀b,A b->((Nd i).V b\/b=X.C))->X.list w'->(∀i',i'≠i->∀c,X.mine i' c->w'.cell? (X.at c)=w.cell? (X.at c))->
  aY X V0 w w'/\(∀i',i'<j->i'≠i->aV X i' (Nd i').V w w')/\(X.RO 0->tu X.ty X.Wg w w')/\X.list w'/\(∀i',i'≠i->∀c,X.mine i' c->w'.cell? (X.at c)=w.cell? (X.at c))/\w.heap.size<=w'.heap.size/\w'.heap[X.Wg]?=w.heap[X.Wg]?:=by
  intro A hA Sd V7 QU;have Rm:¬A X.Wg:=λh=>(Sd _ h).elim (λh=>(hL.priv i hi _ h).2.2.1 rfl) hL.wgc;have RA:∀b,X.RO b->¬A b/\b<w.heap.size:=λb hb=>⟨λh=>(Sd b h).elim (λh=>(hL.priv i hi b h).2.1 hb) (hL.ro b hb).2.2,(hL.ro b hb).1⟩;have S0:=hA.live (ty:=X.ty) Rm hL.wgl.1;refine⟨⟨hA.kept λb hb=>?_,S0⟩,λi' R5 QQ=>⟨hA.kept λb hb=>?_,S0,λ_=>V7,QU i' QQ⟩,λh0=> @Go.ConcN.RW.mk dh _ _ _ _ _ _ _ _ (λb hb=>absurd hb (Nat.not_lt_zero _)) S0 (λ⟨cs,h1,h2⟩=>⟨cs,(hA.keep 0 (RA 0 h0).2 (RA 0 h0).1).trans h1,h2⟩) (hA.cell (RA 0 h0).1 (RA 0 h0).2),V7,QU,hA.size,hA.keep _ hL.wgl.1 Rm⟩
  .rcases hb with hb|hb
   .exact⟨λh=>(Sd b h).elim (λh=>(hL.priv i hi b h).2.2.2.2.2 hb) (hL.v0 b hb).2.2.2.1,(hL.v0 b hb).1⟩
   .exact RA b hb
  .rcases hb with hb|hb
   .exact⟨λh=>(Sd b h).elim (λh=>QQ (hL.two i' i R5 hi b hb h)) (hL.priv i' R5 b hb).2.2.2.1,(hL.priv i' R5 b hb).1⟩
   .exact RA b hb
 rcases h with h|⟨c,v,hc,rfl,_⟩
 .have hC:¬(Nd i).V X.C:=λh=>(hL.priv i hi _ h).2.2.2.1 rfl;exact key _ h.turns (λb hb=>.inl hb) (h.turns.list hC hL.wgl.2 hl) λi' _ c _=>h.turns.cell (a:=X.at c) hC hL.wgl.2
 .exact key _ (sE w (X.at c) v) (λb hb=>.inr hb) (jl c v hl) λi' QQ c' TT=>Bm (λe=>QQ (hL.mine i' i c' TT (by rw[e];exact hc))) v hl
end

end Go.Proofs.YtkmoglhgkcnalaaGreatDoor
namespace Go.Proofs.YtkmoglhgkcnalaaGreatDoor
open Go Go.Conc
open Go.ConcN (WgLive)
theorem Vw.kept(h:Vw V RO wL wR)(hk:dw (λb=>V b\/RO b) wR Rc):Vw V RO wL Rc:=
 ⟨Nat.le_trans h.size hk.size,h.low,λb hb=>(h.mine b hb).trans (hk.keep b (.inl hb)).symm,h.calm,λb h1 h2 h3=>let ⟨c,e,z,q1,q2⟩:=h.ro b h1 h2 h3;⟨c,e,z,(hk.keep b (.inr h1)).trans q1,q2⟩,h.dead,h.tape.trans hk.tape.symm⟩
theorem Vw.pad(h:Vw V RO wL wR)(hr:∀b,RO b->b<wL.heap.size):∃w1,so true wL w1/\Vw V RO w1 wR/\w1.heap.size=wR.heap.size/\w1.drawn=wR.drawn:=by
 refine⟨{wL with heap:=wL.heap++Array.replicate (wR.heap.size- wL.heap.size) (.cells #[] 0),drawn:=wR.drawn},⟨⟨_,(λh=>by cases h),rfl⟩,rfl,rfl,rfl⟩,?_,by have:=h.size;simp;omega,rfl⟩;have old:∀b,b<wL.heap.size->(wL.heap++Array.replicate (wR.heap.size- wL.heap.size) (Obj.cells #[] 0))[b]?=wL.heap[b]?:=λb hb=>Array.getElem?_append_left hb;refine⟨by have:=h.size;simp;omega,λb hb=>by have:=h.low b hb;simp;omega,λb hb=>(old b (h.low b hb)).trans (h.mine b hb),λb o hb ho=>h.calm b o hb ((old b (h.low b hb)).symm.trans ho),λb h1 h2 _=>?_,λb h1 h2 h3=>?_,h.tape⟩
 .obtain⟨c,e,z,q1,q2⟩:=h.ro b h1 h2 (hr b h1);exact⟨c,e,z,q1,(old b (hr b h1)).trans q2⟩
 .by_cases hb:b<wL.heap.size
  .obtain⟨e,z,q⟩:=h.dead b hb h2 h3;exact⟨e,z,(old b hb).trans q⟩
  .refine⟨0,(0,0),?_⟩;show(wL.heap++Array.replicate (wR.heap.size- wL.heap.size) (Obj.cells #[] 0))[b]?=_;rw[Array.getElem?_append_right o_,Array.getElem?_replicate];rw[if_pos (by simp at h1;omega)]
section
variable{X:aA}
def Ic:FuncId->Array Value->World->(Value->World->Prop)->Prop:=λ_ _ _ _=>False
theorem uU{wv SH:World}(Ri:(∀b,V0 b\/X.RO b->b<w0.heap.size)/\X.Wg<w0.heap.size/\X.C<w0.heap.size)(RA:∀b,RO b->X.RO b)(hV:∀b,V b->w0.heap.size<=b)(hr:aV X i V0 w0 w)(hle:wv.heap.size<=w.heap.size)(QY:wv.heap.size=w.heap.size\/SH.heap.size=wv.heap.size)(h:pe V RO wv SH w w' #[] es):
 bo (λb=>V0 b\/V b) X.RO w w' es/\aV X i V0 w0 w'/\(λb=>V0 b\/grown V wv SH b)=grown (λb=>V0 b\/V b) w w'/\∀b,grown V wv SH b->w0.heap.size<=b:=by
 have hm:=h.more;have Sf:=h.mono.1;have hs0:=hr.own.size;have hg:∀b,grown V wv SH b->grown (λb=>V0 b\/V b) w w' b:=λb hb=>hb.imp .inr λhb=>⟨by omega,by omega⟩;have hfar:∀b,b<w0.heap.size->¬V b:=λb hb hv=>by have:=hV b hv;omega
 have UC:∀b,b<w0.heap.size->w'.heap[b]?=w.heap[b]?:=λb hb=>h.keep b o_ (hfar b hb);refine⟨⟨λb hb hn=>h.keep b hb λhv=>hn (.inr hv),by omega,h.os,h.output,h.tape,λe he=>?_⟩,?_,?_,λb hb=>hb.elim (hV b) λhb=>by omega⟩
 .rcases h.ev e he with x|x
  .simp at x
  .obtain⟨loc,wr,sy⟩:=e;cases loc with
   |cell a=>exact⟨x.1,x.2.imp (hg _) λy=>⟨RA _ y.1,y.2⟩⟩
   |obj b=>exact⟨x.1,hg _ x.2⟩
   |mark m=>exact x
   |output=>exact x.elim
   |goroutines=>exact x.elim
 .refine hr.trans ⟨⟨λb hb=>UC b (Ri.1 b hb),by omega,h.os,h.output,h.tape⟩,λhl=>?_,λhl=>?_,λc _=>?_⟩
  .obtain⟨a,b,q⟩:=hl;exact⟨a,b,(UC _ Ri.2.1).trans q⟩
  .obtain⟨cs,q,z⟩:=hl;exact⟨cs,(UC _ Ri.2.2).trans q,z⟩
  .unfold World.cell?;rw[show(X.at c).block=X.C from rfl,UC _ Ri.2.2]
 .funext b
  apply propext;constructor
  .rintro(hb|hb)
   .exact .inl (.inl hb)
   .exact hg b hb
  .rintro((hb|hb)|hb)
   .exact .inl hb
   .exact .inr (.inl hb)
   .exact .inr (.inr ⟨by omega,by omega⟩)
def NZ(X:aA)(i:Nat)(V0:Nat->Prop)(w0:World)(RO:Nat->Prop)(Ri:(∀b,V0 b\/X.RO b->b<w0.heap.size)/\X.Wg<w0.heap.size/\X.C<w0.heap.size)(RA:∀b,RO b->X.RO b):Lg ⟨X.P,true,Ic⟩ where
 main:=false
 ok fr cs wv:=w0.heap.size<=wv.heap.size->∀V w,Vw V RO wv w->(∀b,V b->w0.heap.size<=b)->aV X i V0 w0 w->aE X i ⟨λb=>V0 b\/V b,cQ fr cs,w⟩
 step {fr cs wv fr' cs' SH} hs hz hd h:=λh0 V w hv hV hr=>by
  have hz:=hz rfl;refine aE.step rfl λQI QJ=>?_;have RH:=hv.kept (QJ.own.mono λb hb=>hb.imp .inr λhb=>RA b hb);have hr1:aV X i V0 w0 QI:=hr.trans ⟨QJ.own.mono λb hb=>hb.imp .inl id,QJ.live,QJ.list,QJ.cells⟩;obtain⟨w',es,q1,q2⟩:=hs V RO QI RH (.inr hz) (.inr hd);obtain⟨p1,p2,p3,p4⟩:=uU Ri RA hV hr1 RH.size (.inr hz) q2;refine⟨_,w',es,q1,.inl p1,?_⟩;show aE X i ⟨grown (λb=>V0 b\/V b) QI w',cQ fr' cs',w'⟩;rw[←p3];exact h o_ _ w' q2.vw p4 p2
 any {fr cs wv} h:=λh0 V w hv hV hr=>by
  refine aE.step rfl λQI QJ=>?_;have RH:=hv.kept (QJ.own.mono λb hb=>hb.imp .inr λhb=>RA b hb);have hr1:aV X i V0 w0 QI:=hr.trans ⟨QJ.own.mono λb hb=>hb.imp .inl id,QJ.live,QJ.list,QJ.cells⟩;obtain⟨w1,g1,g2,g3,g4⟩:=RH.pad λb hb=>by have:=Ri.1 b (.inr (RA b hb));omega
  obtain⟨fr',cs',SH,hs,hn⟩:=h w1 g1;obtain⟨w',es,q1,q2⟩:=hs V RO QI g2 (.inl g3) (.inl g4);obtain⟨p1,p2,p3,p4⟩:=uU Ri RA hV hr1 g2.size (.inl g3) q2;refine⟨_,w',es,q1,.inl p1,?_⟩;show aE X i ⟨grown (λb=>V0 b\/V b) QI w',cQ fr' cs',w'⟩;rw[←p3];refine hn ?_ _ w' q2.vw p4 p2;have:=q2.mono.1;have:=g1.below.size;omega
 call h:=h.elim
noncomputable def oC(RO:Nat->Prop)(w:World):World:={w with heap:=w.heap.mapIdx λb o=> @ite Obj (RO b) (Classical.propDecidable _) (match o with| .cells c e _=>.cells c e (0,c.size)|o=>o) (.cells #[] 0)}
theorem tI(w:World)(b:Nat):(oC RO w).heap[b]?=w.heap[b]?.map λo=> @ite Obj (RO b) (Classical.propDecidable _) (match o with| .cells c e _=>.cells c e (0,c.size)|o=>o) (.cells #[] 0):=by simp[oC]
theorem GH(h:∀b,RO b->∃c e z,w.heap[b]?=some (.cells c e z)):Vw (λ_=>False) RO (oC RO w) w:=by
 refine⟨by simp[oC],λb hb=>hb.elim,λb hb=>hb.elim,λb o hb=>hb.elim,λb h1 _ _=>?_,λb h1 _ h3=>?_,rfl⟩
 .obtain⟨c,e,z,q⟩:=h b h1;exact⟨c,e,z,q,by rw[tI,q];simp[h1]⟩
 .refine⟨0,(0,0),?_⟩;rw[tI,Array.getElem?_eq_getElem (by simpa[oC]using h1)];simp[h3]
theorem xl{Val:Value->Prop}{c:Frame}(Ri:(∀b,V0 b\/X.RO b->b<w0.heap.size)/\X.Wg<w0.heap.size/\X.C<w0.heap.size)(RA:∀b,RO b->X.RO b)(hT:∀b,RO b->∃c e z,w0.heap[b]?=some (.cells c e z))
 (hC:∀wv:World,wv.heap.size=w0.heap.size->(∀b c e z,RO b->w0.heap[b]?=some (.cells c e z)->wv.heap[b]?=some (.cells c e (0,c.size)))->Cl ⟨X.P,true,Ic⟩ f args wv λe _=>∃v,e=.returned v/\Val v)
 (Rl:∀v V w,Val v->(∀b,V0 b->V b)->aV X i V0 w0 w->aE X i ⟨V,cQ (c.finish v) cs,w⟩):aE X i ⟨V0,cQ (Frame.enter X.P f args .normal) (c::cs),w0⟩:=by
 have h:=hC (oC RO w0) (by simp[oC]) (λb c e z h1 h2=>by rw[tI,h2];simp[h1]) (NZ X i V0 w0 RO Ri RA) c cs (λv w' ⟨u,e,hv⟩=>by cases e;exact λ_ V w _ _ hr=>Rl v _ w hv (λ_=>.inl) hr) (λ_ _ ⟨_,e,_⟩=>by cases e)
 have:=h (by simp[oC]) (λ_=>False) w0 (GH hT) (λ_ hb=>hb.elim) (aV.refl X i V0 w0)
 rwa [show(λb=>V0 b\/False)=V0 from funext λb=>by simp]at this
end

end Go.Proofs.YtkmoglhgkcnalaaGreatDoor
namespace Go.Proofs.YtkmoglhgkcnalaaGreatDoor
open Go Go.Conc
theorem oM{c:Frame}(hk:fr.kind=.normal)(hd:fr.defers=[])(hm:fr.mode=.returning)(hf:P.funcs[fr.fn]?=some fn)(hr:(results fn fr.tmps).run P w=.ok v w)(he:(results fn fr.tmps).events P w #[]=#[])
 (main:Bool) {g:Goroutine} (hg:g.frame=fr/\g.callers=c::cs/\g.status=.running/\g.dying=none):stepG P main g w=.go {frame:=c.finish v,callers:=cs,status:=.running,dying:=none} w:=by
 obtain⟨fr0,cs0,st,dy,off⟩:=g;obtain⟨rfl,rfl,rfl,rfl⟩:=hg;simp only at hk hd hm hf hr he;simp[stepG,unwind,doReturn,hk,hd,hm,hf,hr,he,seen,GStep.after]

section
variable{X:aA}
theorem aE.exec(hm:fr.mode=.run)(h:∀QI,aV X i V w QI->∃g' w' es,stepG.exec X.P false true fr cs none QI=.go g' w' es/\bo V X.RO QI w' es/\aE X i ⟨grown V QI w',g',w'⟩):
 aE X i ⟨V,{frame:=fr,callers:=cs,status:=.running,dying:=none},w⟩:=
 aE.own rfl λQI QJ=>let ⟨g',w',es,h1,h2,h3⟩:=h QI QJ;⟨g',w',es,(cZ hm false cs QI).trans h1,h2,h3⟩
theorem aE.plain{t:List Item}(hm:fr.mode=.run)(hp:eZ fr=some t)(h:∀QI,aV X i V w QI->aE X i ⟨V,{frame:={fr with todo:=t},callers:=cs,status:=.running,dying:=none},QI⟩):
 aE X i ⟨V,{frame:=fr,callers:=cs,status:=.running,dying:=none},w⟩:=by
 refine aE.exec hm λQI QJ=>⟨_,QI,#[],qT hp,c_ _ _ _,?_⟩;rw[bK];exact h QI QJ
theorem bo.sub{Rr:Array Event}(h:bo V RO w w' es)(hs:∀e∈Rr,e∈es):bo V RO w w' Rr:=⟨h.keep,h.size,h.os,h.output,h.tape,λe he=>h.ev e (hs e he)⟩
theorem jS(P:Program)(fr:Frame)(es:Array Event):∀e∈seen P fr.fn (if fr.kind== .early then #[]else es),e∈es:=λe he=>by
 have h1:=cO _ _ _ e he;split at h1
 .simp at h1
 .exact h1
theorem aE.oper{k:List Item}{o:Oper}(hm:fr.mode=.run)(ht:fr.todo=.inRegion ops (n::rest)::k)(ho:ops[n]?=some o)(hw:Region.wanted o (yielded ops fr.tmps)=true)(QT:∀c,o.op≠ .defer c)
 (h:∀QI,aV X i V w QI->∃nx w' es,(execOp fr.eval o).runT X.P QI #[]=(.ok nx w',es)/\JV nx=true/\bo V X.RO QI w' es/\aE X i ⟨grown V QI w',jY X.P fr cs nx,w'⟩):
 aE X i ⟨V,{frame:=fr,callers:=cs,status:=.running,dying:=none},w⟩:=by
 refine aE.exec hm λQI QJ=>?_;obtain⟨nx,w',es,h1,h2,h3,h4⟩:=h QI QJ;have hc:jP fr:=λd w r s k e=>by rw[ht]at e;cases e
 exact⟨_,w',_,(jD ht ho hw QT).trans (ij (cs:=cs) hc h1 h2),h3.sub (jS _ _ _),h4⟩
end

section
variable{X:aA}{c:Frame}{k:List Item}{l:Nat}
theorem aE.range{f:Operand}{ps:Array Tmp}{a b:Code}(hm:fr.mode=.run)(ht:fr.todo=.code (.rangeFunc f ps a b)::k)
 (h:∀QI,aV X i V w QI->∃l mark w1 es0 nx w' Wu,(Instr.enterLoop fr.fn fr.tmps ps a b fr.roundOf).runT X.P QI #[]=(.ok (l,mark) w1,es0)/\(ky (i2 fr k l mark) f l).runT X.P w1 #[]=(.ok nx w',Wu)/\JV nx=true/\
   bo V X.RO QI w' (es0++Wu)/\aE X i ⟨grown V QI w',jY X.P (i2 fr k l mark) cs nx,w'⟩):
 aE X i ⟨V,{frame:=fr,callers:=cs,status:=.running,dying:=none},w⟩:=by
 refine aE.exec hm λQI QJ=>?_;obtain⟨l,mark,w1,es0,nx,w',Wu,h1,h2,h3,h4,h5⟩:=h QI QJ;have hc:jP (i2 fr k l mark):=λd w r s k e=>by cases e
 refine⟨_,w',seen X.P fr.fn es0++seen X.P (i2 fr k l mark).fn (if (i2 fr k l mark).kind== .early then #[]else Wu),?_,h4.sub λe he=>?_,h5⟩
 .rw[rB ht h1,ij (cs:=cs) hc h2 h3];rfl
 .rcases Array.mem_append.1 he with he|he
  .exact Array.mem_append.2 (.inl (cO _ _ _ e he))
  .exact Array.mem_append.2 (.inr (jS _ _ _ e he))
theorem aE.round(hm:fr.mode=.run)(ht:fr.todo=.beginRound::k)
 (h:∀QI,aV X i V w QI->∃nx w' es,(mb fr).runT X.P QI #[]=(.ok nx w',es)/\JV nx=true/\bo V X.RO QI w' es/\aE X i ⟨grown V QI w',jY X.P fr cs nx,w'⟩):
 aE X i ⟨V,{frame:=fr,callers:=cs,status:=.running,dying:=none},w⟩:=by
 refine aE.exec hm λQI QJ=>?_;obtain⟨nx,w',es,h1,h2,h3,h4⟩:=h QI QJ;have hc:jP fr:=λd w r s k e=>by rw[ht]at e;cases e
 exact⟨_,w',_,(rE ht).trans (ij (cs:=cs) hc h1 h2),h3.sub (jS _ _ _),h4⟩
theorem px{j:Option Code}(hm:fr.mode=.run)(hj:oo fr j)(hl:fr.roundOf=some l)(hk:fr.kind=.normal)
 (h:∀QI,aV X i V w QI->∃v w' es,(Instr.endRound l j).runT X.P QI #[]=(.ok v w',es)/\bo V X.RO QI w' es/\aE X i ⟨grown V QI w',{frame:=c.finish v,callers:=cs,status:=.running,dying:=none},w'⟩):
 aE X i ⟨V,{frame:=fr,callers:=c::cs,status:=.running,dying:=none},w⟩:=by
 refine aE.exec hm λQI QJ=>?_;obtain⟨v,w',es,h1,h2,h3⟩:=h QI QJ;exact⟨_,w',_,m8 hj hl hk h1,h2.sub (cO _ _ _),h3⟩
theorem pz(hm:fr.mode=.run)(ht:fr.todo=.endRangeFunc l::k)
 (h:∀QI,aV X i V w QI->∃jump w' es,(Instr.endLoop l).runT X.P QI #[]=(.ok jump w',es)/\bo V X.RO QI w' es/\aE X i ⟨grown V QI w',{frame:={fr with todo:=(jump.map Item.code).toList++k},callers:=cs,status:=.running,dying:=none},w'⟩):
 aE X i ⟨V,{frame:=fr,callers:=cs,status:=.running,dying:=none},w⟩:=by
 refine aE.exec hm λQI QJ=>?_;obtain⟨jump,w',es,h1,h2,h3⟩:=h QI QJ;exact⟨_,w',_,jW ht h1,h2.sub (cO _ _ _),h3⟩
theorem aE.store{o:Oper}(hm:fr.mode=.run)(ht:fr.todo=.inRegion ops (n::rest)::k)(ho:ops[n]?=some o)(hw:Region.wanted o (yielded ops fr.tmps)=true)(QT:∀c,o.op≠ .defer c)(hk:fr.kind=.normal)
 (hs:∀e:Event,(∃a,e.loc=.cell a)->seen X.P fr.fn #[e]=#[e])
 (h:∀QI,aV X i V w QI->∃c v,X.mine i c/\(execOp fr.eval o).runT X.P QI #[]=(.ok .skip (QI.setCell (X.at c) v),#[⟨.cell (X.at c),true,false⟩])/\aE X i ⟨V,{frame:=fr.finish undef,callers:=cs,status:=.running,dying:=none},QI.setCell (X.at c) v⟩):
 aE X i ⟨V,{frame:=fr,callers:=cs,status:=.running,dying:=none},w⟩:=by
 refine aE.put rfl λQI QJ=>?_;obtain⟨c,v,h1,h2,h3⟩:=h QI QJ;have hc:jP fr:=λd w r s k e=>by rw[ht]at e;cases e
 refine⟨{frame:=fr.finish undef,callers:=cs,status:=.running,dying:=none},c,v,h1,?_,h3⟩;rw[cZ hm,jD ht ho hw QT,ij (cs:=cs) hc h2 rfl];have V9:(fr.kind==CallKind.early)=false:=by rw[hk];rfl
 simp only[V9,Bool.false_eq_true,↓reduceIte];rw[hs _ ⟨_,rfl⟩];rfl
end

section
variable(P:Program){l:Nat}{r:Loop}
theorem E8(h:w.heap[l]?=some (.loop r))(hs:args.size=r.params.size):
 (Instr.yield l args).runT P w #[]=(.ok (.round l r.fn ((r.params.zip args).foldl (λtmps (t,a)=>tmps.setIfInBounds t a) r.tmps) r.assign r.body) w,#[⟨.obj l,false,false⟩]):=by
 simp[-Sem.runT_eq,Instr.yield,Instr.getLoop,getObj,bind,Sem.bind,Sem.runT,pure,Obj.isChan,h,hs]
theorem vC(h:w.heap[l]?=some (.loop r))(j:Option Code):
 (Instr.endRound l j).runT P w #[]=(.ok (.bool j.isNone) {w with heap:=w.heap.setIfInBounds l (.loop {r with state:=if j.isNone then .ready else .done,pending:=j})},#[⟨.obj l,false,false⟩,⟨.obj l,true,false⟩]):=by
 simp[-Sem.runT_eq,Instr.endRound,Instr.getLoop,getObj,setObj,bind,Sem.bind,Sem.runT,pure,Obj.isChan,h]
theorem xP(h:w.heap[l]?=some (.loop r))(hs:r.state=.ready):
 (Instr.endLoop l).runT P w #[]=(.ok r.pending {w with heap:=w.heap.setIfInBounds l (.loop {r with state:=.exhausted})},#[⟨.obj l,false,false⟩,⟨.obj l,true,false⟩]):=by
 simp[-Sem.runT_eq,Instr.endLoop,Instr.getLoop,getObj,setObj,bind,Sem.bind,Sem.runT,pure,Obj.isChan,h,hs]
end

section
variable(P:Program)
theorem tY(fn:FuncId)(tmps:Array Value)(ps:Array Tmp)(a b:Code):
 (Instr.enterLoop fn tmps ps a b none).runT P w #[]=(.ok (w.heap.size+1,[{target:=.collected w.heap.size,args:=#[]}])
   ((w.alloc (.deferred (some []))).alloc (.loop {state:=.ready,pending:=none,fn,tmps,params:=ps,assign:=a,body:=b,defers:=w.heap.size})),#[]):=by
 simp[-Sem.runT_eq,Instr.enterLoop,newObj,bind,Sem.bind,Sem.runT,pure];rfl
theorem I1{l:Nat}(h:w.heap[l]?=some (.deferred (some ds))):
 (Instr.takeDeferred l).runT P w #[]=(.ok ds {w with heap:=w.heap.setIfInBounds l (.deferred none)},#[⟨.obj l,false,false⟩,⟨.obj l,true,false⟩]):=by
 simp[-Sem.runT_eq,Instr.takeDeferred,getObj,setObj,bind,Sem.bind,Sem.runT,pure,Obj.isChan,h]
end
section
variable{X:aA}
theorem aE.take{l:Nat}{a:Array Value}{rest:List Deferred}(hm:fr.mode=.returning)(hd:fr.defers={target:=.collected l,args:=a}::rest)(hV:V l)(hl:w.heap[l]?=some (.deferred (some ds)))
 (h:∀QI,aV X i V w QI->aE X i ⟨V,{frame:={fr with defers:=ds++rest},callers:=cs,status:=.running,dying:=none},{QI with heap:=QI.heap.setIfInBounds l (.deferred none)}⟩):
 aE X i ⟨V,{frame:=fr,callers:=cs,status:=.running,dying:=none},w⟩:=by
 refine aE.own rfl λQI QJ=>?_;have V7:QI.heap[l]?=some (.deferred (some ds)):=(QJ.own.keep l (.inl hV)).trans hl;refine⟨{frame:={fr with defers:=ds++rest},callers:=cs,status:=.running,dying:=none},{QI with heap:=QI.heap.setIfInBounds l (.deferred none)},seen X.P fr.fn #[⟨.obj l,false,false⟩,⟨.obj l,true,false⟩],?_,?_,?_⟩
 .unfold stepG;simp only[hm,unwind,hd,I1 X.P V7,GStep.after,Array.append_empty]
 .refine bo.sub (es:=#[⟨.obj l,false,false⟩,⟨.obj l,true,false⟩]) ⟨λb _ hb=>?_,by simp,rfl,rfl,rfl,λe he=>?_⟩ (cO _ _ _)
  .have QQ:l≠b:=λe=>hb (e▸hV);exact Array.getElem?_setIfInBounds_ne QQ
  .simp only[List.mem_toArray,List.mem_cons,List.not_mem_nil,or_false]at he;rcases he with rfl|rfl<;>exact⟨rfl,.inl hV⟩
 .have e:grown V QI {QI with heap:=QI.heap.setIfInBounds l (.deferred none)}=V:=by
   funext b
   apply propext;exact⟨λh=>h.elim id λh=>absurd h.2 (by simpa using h.1),.inl⟩
  rw[e];exact h QI QJ
end

section
variable{X:aA}
theorem yD(h:∀b,V b->V' b)(w w':World)(b:Nat):grown V w w' b->grown V' w w' b:=λhb=>hb.imp (h b) id
theorem aV.less(h:∀b,V b->V' b)(r:aV X i V' w QI):aV X i V w QI:=⟨r.own.mono λb hb=>hb.imp (h b) id,r.live,r.list,r.cells⟩
theorem aE.more{x:ep}(hx:aE X i x):∀V',(∀b,x.V b->V' b)->aE X i ⟨V',x.g,x.w⟩:=by
 refine hx (λx=>∀V',(∀b,x.V b->V' b)->aE X i ⟨V',x.g,x.w⟩) (λx hs V' hV=>?_) λx hr hn V' hV=>?_
 .exact aE.stop ⟨hs.1,λQI QJ=>hs.2 QI (QJ.less hV)⟩
 .refine aE.step hr λQI QJ=>?_;obtain⟨g',w',es,h1,h2,h3⟩:=hn QI (QJ.less hV);exact⟨g',w',es,h1,h2.imp (λh=>h.mono hV) id,h3 _ (yD hV _ _)⟩
def Wk(X:aA)(i:Nat)(V:Nat->Prop)(fr:Frame)(cs:List Frame)(w0:World):Prop:=∀w,aV X i V w0 w->aE X i ⟨V,cQ fr cs,w⟩
theorem Wk.now(h:Wk X i V fr cs w):aE X i ⟨V,cQ fr cs,w⟩:=h w (aV.refl X i V w)
variable{b:Frame}{k:List Item}
theorem Wk.plain{t:List Item}(hp:eZ (b.atR a k)=some t)(h:Wk X i V (b.atR a t) cs w0):Wk X i V (b.atR a k) cs w0:=λ_ hw=>aE.plain rfl hp λQI QJ=>h QI (hw.trans QJ)
section
variable{o:Oper}
theorem Wk.value(v:Value)(ho:ops[n]?=some o)(hw:Region.wanted o (yielded ops a.tmps)=true)(QT:∀c,o.op≠ .defer c)
 (hr:∀w,aV X i V w0 w->(execOp a.eval o).run X.P w=.ok (.value v) w/\∀e∈(execOp a.eval o).events X.P w #[],eC V X.RO e)
 (h:Wk X i V (b.atR (a.put o.dst v) (.inRegion ops rest::k)) cs w0):Wk X i V (b.atR a (.inRegion ops (n::rest)::k)) cs w0:=λw RG=>by
 refine aE.oper rfl rfl ho hw QT λQI QJ=>?_;obtain⟨h2,h3⟩:=hr QI (RG.trans QJ);refine⟨.value v,QI,(execOp a.eval o).events X.P QI #[],?_,rfl,mJ h3,?_⟩
 .rw[Frame.eval_atR,Sem.runT_eq,h2]
 .rw[bK];show aE X i ⟨V,cQ ((b.atR a (.inRegion ops (n::rest)::k)).finish v) cs,QI⟩;rw[Frame.finish_atR,ho];exact h QI (RG.trans QJ)
theorem JB(ho:ops[n]?=some o)(hw:Region.wanted o (yielded ops a.tmps)=true)(QT:∀c,o.op≠ .defer c)
 (hr:∀w,aV X i V w0 w->∃v w',(execOp a.eval o).run X.P w=.ok (.value v) w'/\bo V X.RO w w' ((execOp a.eval o).events X.P w #[])/\
   Wk X i (grown V w w') (b.atR (a.put o.dst v) (.inRegion ops rest::k)) cs w'):Wk X i V (b.atR a (.inRegion ops (n::rest)::k)) cs w0:=λw RG=>by
 refine aE.oper rfl rfl ho hw QT λQI QJ=>?_;obtain⟨v,w',h2,h3,h4⟩:=hr QI (RG.trans QJ);refine⟨.value v,w',(execOp a.eval o).events X.P QI #[],?_,rfl,h3,?_⟩
 .rw[Frame.eval_atR,Sem.runT_eq,h2]
 .show aE X i ⟨grown V QI w',cQ ((b.atR a (.inRegion ops (n::rest)::k)).finish v) cs,w'⟩;rw[Frame.finish_atR,ho];exact h4.now
theorem Wk.enter(ho:ops[n]?=some o)(hw:Region.wanted o (yielded ops a.tmps)=true)(QT:∀c,o.op≠ .defer c)
 (hr:∀w,aV X i V w0 w->(execOp a.eval o).run X.P w=.ok (.enter f args) w/\∀e∈(execOp a.eval o).events X.P w #[],eC V X.RO e)
 (h:Wk X i V (Frame.enter X.P f args .normal) (b.atR a (.inRegion ops (n::rest)::k)::cs) w0):Wk X i V (b.atR a (.inRegion ops (n::rest)::k)) cs w0:=λw RG=>by
 refine aE.oper rfl rfl ho hw QT λQI QJ=>?_;obtain⟨h2,h3⟩:=hr QI (RG.trans QJ);refine⟨.enter f args,QI,(execOp a.eval o).events X.P QI #[],?_,rfl,mJ h3,?_⟩
 .rw[Frame.eval_atR,Sem.runT_eq,h2]
 .rw[bK];exact h QI (RG.trans QJ)
theorem CM{l:Nat}{r:Loop}(ho:ops[n]?=some o)(hw:Region.wanted o (yielded ops a.tmps)=true)(QT:∀c,o.op≠ .defer c)(hV:V l)(hl:w0.heap[l]?=some (.loop r))(hs:args.size=r.params.size)
 (hr:∀w,(execOp a.eval o).runT X.P w #[]=(Instr.yield l args).runT X.P w #[])
 (h:Wk X i V (Frame.round l r.fn ((r.params.zip args).foldl (λtmps (t,a)=>tmps.setIfInBounds t a) r.tmps) r.assign r.body .normal) (b.atR a (.inRegion ops (n::rest)::k)::cs) w0):Wk X i V (b.atR a (.inRegion ops (n::rest)::k)) cs w0:=λw RG=>by
 refine aE.oper rfl rfl ho hw QT λQI QJ=>?_;have V7:QI.heap[l]?=some (.loop r):=((RG.trans QJ).own.keep l (.inl hV)).trans hl;refine⟨.round l r.fn ((r.params.zip args).foldl (λtmps (t,a)=>tmps.setIfInBounds t a) r.tmps) r.assign r.body,QI,_,?_,rfl,mJ (es:=#[⟨.obj l,false,false⟩]) ?_,?_⟩
 .rw[Frame.eval_atR,hr,E8 X.P V7 hs]
 .intro e he;simp only[List.mem_toArray,List.mem_singleton]at he;subst he;exact⟨rfl,hV⟩
 .rw[bK];exact h QI (RG.trans QJ)
end
end

section
variable{X:aA}{b:Frame}{k:List Item}
theorem JC{id:Nat}(h:∀t,Wk X i V (b.atR a (.inRegion ops (Region.schedule (X.P.follows .mixedOrders) ops t)::k)) cs w0):Wk X i V (b.atR a (.code (.region id ops true)::k)) cs w0:=λw hw=>by
 refine aE.exec rfl λQI QJ=>?_;have hr:(choose (.order (b.atR a (.code (.region id ops true)::k)).fn id)).run X.P QI=.ok (QI.tape QI.drawn (.order b.fn id)) {QI with drawn:=QI.drawn+1}:=by
  simp[choose,Sem.run,Question.forced,Question.cut,Frame.atR]
 have hk:aV X i V QI {QI with drawn:=QI.drawn+1}:=⟨⟨λ_ _=>rfl,Nat.le_refl _,rfl,rfl,rfl⟩,λh=>h,λh=>h,λ_ _=>rfl⟩;refine⟨_,_,#[],tc rfl hr,⟨λ_ _ _=>rfl,Nat.le_refl _,rfl,rfl,rfl,λe he=>by simp at he⟩,?_⟩;have e:grown V QI {QI with drawn:=QI.drawn+1}=V:=bK V QI;rw[e];exact h _ _ ((hw.trans QJ).trans hk)
theorem Wk.order{md:Region.Mode}(Inv:Nat->Array Bool->Act->World->Prop)
 (R_:∀listed a w,Inv 0 listed a w->Wk X i V (b.atR a (.inRegion ops []::k)) cs w)
 (Rv:∀fuel listed a w,Inv (fuel+1) listed a w->Region.ready md ops listed=[]->Wk X i V (b.atR a (.inRegion ops []::k)) cs w)
 (Rj:∀fuel listed a w n rest,Inv (fuel+1) listed a w->n∈Region.ready md ops listed->(∀a' w',Inv fuel (listed.setIfInBounds n true) a' w'->Wk X i V (b.atR a' (.inRegion ops rest::k)) cs w')->
   Wk X i V (b.atR a (.inRegion ops (n::rest)::k)) cs w):
 ∀(fuel t:Nat) (listed:Array Bool) (a:Act) (w:World),Inv fuel listed a w->Wk X i V (b.atR a (.inRegion ops (Region.linearise.go md ops fuel t listed [])::k)) cs w:=by
 intro fuel;induction fuel with
 |zero=>intro t listed a w h;simpa[Region.linearise.go]using R_ listed a w h
 |succ fuel ih=>
  intro t listed a w h;have hgo:Region.linearise.go md ops (fuel+1) t listed []=(match (Region.ready md ops listed)[t%(Region.ready md ops listed).length]? with
   |some i=>Region.linearise.go md ops fuel (t/(Region.ready md ops listed).length) (listed.setIfInBounds i true) [i]
   |none=>[].reverse):=by
   simp only[Region.linearise.go];rfl
  rw[hgo];cases hi:(Region.ready md ops listed)[t%(Region.ready md ops listed).length]? with
  |none=>
   have XV:Region.ready md ops listed=[]:=by
    cases hr:Region.ready md ops listed with
    |nil=>rfl
    |cons x xs=>
     rw[hr]at hi;have QK:t%(x::xs).length<(x::xs).length:=Nat.mod_lt _ s_;simp at hi;simp at QK;omega
   exact Rv fuel listed a w h XV
  |some n=>
   show Wk X i V (b.atR a (.inRegion ops (Region.linearise.go md ops fuel (t/(Region.ready md ops listed).length) (listed.setIfInBounds n true) [n])::k)) cs w;rw[linearise_go_acc,List.reverse_singleton,List.singleton_append];exact Rj fuel listed a w n _ h (List.mem_of_getElem? hi) λa' w' h'=>ih _ _ a' w' h'
def jd(V:Nat->Prop)(w:World)(b:Nat):Prop:=V b\/b=w.heap.size\/b=w.heap.size+1
theorem Wk.range{ps:Array Tmp}{ca cb:Code}{cap:Array Value}(hb:b.roundOf=none)(hf:X.P.funcs[f]?=some fn)(QV:(fn.name== "runtime.NumGoroutine")=false)(Wn:fn.body.isNone=false)(hx:a.eval x=.func (.func f) first cap)
 (h:∀w,aV X i V w0 w->Wk X i (jd V w) (Frame.enter X.P f (first++#[.func (.yield (w.heap.size+1)) #[] #[]]++cap) .normal)
   (b.atR ⟨a.tmps,{target:=.collected w.heap.size,args:=#[]}::a.defers⟩ (.inRangeFunc (w.heap.size+1)::k)::cs)
   (bU w {state:=.ready,pending:=none,fn:=b.fn,tmps:=a.tmps,params:=ps,assign:=ca,body:=cb,defers:=w.heap.size})):
 Wk X i V (b.atR a (.code (.rangeFunc x ps ca cb)::k)) cs w0:=λw hw=>by
 refine aE.range rfl rfl λQI QJ=>?_;have e1:(Instr.enterLoop (b.atR a (.code (.rangeFunc x ps ca cb)::k)).fn (b.atR a (.code (.rangeFunc x ps ca cb)::k)).tmps ps ca cb (b.atR a (.code (.rangeFunc x ps ca cb)::k)).roundOf).runT X.P QI #[]=(.ok (QI.heap.size+1,[{target:=.collected QI.heap.size,args:=#[]}])
  (bU QI {state:=.ready,pending:=none,fn:=b.fn,tmps:=a.tmps,params:=ps,assign:=ca,body:=cb,defers:=QI.heap.size}),#[]):=by
  rw[show(b.atR a (.code (.rangeFunc x ps ca cb)::k)).roundOf=none from hb];exact tY X.P _ _ _ _ _
 have RE:(i2 (b.atR a (.code (.rangeFunc x ps ca cb)::k)) k (QI.heap.size+1) [{target:=.collected QI.heap.size,args:=#[]}]).eval x=.func (.func f) first cap:=by
  rw[←hx,←Frame.eval_atR b a (.code (.rangeFunc x ps ca cb)::k)];cases x<;>rfl
 refine⟨_,_,_,_,_,_,#[],e1,mt hf QV Wn RE _,rfl,?_,?_⟩
 .refine⟨λn hn _=>aX QI _ hn,?_,rfl,rfl,rfl,λe he=>by simp at he⟩;show _<=(bU QI _).heap.size;rw[gn];omega
 .have eg:grown V QI (bU QI {state:=.ready,pending:=none,fn:=b.fn,tmps:=a.tmps,params:=ps,assign:=ca,body:=cb,defers:=QI.heap.size})=jd V QI:=by
   funext n
   apply propext;unfold grown jd;rw[gn];constructor
   .rintro(h|h)
    .exact .inl h
    .exact .inr o_
   .rintro(h|h)
    .exact .inl h
    .exact .inr o_
  show aE X i ⟨grown V QI (bU QI _),_,bU QI _⟩;rw[eg];exact(h QI (hw.trans QJ)).now
theorem gN{l:Nat}(r:Loop)(hV:V l):bo V RO w (aO w l r) #[⟨.obj l,false,false⟩,⟨.obj l,true,false⟩]:=by
 refine⟨λn _ hn=>?_,by simp[aO],rfl,rfl,rfl,λe he=>?_⟩
 .have QQ:l≠n:=λe=>hn (e▸hV);exact Array.getElem?_setIfInBounds_ne QQ
 .simp only[List.mem_toArray,List.mem_cons,List.not_mem_nil,or_false]at he;rcases he with rfl|rfl<;>exact⟨rfl,.inl hV⟩
theorem eW(V:Nat->Prop)(w:World)(l:Nat)(r:Loop):grown V w (aO w l r)=V:=by
 funext n
 apply propext;exact⟨λh=>h.elim id λh=>absurd h.2 (by simpa[aO]using h.1),.inl⟩
theorem CN{l:Nat}{r:Loop}(hl:b.roundOf=some l)(hV:V l)(h0:w0.heap[l]?=some (.loop r))(hs:r.state=.ready)(h:∀w,aV X i V w0 w->Wk X i V (b.atR a k) cs (aO w l {r with state:=.busy})):Wk X i V (b.atR a (.beginRound::k)) cs w0:=λw hw=>by
 refine aE.round rfl rfl λQI QJ=>?_;have W8:QI.heap[l]?=some (.loop r):=((hw.trans QJ).own.keep l (.inl hV)).trans h0;have e:(mb (b.atR a (.beginRound::k))).runT X.P QI #[]=(.ok .skip (aO QI l {r with state:=.busy}),#[⟨.obj l,false,false⟩,⟨.obj l,true,false⟩]):=by
  have RA:(b.atR a (.beginRound::k)).roundOf=some l:=hl;simp[-Sem.runT_eq,mb,RA,Instr.beginRound,Instr.getLoop,getObj,setObj,bind,Sem.bind,Sem.runT,pure,Obj.isChan,W8,hs,aO]
 refine⟨_,_,_,e,rfl,gN _ hV,?_⟩;rw[eW];exact(h QI (hw.trans QJ)).now
theorem zq{l:Nat}{r:Loop}{c:Frame}(hl:b.roundOf=some l)(hk:b.kind=.normal)(hV:V l)(h0:w0.heap[l]?=some (.loop r))(h:∀w,aV X i V w0 w->Wk X i V (c.finish (.bool true)) cs (aO w l {r with state:=.ready,pending:=none})):Wk X i V (b.atR a []) (c::cs) w0:=λw hw=>by
 refine px (j:=none) rfl (.done rfl) hl hk λQI QJ=>?_;have W8:QI.heap[l]?=some (.loop r):=((hw.trans QJ).own.keep l (.inl hV)).trans h0;refine⟨_,_,_,vC X.P W8 none,gN _ hV,?_⟩;have eg:=eW V QI l {r with state:=.ready,pending:=none};show aE X i ⟨grown V QI (aO QI l {r with state:=.ready,pending:=none}),_,aO QI l {r with state:=.ready,pending:=none}⟩;rw[eg];exact(h QI (hw.trans QJ)).now
theorem uK{l:Nat}{r:Loop}(hV:V l)(h0:w0.heap[l]?=some (.loop r))(hs:r.state=.ready)(hp:r.pending=none)(h:∀w,aV X i V w0 w->Wk X i V (b.atR a k) cs (aO w l {r with state:=.exhausted})):Wk X i V (b.atR a (.endRangeFunc l::k)) cs w0:=λw hw=>by
 refine pz rfl rfl λQI QJ=>?_;have W8:QI.heap[l]?=some (.loop r):=((hw.trans QJ).own.keep l (.inl hV)).trans h0;refine⟨_,_,_,xP X.P W8 hs,gN _ hV,?_⟩;have eg:=eW V QI l {r with state:=.exhausted};show aE X i ⟨grown V QI (aO QI l {r with state:=.exhausted}),_,aO QI l {r with state:=.exhausted}⟩;have et:(r.pending.map Item.code).toList++k=k:=by rw[hp];rfl
 rw[eg,et];exact(h QI (hw.trans QJ)).now
theorem Wk.ends(hb:b.roundOf=none)(hk:k=[]\/∃k',k=.code .ret::k')(h:Wk X i V {b.atR a k with mode:=.returning} cs w0):Wk X i V (b.atR a k) cs w0:=λw hw=>by
 refine aE.exec rfl λQI QJ=>⟨_,QI,#[],rC ⟨hb,hk⟩,c_ _ _ _,?_⟩;rw[bK];exact h QI (hw.trans QJ)
theorem Wk.leave{c:Frame}(v:Value)(hk:b.kind=.normal)(hd:a.defers=[])(hf:X.P.funcs[b.fn]?=some fn)(hr:∀w,(results fn a.tmps).run X.P w=.ok v w/\(results fn a.tmps).events X.P w #[]=#[])
 (h:Wk X i V (c.finish v) cs w0):Wk X i V {b.atR a k with mode:=.returning} (c::cs) w0:=λw hw=>by
 refine aE.own rfl λQI QJ=>⟨_,QI,#[],oM (fr:={b.atR a k with mode:=.returning}) (c:=c) (cs:=cs) hk hd rfl hf (hr QI).1 (hr QI).2 false ⟨rfl,rfl,rfl,rfl⟩,c_ _ _ _,?_⟩;rw[bK];exact h QI (hw.trans QJ)
end

end Go.Proofs.YtkmoglhgkcnalaaGreatDoor
namespace Go.Proofs.YtkmoglhgkcnalaaGreatDoor
open Go Go.Conc
open Go.ConcN (WgLive)
open Go.ConcR (KK WgAt stA smA rd wr mk DC0)
open Go.ConcN.Gen Go.RowKit Go.Conc.Lib Go.ConcR.Gen
section
variable{L:WgLink}
theorem eU{X:aA}(h:WgLive X.ty X.Wg w)(r:aV X i V w QI):WgLive X.ty X.Wg QI:=r.live h
theorem Fq(X:aA)(H:WgLib X.P L){c:Frame}(w:World)(hK:WgLive X.ty X.Wg w):
 Goes X.P false (aV X i V) DC0 (zA X.P false (aV X i V) (.releaseMerge (stA X.Wg))) 30 (G ((baseD L.done).at ⟨#[.pk X.Wg 0,undef,undef,undef],[]⟩ [.code (body_done L)]) (c::cs)) w:=by
 lib_facts
 simp only[body_done,doneFn,Option.getD_some]
 u_reg eU hK
 u_op eU hK
 u_call H.f_add (nm_add L) addFn eU hK
 iterate 11 (first
  |u_c stepG_seq eU hK
  |u_c stepG_region_end eU hK
  |u_reg eU hK
  |u_cond true eU hK
  |u_op eU hK)
 u_in eU hK
 refine goes_oper_k rfl rfl (by k_ne) (λKx UE=>?_);have VW:=run_convert_to_unsafe (P:=X.P) H.underlying_tWgP H.underlying_tUP H.room_tWg (Go.ConcN.Gen.WgLive.cell0 hK).choose_spec;have SX:=λes=>events_convert_to_unsafe (P:=X.P) H.underlying_tWgP H.underlying_tUP H.room_tWg (Go.ConcN.Gen.WgLive.cell0 hK).choose_spec es
 go_simp
 refine UE _ _ ⟨?_,?_⟩
 .u_none
  intro ex hex;have WM:=mem_listed hex;simp[go_sem,SX]at WM
 clear UE Kx VW SX;refine Goes.stop (λw3 h3=>?_)
 replace hK:=eU hK h3
 clear h3;refine⟨rfl,_,stepG_markAt .releaseMerge s_ rfl rfl (by k_ne) rfl H.f_relMerge (x_relMerge_n L) (x_relMerge_b L) (x_relMerge_x L) (x_relMerge_f L) (by simp[Act.eval,stA]),10,?_⟩
 walk_nrm
 u_c stepG_region_end eU hK
 u_c stepG_seq eU hK
 u_reg eU hK
 refine Goes.stop (λw4 h4=>?_);exact⟨_,stepG_mark0 .disable s_ rfl rfl (by k_ne) rfl H.f_disable (x_disable_n L) (x_disable_b L) (x_disable_x L) (x_disable_f L)⟩
theorem lN{X:aA}{Stop:Goroutine->World->Prop}{I:World->Prop}(hI:∀w QI,I w->aV X i V w QI->I QI)(hS:∀g w,I w->(∀QI,aV X i V w QI->Stop g QI)->aE X i ⟨V,g,w⟩):
 ∀{m:Nat} {g:Goroutine} {w:World},I w->Goes X.P false (aV X i V) DC0 Stop m g w->aE X i ⟨V,g,w⟩
 |0,g,w,hw,h=>hS g w hw h
 |m+1,g,w,hw,h=>by
  rcases h with h|⟨hs,h⟩
  .exact hS g w hw h
  .refine aE.step hs λQI QJ=>?_;have hg:=h QI QJ;cases QZ:stepG X.P false g QI with
   |go g' w' es=>
    rw[QZ,goes_go]at hg;obtain⟨⟨h1,h2⟩,h3⟩:=hg;subst h1 h2;refine⟨g',w',_,rfl,.inl (c_ _ _ _),?_⟩;have:=lN hI hS (hI _ _ hw QJ) h3;show aE X i ⟨grown V w' w',g',w'⟩;rw[bK];exact this
   |_=>rw[QZ]at hg;exact hg.elim
theorem yV(X:aA)(H:WgLib X.P L)(hty:L.tWg=X.ty)(RA:X.RO 0){c:Frame}{qt:Nat}(hcm:c.mode=.returning)(hT:QuitsD X.P qt 0 (G c cs))(hK:WgLive X.ty X.Wg w){v0:Value}(h0:w.cell? ⟨0,0,none⟩=some v0)
 (QU:∀c,X.mine i c->w.cell? (X.at c)=some (X.val c)):aE X i ⟨V,G ((baseD L.done).at ⟨#[.pk X.Wg 0,undef,undef,undef],[]⟩ [.code (body_done L)]) (c::cs),w⟩:=by
 letI:Go.ConcR.Payload:=dh
 have lib:= @Go.ConcN.Gen.doneN dh L X.P H (λ_ _=>False) (λ_ _=>False) X.Wg 0 0 0 1 v0 c cs qt hcm hT w ⟨by rw[hty];exact hK,h0⟩;rw[hty]at lib;have mine:=Fq (i:=i) (V:=V) X H (c:=c) (cs:=cs) w hK;have Sd:∀a b,aV X i V a b-> @Go.ConcN.RW dh X.ty X.Wg 0 0 0 (1- 1) a b:=λa b r=>
  @Go.ConcN.RW.mk dh _ _ _ _ _ _ _ _ (λb hb=>absurd hb (Nat.not_lt_zero _)) r.live (λ⟨cs,h1,h2⟩=>⟨cs,(r.own.keep 0 (.inr RA)).trans h1,h2⟩) (by unfold World.cell?;rw[show(⟨0,1- 1,none⟩:Addr).block=0 from rfl,r.own.keep 0 (.inr RA)])
 have both:=zd (rel:=.releaseMerge (stA X.Wg)) s_ (λw=>aV.refl X i V w) (λw=> @Go.ConcN.RW.refl dh _ _ _ _ _ _ w) Sd (λ_ _ _ h1 h2=> @Go.ConcN.RW.trans dh _ _ _ _ _ _ _ _ _ h1 h2)
  (λg w hs=>let ⟨g',h1,_⟩:=hs.2.2;⟨g',h1⟩) (λa b hd=>(hd.2 (Go.ConcR.mk .disable) s_).2.1 rfl) _ _ _ _ mine lib
 refine lN (I:=λw=>∀c,X.mine i c->w.cell? (X.at c)=some (X.val c)) (λa b h r c hc=>(r.cells c hc).trans (h c hc)) (λg w hw hs=>?_) QU both;refine aE.stop ⟨(hs w (aV.refl X i V w)).1,λQI QJ=>⟨λc hc=>(QJ.cells c hc).trans (hw c hc),?_⟩⟩;exact(hs QI QJ).2.2
end

end Go.Proofs.YtkmoglhgkcnalaaGreatDoor
namespace Go.Proofs.YtkmoglhgkcnalaaGreatDoor
open Go Go.Conc
open Go.ConcN (WgLive)
section
variable{X:aA}{b:Frame}{k:List Item}
theorem Wk.store{o:Oper}{c:Nat}(ho:ops[n]?=some o)(hw:Region.wanted o (yielded ops a.tmps)=true)(QT:∀c,o.op≠ .defer c)(hk:b.kind=.normal)(hq:(X.P.funcs[b.fn]?).any (·.norace)=false)(hmine:X.mine i c)
 (hr:∀w,aV X i V w0 w->(execOp a.eval o).run X.P w=.ok .skip (w.setCell (X.at c) v)/\(execOp a.eval o).events X.P w #[]=#[⟨.cell (X.at c),true,false⟩])
 (h:∀w,aV X i V w0 w->Wk X i V (b.atR (a.put o.dst undef) (.inRegion ops rest::k)) cs (w.setCell (X.at c) v)):Wk X i V (b.atR a (.inRegion ops (n::rest)::k)) cs w0:=λw RG=>by
 refine aE.store rfl rfl ho hw QT hk (λe ⟨x,hx⟩=>seen_eq hq λe' he' f hf=>?_) λQI QJ=>?_
 .simp only[List.mem_toArray,List.mem_singleton]at he';subst he';rw[hx]at hf;cases hf
 .obtain⟨h2,h3⟩:=hr QI (RG.trans QJ);refine⟨c,v,hmine,?_,?_⟩
  .rw[Frame.eval_atR,Sem.runT_eq,h2,h3]
  .rw[Frame.finish_atR,ho];exact(h QI (RG.trans QJ)).now
theorem Wk.call{o:Oper}{Val:Value->Prop}(RA:∀b,RO b->X.RO b)(hT:∀w,aV X i V w0 w->∀b,RO b->∃c e z,w.heap[b]?=some (.cells c e z))
 (hC:∀w,aV X i V w0 w->∀wv:World,wv.heap.size=w.heap.size->(∀b c e z,RO b->w.heap[b]?=some (.cells c e z)->wv.heap[b]?=some (.cells c e (0,c.size)))->Cl ⟨X.P,true,Ic⟩ f args wv λe _=>∃v,e=.returned v/\Val v)
 (Ri:(∀b,V b\/X.RO b->b<w0.heap.size)/\X.Wg<w0.heap.size/\X.C<w0.heap.size)
 (ho:ops[n]?=some o) (hw:Region.wanted o (yielded ops a.tmps)=true) (QT:∀c,o.op≠ .defer c) (hr:∀w,(execOp a.eval o).run X.P w=.ok (.enter f args) w/\(execOp a.eval o).events X.P w #[]=#[])
 (h:∀v,Val v->Wk X i V (b.atR (a.put o.dst v) (.inRegion ops rest::k)) cs w0):Wk X i V (b.atR a (.inRegion ops (n::rest)::k)) cs w0:=by
 refine Wk.enter ho hw QT (λw _=>⟨(hr w).1,λe he=>by rw[(hr w).2]at he;simp at he⟩) λw RG=>?_;have QY:=RG.own.size;refine xl (V0:=V) (w0:=w) ⟨λb hb=>Nat.lt_of_lt_of_le (Ri.1 b hb) QY,Nat.lt_of_lt_of_le Ri.2.1 QY,Nat.lt_of_lt_of_le Ri.2.2 QY⟩ RA (hT w RG) (hC w RG) λv V' w' hv hV' hr'=>?_;rw[Frame.finish_atR,ho];exact(h v hv w' (RG.trans hr')).more V' hV'
def rV(P:Program):Frame:={(default:Frame)with fn:=P.funcs.size,defers:=[],mode:=.panicking [goexitEntry]}
theorem CB{cap:Array Value}(hf:P.funcs[f]?=some fn)(QV:(fn.name== "runtime.NumGoroutine")=false)(hb:fn.body.isNone=false)(w:World):
 stepG P false (born P {target:=.fn (.func f) cap,args:=args}) w=.go (cQ (Frame.enter P f (args++cap) .deferred) [rV P]) w #[]:=by
 have h1:¬fn.name= "runtime.NumGoroutine" :=by simpa using QV
 have h2:¬fn.body=none:=λe=>by rw[e]at hb;simp at hb
 simp[born,stepG,unwind,callDeferred,invoke,callFunc,hf,h1,h2,GStep.after,seen_none,rV]
theorem Wk.born{cap:Array Value}(hf:X.P.funcs[f]?=some fn)(QV:(fn.name== "runtime.NumGoroutine")=false)(hb:fn.body.isNone=false)(h:Wk X i V (Frame.enter X.P f (args++cap) .deferred) [rV X.P] w):aE X i ⟨V,Go.Conc.born X.P {target:=.fn (.func f) cap,args:=args},w⟩:=by
 refine aE.own rfl λQI QJ=>⟨_,QI,#[],CB hf QV hb QI,c_ _ _ _,?_⟩;rw[bK];exact h QI QJ
theorem Wk.defer{o:Oper}{Yt:Array Operand}{ats:Array TypeId}(ho:ops[n]?=some o)(hw:Region.wanted o (yielded ops a.tmps)=true)(hk:b.kind≠ .early)(hb:b.roundOf=none)(QH:o.op=.defer {callee:=.value (.func f),args:=Yt,argTypes:=ats})
 (h:Wk X i V (b.atR (Act.put ⟨a.tmps,dcall f (Yt.map a.eval)::a.defers⟩ o.dst undef) (.inRegion ops rest::k)) cs w0):Wk X i V (b.atR a (.inRegion ops (n::rest)::k)) cs w0:=λw RG=>by
 rw[Frame.atR_of_none hb];rw[Frame.atR_of_none hb]at h;refine aE.own rfl λQI QJ=>⟨_,QI,#[],stepG_defer ho hw hk QH,c_ _ _ _,?_⟩;rw[bK];exact h QI (RG.trans QJ)
theorem Wk.take{l:Nat}(hd:a.defers={target:=.collected l,args:=#[]}::ds)(hV:V l)(hl:w0.heap[l]?=some (.deferred (some [])))
 (h:∀w,aV X i V w0 w->Wk X i V {b.atR ⟨a.tmps,ds⟩ k with mode:=.returning} cs {w with heap:=w.heap.setIfInBounds l (.deferred none)}):Wk X i V {b.atR a k with mode:=.returning} cs w0:=λw RG=>by
 refine aE.take (fr:={b.atR a k with mode:=.returning}) rfl hd hV ((RG.own.keep l (.inl hV)).trans hl) λQI QJ=>?_;exact(h QI (RG.trans QJ)).now
theorem xx(hf:P.funcs[f]?=some fn)(hr:fn.results=#[])(T:Array Value)(k:List Item):QuitsD P 2 0 (G {(baseD f).at ⟨T,[]⟩ k with mode:=.returning} [rV P]):=by
 refine QuitsD.ctl (g':=G (rV P) []) rfl (λw=>?_) ?_
 .simp[G,stepG,unwind,doReturn,results,Frame.at,baseD,rV,hf,hr,seen,GStep.after,goexitEntry]
 refine QuitsD.ctl (g':={G (rV P) []with status:=.finished}) rfl (λw=>?_) ⟨rfl,rfl⟩;simp[G,stepG,unwind,rV,goexitEntry,Frame.catches];rfl
theorem Wk.done{L:Go.Conc.Lib.WgLink}(H:Go.Conc.Lib.WgLib X.P L)(hty:L.tWg=X.ty)(RA:X.RO 0)(hf:X.P.funcs[f]?=some fn)(hr:fn.results=#[]){T:Array Value}
 {v0:Value} (h0:w0.cell? ⟨0,0,none⟩=some v0) (hK:WgLive X.ty X.Wg w0) (QU:∀c,X.mine i c->w0.cell? (X.at c)=some (X.val c)):
 Wk X i V {(baseD f).atR ⟨T,[dcall L.done #[.pk X.Wg 0]]⟩ k with mode:=.returning} [rV X.P] w0:=λw RG=>by
 refine aE.own rfl λQI QJ=>?_;have hs:=RG.trans QJ;refine⟨_,QI,#[],stepG_unwind_enter (b:=baseD f) (a:=⟨T,[dcall L.done #[.pk X.Wg 0]]⟩) (todo:=k) (ds:=[]) rfl H.f_done (Go.ConcR.Gen.nm_done L) rfl,c_ _ _ _,?_⟩;rw[bK];have W8:QI.cell? ⟨0,0,none⟩=some v0:=by
  rw[←h0];unfold World.cell?;rw[hs.own.keep 0 (.inr RA)]
 exact yV X H hty RA rfl (xx hf hr T k) (hs.live hK) W8 λc hc=>(hs.cells c hc).trans (QU c hc)
end

end Go.Proofs.YtkmoglhgkcnalaaGreatDoor
namespace Go.Proofs.YtkmoglhgkcnalaaGreatDoor
open Go Go.Conc
section
variable{X:aA}{b:Frame}{k:List Item}
theorem zr{md:Region.Mode}(Rs:∀(n:Nat) (o:Oper),ops[n]?=some o->∀e∈o.after,e.on<n)(Inv:Array Bool->Act->World->Prop)
 (Rw:∀listed a w,(∀n,n<ops.size->listed[n]?=some true)->Inv listed a w->Wk X i V (b.atR a (.inRegion ops []::k)) cs w)
 (Rj:∀listed a w n o rest,listed.size=ops.size->ops[n]?=some o->listed[n]?=some false->(∀e∈o.after,Region.binds md e=true->listed[e.on]?=some true)->Inv listed a w->
   (∀a' w',Inv (listed.setIfInBounds n true) a' w'->Wk X i V (b.atR a' (.inRegion ops rest::k)) cs w')->Wk X i V (b.atR a (.inRegion ops (n::rest)::k)) cs w)
 (t:Nat) (a:Act) (w:World) (h0:Inv (Array.replicate ops.size false) a w):Wk X i V (b.atR a (.inRegion ops (Region.linearise md ops t)::k)) cs w:=by
 unfold Region.linearise;refine Wk.order (md:=md) (λfuel listed a w=>listed.size=ops.size/\j8 listed=fuel/\Inv listed a w) (λlisted a w h=>?_) (λfuel listed a w h hr=>?_) (λfuel listed a w n rest h hn Rl=>?_) ops.size t _ a w ⟨by simp,?_,h0⟩
 .exact Rw listed a w (λn hn=>qs h.2.1 n (by rw[h.1];exact hn)) h.2.2
 .exfalso;obtain⟨n,h1,h2,h3⟩:=oz h.2.1;have QK:n<ops.size:=by rw[←h.1];exact h1
  have hm:n∈Region.ready md ops listed:=by
   unfold Region.ready;rw[List.mem_filter];refine⟨List.mem_range.2 QK,?_⟩;rw[Array.getElem?_eq_getElem QK];have e1:listed.getD n true=false:=(by simp[Array.getD_eq_getD_getElem?,h2]);rw[e1];simp only[Bool.not_false,Option.map_some,Option.getD_some,Bool.true_and];rw[Array.all_eq_true'];intro e he;have:=Rs n _ (Array.getElem?_eq_getElem QK) e he;simp[Array.getD_eq_getD_getElem?,h3 _ this]
  rw[hr]at hm;simp at hm
 .unfold Region.ready at hn;rw[List.mem_filter]at hn;obtain⟨SA,RV⟩:=hn;have QK:=List.mem_range.1 SA;rw[Array.getElem?_eq_getElem QK]at RV;simp only[Option.map_some,Option.getD_some,Bool.and_eq_true,Bool.not_eq_true']at RV;have hl:n<listed.size:=by rw[h.1];exact QK
  have hf:listed[n]?=some false:=by
   have:=RV.1;rw[Array.getD_eq_getD_getElem?,Array.getElem?_eq_getElem hl]at this;rw[Array.getElem?_eq_getElem hl];simpa using this
  refine Rj listed a w n _ rest h.1 (Array.getElem?_eq_getElem QK) hf (λe he hb=>?_) h.2.2 λa' w' h'=>Rl a' w' ⟨by simp[h.1],qp h.2.1 hf,h'⟩;have:=Array.all_eq_true'.1 RV.2 e he;rw[hb]at this;simp only[Bool.not_true,Bool.false_or]at this;rw[Array.getD_eq_getD_getElem?]at this;cases e3:listed[e.on]? with
  |none=>rw[e3]at this;simp at this
  |some q=>rw[e3]at this;simp at this;rw[this]
 .simp[j8]
end

end Go.Proofs.YtkmoglhgkcnalaaGreatDoor
namespace Go.Proofs.YtkmoglhgkcnalaaGreatDoor
open Go Go.Conc
open Go.ConcN (WgLive)
def AN(X:aA)(lQ:World->Prop):Prop:=∀w w':World,(∀b,X.RO b->w'.heap[b]?=w.heap[b]?)->w.heap.size<=w'.heap.size->lQ w->lQ w'
structure pw (X:aA) (i:Nat) (lQ:World->Prop) (V:Nat->Prop) (done:Nat->Prop) (w:World):Prop where
 pap:lQ w
 live:WgLive X.ty X.Wg w
 list:X.list w
 cells:∀c,X.mine i c->done c->w.cell? (X.at c)=some (X.val c)
 low:(∀b,V b\/X.RO b->b<w.heap.size)/\X.Wg<w.heap.size/\X.C<w.heap.size
 sep:(∀b,V b->¬X.RO b/\b≠X.C/\b≠X.Wg)/\¬X.RO X.C/\X.C≠X.Wg
section
variable{X:aA}{lQ:World->Prop}{done:Nat->Prop}
theorem pw.rely(hP:AN X lQ)(h:pw X i lQ V done w)(r:aV X i V w w'):pw X i lQ V done w':=
 ⟨hP w w' (λb hb=>r.own.keep b (.inr hb)) r.own.size h.pap,r.live h.live,r.list h.list,λc hc hd=>(r.cells c hc).trans (h.cells c hc hd),
  ⟨λb hb=>Nat.lt_of_lt_of_le (h.low.1 b hb) r.own.size,Nat.lt_of_lt_of_le h.low.2.1 r.own.size,Nat.lt_of_lt_of_le h.low.2.2 r.own.size⟩,h.sep⟩
theorem pw.own(hP:AN X lQ)(h:pw X i lQ V done w)(o:bo V X.RO w w' es):pw X i lQ (grown V w w') done w':=by
 have hT:=o.turns;have h1:¬V X.Wg:=λhv=>(h.sep.1 _ hv).2.2 rfl;have h2:¬V X.C:=λhv=>(h.sep.1 _ hv).2.1 rfl;refine⟨hP w w' (λb hb=>o.keep b (h.low.1 b (.inr hb)) λhv=>(h.sep.1 b hv).1 hb) o.size h.pap,hT.live h1 h.low.2.1 h.live,hT.list h2 h.low.2.2 h.list,
  λc hc hd=>(hT.cell (a:=X.at c) h2 h.low.2.2).trans (h.cells c hc hd),⟨λb hb=>?_,Nat.lt_of_lt_of_le h.low.2.1 o.size,Nat.lt_of_lt_of_le h.low.2.2 o.size⟩,⟨λb hb=>?_,h.sep.2⟩⟩
 .rcases hb with(hb|hb)|hb
  .exact Nat.lt_of_lt_of_le (h.low.1 b (.inl hb)) o.size
  .exact hb.2
  .exact Nat.lt_of_lt_of_le (h.low.1 b (.inr hb)) o.size
 .rcases hb with hb|hb
  .exact h.sep.1 b hb
  .refine⟨λhr=>?_,λe=>?_,λe=>?_⟩
   .have:=h.low.1 b (.inr hr);omega
   .have:=h.low.2.2;omega
   .have:=h.low.2.1;omega
theorem pw.put(hP:AN X lQ)(h:pw X i lQ V done w){c:Nat}(hc:c<X.n):pw X i lQ V (λd=>done d\/d=c) (w.setCell (X.at c) (X.val c)):=by
 have hT:=sE w (X.at c) (X.val c);refine⟨hP w _ (λb hb=>?_) hT.size h.pap,hT.live (λe=>h.sep.2.2 (show X.Wg=X.C from e).symm) h.low.2.1 h.live,jl c _ h.list,λd hd hdn=>?_,⟨λb hb=>Nat.lt_of_lt_of_le (h.low.1 b hb) hT.size,Nat.lt_of_lt_of_le h.low.2.1 hT.size,Nat.lt_of_lt_of_le h.low.2.2 hT.size⟩,h.sep⟩
 .exact hT.keep b (h.low.1 b (.inr hb)) λe=>h.sep.2.1 (by have e':b=X.C:=e;rw[←e'];exact hb)
 .obtain⟨cs,h1,h2⟩:=h.list;have hh:(w.setCell (X.at c) (X.val c)).heap[X.C]?=some (.cells (cs.setIfInBounds c (X.val c)) X.ety):=by
   obtain⟨QK,he⟩:=Array.getElem?_eq_some_iff.1 h1;simp only[World.setCell,aA.at];rw[Array.getElem?_modify,h1];simp
  have Xj:(w.setCell (X.at c) (X.val c)).cell? (X.at d)=(cs.setIfInBounds c (X.val c))[d]?:=by
   unfold aA.at at hh;unfold World.cell? aA.at;simp[hh]
  rw[Xj];by_cases hdc:d=c
  .subst hdc;rw[Array.getElem?_setIfInBounds_self_of_lt o_]
  .rw[Array.getElem?_setIfInBounds_ne (Ne.symm hdc)];have:=h.cells d hd (hdn.resolve_right hdc);rw[←this];unfold World.cell? aA.at;simp[h1]
theorem pw.mono{Ua:Nat->Prop}(h:pw X i lQ V done w)(hd:∀c,X.mine i c->Ua c->done c):pw X i lQ V Ua w:=⟨h.pap,h.live,h.list,λc hc Xj=>h.cells c hc (hd c hc Xj),h.low,h.sep⟩
end

end Go.Proofs.YtkmoglhgkcnalaaGreatDoor
namespace Go.Proofs.YtkmoglhgkcnalaaGreatDoor
open Go Go.Conc
def K5(ops:Array Oper):Bool:=(List.range ops.size).all λn=>((ops[n]?).map λo=>o.after.all λe=>decide (e.on<n)).getD true
theorem Md(h:K5 ops=true)(n:Nat)(o:Oper)(ho:ops[n]?=some o):∀e∈o.after,e.on<n:=by
 intro e he;have hn:n<ops.size:=(Array.getElem?_eq_some_iff.1 ho).1;have:=List.all_eq_true.1 h n (List.mem_range.2 hn);rw[ho]at this;simpa using Array.all_eq_true'.1 this e he
structure lO (fx:List (Nat×Value)) (tb:List (Nat×Nat×Value)) (N:Nat) (listed:Array Bool) (a:Act):Prop where
 defers:a.defers=[]
 size:N<=a.tmps.size
 fixed:∀p∈fx,a.tmps[p.1]?=some p.2
 come:∀p∈tb,listed[p.1]?=some true->a.tmps[p.2.1]?=some p.2.2
section
variable{tb:List (Nat×Nat×Value)}{listed:Array Bool}
theorem lO.put(h:lO fx tb N listed a){d:Nat}(hd:d<N)(h1:∀p∈fx,p.1≠d)(h2:∀p∈tb,p.2.1=d\/p.1=n->p=(n,d,v)):lO fx tb N (listed.setIfInBounds n true) (a.put (some d) v):=by
 refine⟨h.defers,by simpa[Act.put]using h.size,λp hp=>?_,λp hp hl=>?_⟩
 .show(a.tmps.setIfInBounds d v)[p.1]?=_;rw[Array.getElem?_setIfInBounds_ne (Ne.symm (h1 p hp))];exact h.fixed p hp
 .show(a.tmps.setIfInBounds d v)[p.2.1]?=_;by_cases e:p.2.1=d\/p.1=n
  .have:=h2 p hp e;subst this;exact Array.getElem?_setIfInBounds_self_of_lt (Nat.lt_of_lt_of_le hd h.size)
  .have e1:d≠p.2.1:=λx=>e (.inl x.symm);have e2:n≠p.1:=λx=>e (.inr x.symm);rw[Array.getElem?_setIfInBounds_ne e1];rw[Array.getElem?_setIfInBounds_ne e2]at hl;exact h.come p hp hl
theorem lO.pass(h:lO fx tb N listed a)(h2:∀p∈tb,p.1≠n)(v:Value):lO fx tb N (listed.setIfInBounds n true) (a.put none v):=by
 refine⟨h.defers,h.size,h.fixed,λp hp hl=>?_⟩;rw[Array.getElem?_setIfInBounds_ne (Ne.symm (h2 p hp))]at hl;exact h.come p hp hl
end

end Go.Proofs.YtkmoglhgkcnalaaGreatDoor
namespace Go.Proofs.YtkmoglhgkcnalaaGreatDoor
open Go Go.Conc Go.RowKit
theorem ac:a.eval (.const v)=v:=rfl
theorem gX{x:Nat}(hF:ay F N ds a:=by assumption)(hx:F.lookup x=some v:=by rfl):a.eval (.tmp x)=v:=hF.get hx
theorem ag{g:Nat}:a.eval (.global g)=.pk g 0:=rfl
theorem gx{p:Prop}(h:p:=by first|exact gY|exact gX|exact ac|exact ag):p:=h
theorem pl(h:ev x=v)(hp:ig v=true:=by rfl):ig (ev x)=true:=by rw[h];exact hp
theorem xY{t:TypeId}(h:lS P t i=true):kE P ev (.fieldAddr t x i):=h
theorem nG{p:Prop}(h:p:=by
 first
 |exact trivial
 |exact .inl ⟨pl gx,pl gx⟩
 |exact xY k_
 |exact⟨by kernel_rfl,pl gx⟩
 |exact⟨_,gx⟩
 |exact .inr ⟨by simp,_,gx,gx⟩):p:=h
section
variable{o:Oper}
theorem bT{o:Oper}(QH:o.op=.move x\/o.op=.assign x):(execOp ev o).run P w=.ok (.value (ev x)) w:=by
 rcases QH with h|h<;>simp[execOp,h]
theorem BG(QH:o.op=.move x)(hx:ev x=v):(execOp ev o).run P w=.ok (.value v) w:=hx▸bT (.inl QH)
theorem tZ(QH:o.op=.assign x)(hx:ev x=v):(execOp ev o).run P w=.ok (.value v) w:=hx▸bT (.inr QH)
theorem fB{o:Oper}{y z:Operand}{q:Bool}(QH:o.op=.pick x y z)(hx:ev x=.bool q):(execOp ev o).run P w=.ok (.value (if q then ev y else ev z)) w:=by
 cases q<;>simp[execOp,QH,hx,go_sem]
theorem j1{o:Oper}{vs:Array Value}(QH:o.op=.extract x i)(hx:ev x=.tuple vs)(hv:vs[i]?=some v):(execOp ev o).run P w=.ok (.value v) w:=by
 simp[execOp,QH,hx,Instr.extract,hv]
theorem aJ{o:Oper}{y:Operand}{t:TypeId}{g:Nat}{cells old:Array Value}(QH:o.op=.store ty x y)(hx:ev x=.pk g 0)(hy:ev y=.agg cells)(hg:w.heap[g]?=some (.cells old t))(hi:(P.info? ty).map (·.size)=some cells.size)(ho:old.size=cells.size)(h1:cells.all (·.oneCell')=true):
 (execOp ev o).run P w=.ok .skip (w.setRow g cells):=by
 have h:=run_storeVar_row (P:=P) w g t ty old cells hg hi ho h1;simp[execOp,QH,hx,hy,Instr.storeAt,Instr.sureAddr,h]
theorem aU(w:World)(g:Nat)(cs:Array Value)(h:N<=g):Below N w (w.setRow g cs):=⟨rfl,rfl,rfl,by simp[World.setRow],λk hk=>setRow_other w g k cs o_⟩
theorem tN{o:Oper}{t:TypeId}(QH:o.op=.box t x):(execOp ev o).run P w=.ok (.value (.pk w.heap.size 0)) (w.alloc (.cells (ev x).cells t)):=by
 simp[execOp,QH,Instr.box,newVar,newRow,go_sem]
end
def nd:Op->Bool
 | .defer _=>false
 |_=>true
section
variable{C:iJ}{b:Frame}{k:List Item}
def gV(ops:Array Oper)(F:List (Nat×Value)):Option (Nat×Bool)->Option Bool
 |none=>some true
 |some (g,q)=>match (ops[g]?).bind (·.dst)with
  |some s=>match F.lookup s with
   |some (.bool r)=>some (r==q)
   |some _=>some false
   |none=>none
  |none=>none
def Hn(F:List (Nat×Value))(ok:Nat->Bool)(a:Act):Prop:=∀d v,F.lookup d=some v->ok d=true->a.tmps[d]?=some v
def rU(ops:Array Oper)(ok:Nat->Bool):Option (Nat×Bool)->Bool
 |none=>true
 |some (g,_)=>((ops[g]?).bind (·.dst)).all ok
theorem LS{o:Oper}{ok:Nat->Bool}{q:Bool}(hF:Hn F ok a)(h:o.guard=gd)(hw:gV ops F gd=some q)(hk:rU ops ok gd=true):Region.wanted o (yielded ops a.tmps)=q:=by
 unfold Region.wanted yielded;rw[h];cases gd with
 |none=>exact Option.some.inj hw
 |some gq=>
  obtain⟨g,r⟩:=gq;simp only[gV,rU]at hw hk;cases hs:(ops[g]?).bind (·.dst)with
  |none=>rw[hs]at hw;cases hw
  |some s=>
   rw[hs]at hw hk;simp only at hw;cases hr:F.lookup s with
   |none=>rw[hr]at hw;cases hw
   |some u=>
    rw[hr]at hw;simp only[hs,hF s _ hr (by simpa using hk),Option.bind_some];cases u with
    |bool x=>simpa using hw
    |_=>exact Option.some.inj hw
theorem fV{o:Oper}{q:Bool}(hF:ay F N ds a)(h:o.guard=gd)(hw:gV ops F gd=some q):Region.wanted o (yielded ops a.tmps)=q:=LS (ok:=λ_=>true) (λd v h _=>hF.slot d v h) h hw (by cases gd<;>simp[rU])
theorem ra{o:Oper}(e:o.op=p)(h:nd p=true):∀c,o.op≠ .defer c:=λc q=>by rw[←e,q]at h;cases h
theorem Rn.qq(hF:ay F N ds a)(next:∀a',ay ((d,v)::F) N ds a'->Rn C Goal (b.atR a' (.inRegion ops rest::k)) cs w)
 (h:(ops[m]?).map (λo=>(o.dst,o.op,o.guard))=some (some d,p,gd):=by rfl) (hw:gV ops F gd=some true:=by rfl) (hy:∀o:Oper,o.op=p->(execOp a.eval o).run C.P w=.ok (.value v) w:=by intro o ho;exact oq) (hd:d<N:=by decide) (QT:nd p=true:=by rfl) (ok:kE C.P a.eval p:=by exact nG):Rn C Goal (b.atR a (.inRegion ops (m::rest)::k)) cs w:=by
 obtain⟨o,ho,e1,e2,e3⟩:=kC h;refine oi ho (fV hF e3 hw) (ra e2 QT) ⟨hy o e2,gA (e2▸ok),λ_=>rfl,rfl⟩ ?_;rw[e1];exact next _ (hF.put hd v)
def eI:Nat->Frame->List Item
 |0,fr=>fr.todo
 |n+1,fr=>match fr.todo with
  | .inRegion _ (_::_)::_=>fr.todo
  |_=>match eZ fr with
   |some t=>eI n {fr with todo:=t}
   |none=>fr.todo
theorem cR:∀(n:Nat) (k:List Item),Rn C Goal (b.atR a (eI n (b.atR a k))) cs w->Rn C Goal (b.atR a k) cs w
 |0,_,h=>h
 |n+1,k,h=>by
  unfold eI at h;split at h
  .exact h
  .split at h
   .rename_i t ht;exact Rn.plain ht (cR n t h)
   .exact h
theorem Rn.gr(next:Rn C Goal (b.atR a (.inRegion ops (m::rest)::k')) cs w)(h:eI 6 (b.atR a k)=.inRegion ops (m::rest)::k':=by rfl):Rn C Goal (b.atR a k) cs w:=cR 6 k (by rw[h];exact next)
theorem a9(hF:ay F N ds a)(next:∀a',ay ((d,v)::F) N ds a'->Rn C Goal (b.atR a' (.inRegion ops rest::k')) cs w)(h0:eI 6 (b.atR a k)=.inRegion ops (m::rest)::k':=by rfl)
 (h:(ops[m]?).map (λo=>(o.dst,o.op,o.guard))=some (some d,p,gd):=by rfl) (hw:gV ops F gd=some true:=by rfl) (hy:∀o:Oper,o.op=p->(execOp a.eval o).run C.P w=.ok (.value v) w:=by intro o ho;exact oq) (hd:d<N:=by decide) (QT:nd p=true:=by rfl) (ok:kE C.P a.eval p:=by exact nG):Rn C Goal (b.atR a k) cs w:=Rn.gr (Rn.qq hF next h hw hy hd QT ok) h0
theorem aL{t:Tmp}(hF:ay F N [] a)(hR:R v w)(hv:F.lookup t=some v:=by rfl)(h0:eI 6 ((base f).atR a k)=.code .ret::k':=by rfl):
 Rn C (λg w'=>∃(a:Act) (k:List Item) (v:Value),g=cQ {(base f).atR a k with mode:=.returning} cs/\a.defers=[]/\a.tmps[t]?=some v/\R v w') ((base f).atR a k) cs w:=
 cR 6 k (by rw[h0];exact Rn.ends rfl (.inr ⟨_,rfl⟩) (Rn.now ⟨a,_,_,rfl,hF.defers,hF.slot t _ hv,hR⟩))
theorem dW{t u:Tmp}{x:Value}{R:Value->Value->World->Prop}(hF:ay F N [] a)(hR:R v x w)(hv:F.lookup t=some v:=by rfl)(hx:F.lookup u=some x:=by rfl)(h0:eI 6 ((base f).atR a k)=.code .ret::k':=by rfl):
 Rn C (λg w'=>∃(a:Act) (k:List Item) (v x:Value),g=cQ {(base f).atR a k with mode:=.returning} cs/\a.defers=[]/\a.tmps[t]?=some v/\a.tmps[u]?=some x/\R v x w') ((base f).atR a k) cs w:=
 cR 6 k (by rw[h0];exact Rn.ends rfl (.inr ⟨_,rfl⟩) (Rn.now ⟨a,_,_,_,rfl,hF.defers,hF.slot t _ hv,hF.slot u _ hx,hR⟩))
theorem O5{p:Prop}(h:p:=by first|exact λ_=>rfl|(intro h;cases h)|(intro _;simp[World.setCell,World.setRow])):p:=h
theorem af(hF:ay F N ds a)(hy:∀o:Oper,o.op=p->(execOp a.eval o).run C.P w=.ok (.value v) w')(next:∀a',ay ((d,v)::F) N ds a'->Rn C Goal (b.atR a' (.inRegion ops rest::k')) cs w')(h0:eI 6 (b.atR a k)=.inRegion ops (m::rest)::k':=by rfl)
 (h:(ops[m]?).map (λo=>(o.dst,o.op,o.guard))=some (some d,p,gd):=by rfl) (hw:gV ops F gd=some true:=by rfl) (hd:d<N:=by decide) (QT:nd p=true:=by rfl) (ok:kE C.P a.eval p:=by exact nG) (hz:C.pad=true->w'.heap.size=w.heap.size:=by exact O5) (hq:w'.drawn=w.drawn:=by rfl):Rn C Goal (b.atR a k) cs w:=by
 refine Rn.gr ?_ h0;obtain⟨o,ho,e1,e2,e3⟩:=kC h;refine oi ho (fV hF e3 hw) (ra e2 QT) ⟨hy o e2,gA (e2▸ok),hz,hq⟩ ?_;rw[e1];exact next _ (hF.put hd v)
theorem aM(hF:ay F N ds a)(hy:∀o:Oper,o.op=p->(execOp a.eval o).run C.P w=.ok .skip w')(next:∀a',ay F N ds a'->Rn C Goal (b.atR a' (.inRegion ops rest::k')) cs w')(h0:eI 6 (b.atR a k)=.inRegion ops (m::rest)::k':=by rfl)
 (h:(ops[m]?).map (λo=>(o.dst,o.op,o.guard))=some (none,p,none):=by rfl) (QT:nd p=true:=by rfl) (ok:kE C.P a.eval p:=by exact nG) (hz:C.pad=true->w'.heap.size=w.heap.size:=by exact O5) (hq:w'.drawn=w.drawn:=by rfl):Rn C Goal (b.atR a k) cs w:=by
 refine Rn.gr ?_ h0;obtain⟨o,ho,e1,e2,e3⟩:=ka h;refine zu ho (e3 _) (ra e2 QT) ⟨hy o e2,gA (e2▸ok),hz,hq⟩ ?_;rw[e1];exact next a hF
theorem dF(hF:ay F N ds a)(hy:∀o:Oper,o.op=p->∀w1,so C.pad w w1->∃v w',(execOp a.eval o).run C.P w1=.ok (.value v) w'/\R v w')(next:∀v w',R v w'->∀a',ay ((d,v)::F) N ds a'->Rn C Goal (b.atR a' (.inRegion ops rest::k')) cs w')(h0:eI 6 (b.atR a k)=.inRegion ops (m::rest)::k':=by rfl)
 (h:(ops[m]?).map (λo=>(o.dst,o.op,o.guard))=some (some d,p,gd):=by rfl) (hw:gV ops F gd=some true:=by rfl) (hd:d<N:=by decide) (QT:nd p=true:=by rfl) (ok:kE C.P a.eval p:=by exact nG):Rn C Goal (b.atR a k) cs w:=by
 refine Rn.gr ?_ h0;obtain⟨o,ho,e1,e2,e3⟩:=kC h;refine AI ho (fV hF e3 hw) (ra e2 QT) (gA (e2▸ok)) λw1 hp=>?_;obtain⟨v,w',q1,q2⟩:=hy o e2 w1 hp;refine⟨v,w',q1,?_⟩;rw[e1];exact next v w' q2 _ (hF.put hd v)
def Q4(F:List (Nat×Value)):Operand->Option Value
 | .tmp t=>F.lookup t
 | .const v=>some v
 |_=>none
def wu(F:List (Nat×Value)):List Operand->Option (List Value)
 |[]=>some []
 |x::r=>match Q4 F x,wu F r with
  |some v,some l=>some (v::l)
  |_,_=>none
theorem Fo(hF:ay F N ds a)(h:Q4 F x=some v):a.eval x=v:=by
 cases x with
 |tmp t=>exact hF.get h
 |const u=>exact Option.some.inj h
 |func f=>cases h
 |_=>cases h
theorem yT(hF:ay F N ds a):∀(xs:List Operand) (vs:List Value),wu F xs=some vs->xs.map a.eval=vs
 |[],vs,h=>by cases h;rfl
 |x::r,vs,h=>by
  unfold wu at h;split at h
  .rename_i v l h1 h2;cases h;rw[List.map_cons,Fo hF h1,yT hF r l h2]
  .cases h
theorem mz{o:Oper}{xs:Array Operand}{ats:Array TypeId}(QH:o.op=.call {callee:=.value (.func f),args:=xs,argTypes:=ats})(ha:xs.map ev=args)(hf:C.P.funcs[f]?=some fn)(QV:(fn.name== "runtime.NumGoroutine")=false)(hb:fn.body.isNone=false)(he:ev (.func f)=.func (.func f) #[] #[]):Rk C ev o w (.enter f args) w:=by
 have e:execOp ev o=callFunc f args:=by
  simp only[execOp,QH,resolve,Deferred.ofValue,he,ha];simp[invoke,bind,Sem.bind,pure]
 have hr:=jm (w:=w) hf QV hb args;rw[Sem.runT_eq]at hr;refine⟨by rw[e];exact(Prod.mk.inj hr).1,?_,λ_=>rfl,rfl⟩;rw[e];refine .eqv (s':=.pure (.enter f args)) (λw es=>?_) (.pure _);have h1:¬fn.name= "runtime.NumGoroutine" :=by simpa using QV
 have h2:¬fn.body=none:=λe=>by rw[e]at hb;simp at hb
 simp[-Sem.runT_eq,callFunc,bind,Sem.bind,Sem.runT,pure,program,hf,h1,h2]
theorem bf{xs:Array Operand}{ats:Array TypeId}(hF:ay F N ds a)(hf:C.P.funcs[f]?=some fn)(hC:Cl C f vs.toArray w λe w'=>∃v,e=.returned v/\R v w')
 (next:∀v w',R v w'->∀a',ay ((d,v)::F) N ds a'->Rn C Goal (b.atR a' (.inRegion ops rest::k')) cs w') (h0:eI 6 (b.atR a k)=.inRegion ops (m::rest)::k':=by rfl)
 (h:(ops[m]?).map (λo=>(o.dst,o.op,o.guard))=some (some d,.call {callee:=.value (.func f),args:=xs,argTypes:=ats},gd):=by rfl) (ha:wu F xs.toList=some vs:=by rfl) (hd:d<N:=by decide) (QV:(fn.name== "runtime.NumGoroutine")=false:=by kernel_rfl) (hb:fn.body.isNone=false:=by kernel_rfl) (hw:gV ops F gd=some true:=by rfl):Rn C Goal (b.atR a k) cs w:=by
 refine Rn.gr ?_ h0;obtain⟨o,ho,e1,e2,e3⟩:=kC h;refine Rn.call ho (fV hF e3 hw) (by rw[e2];simp) (mz e2 (by rw[←yT hF _ _ ha,←Array.toList_map,Array.toArray_toList]) hf QV hb rfl) hC λv w' hv=>?_;rw[e1];exact next v w' hv _ (hF.put hd v)
theorem bH{xs:Array Operand}{ats:Array TypeId}{B:World->Prop}(hF:ay F N ds a)(hf:C.P.funcs[f]?=some fn)(hC:Cl C f vs.toArray w λe w'=>e=.returned v/\B w')
 (next:∀w',B w'->∀a',ay ((d,v)::F) N ds a'->Rn C Goal (b.atR a' (.inRegion ops rest::k')) cs w') (h0:eI 6 (b.atR a k)=.inRegion ops (m::rest)::k':=by rfl)
 (h:(ops[m]?).map (λo=>(o.dst,o.op,o.guard))=some (some d,.call {callee:=.value (.func f),args:=xs,argTypes:=ats},gd):=by rfl) (ha:wu F xs.toList=some vs:=by rfl) (hd:d<N:=by decide) (QV:(fn.name== "runtime.NumGoroutine")=false:=by kernel_rfl) (hb:fn.body.isNone=false:=by kernel_rfl) (hw:gV ops F gd=some true:=by rfl):Rn C Goal (b.atR a k) cs w:=
 bf (R:=λu w'=>u=v/\B w') hF hf (hC.mono λ_ _ h=>⟨_,h.1,rfl,h.2⟩) (λu w' hu a' hF=>by obtain⟨rfl,hB⟩:=hu;exact next w' hB a' hF) h0 h ha hd QV hb hw
theorem bl{ob:Obj}(hF:ay F N ds a)(hy:∀o:Oper,o.op=p->(execOp a.eval o).run C.P w=.ok (.value v) (w.alloc ob))
 (next:∀w' a',Bw w w'->w'.heap[w.heap.size]?=some ob->w'.heap.size=w.heap.size+1->ay ((d,v)::F) N ds a'->Rn C Goal (b.atR a' (.inRegion ops rest::k')) cs w') (h0:eI 6 (b.atR a k)=.inRegion ops (m::rest)::k':=by rfl)
 (h:(ops[m]?).map (λo=>(o.dst,o.op,o.guard))=some (some d,p,gd):=by rfl) (hw:gV ops F gd=some true:=by rfl) (hd:d<N:=by decide) (QT:nd p=true:=by rfl) (ok:kE C.P a.eval p:=by exact nG) (hp:C.pad=false:=by rfl):Rn C Goal (b.atR a k) cs w:=
 af hF hy (λa' hF=>next _ a' (aD w ob) (aK w ob) (ao w ob) hF) h0 h hw hd QT ok (λh=>by rw[hp]at h;cases h) rfl
theorem Pj{V:Nat->Value}{ob:Obj}(hF:ay F N ds a)(hy:∀(o:Oper) (w:World),o.op=p->(execOp a.eval o).run C.P w=.ok (.value (V w.heap.size)) (w.alloc ob))
 (next:∀n w' a',w.heap.size<=n->Bw w w'->w'.heap[n]?=some ob->n<w'.heap.size->ay ((d,V n)::F) N ds a'->Rn C Goal (b.atR a' (.inRegion ops rest::k')) cs w') (h0:eI 6 (b.atR a k)=.inRegion ops (m::rest)::k':=by rfl)
 (h:(ops[m]?).map (λo=>(o.dst,o.op,o.guard))=some (some d,p,gd):=by rfl) (hw:gV ops F gd=some true:=by rfl) (hd:d<N:=by decide) (QT:nd p=true:=by rfl) (ok:kE C.P a.eval p:=by exact nG):Rn C Goal (b.atR a k) cs w:=
 dF (R:=λv w'=>∃n,v=V n/\w.heap.size<=n/\Bw w w'/\w'.heap[n]?=some ob/\n<w'.heap.size) hF (λo ho w1 hp=>⟨_,_,hy o w1 ho,_,rfl,hp.below.size,ab hp.below hp.below.size (aD w1 ob),aK w1 ob,by rw[ao];omega⟩) (λv w' ⟨n,e,h1,h2,h3,h4⟩ a' hF=>by subst e;exact next n w' a' h1 h2 h3 h4 hF) h0 h hw hd QT ok
theorem cW{x:Tmp}{t:TypeId}{c:Array Value}(hF:ay F N ds a)
 (next:∀w' a',Bw w w'->w'.heap[w.heap.size]?=some (.cells c t)->w'.heap.size=w.heap.size+1->ay ((d,.pk w.heap.size 0)::F) N ds a'->Rn C Goal (b.atR a' (.inRegion ops rest::k')) cs w') (h0:eI 6 (b.atR a k)=.inRegion ops (m::rest)::k':=by rfl)
 (h:(ops[m]?).map (λo=>(o.dst,o.op,o.guard))=some (some d,.box t (.tmp x),none):=by rfl) (hx:F.lookup x=some (.agg c):=by rfl) (hd:d<N:=by decide) (hp:C.pad=false:=by rfl):Rn C Goal (b.atR a k) cs w:=
 bl hF (λo ho=>by rw[tN ho,hF.get hx];rfl) next h0 h rfl hd rfl trivial hp
end
theorem bk{o:Obj}(hb:Bw w w')(h:w.heap[b]?=some o):w'.heap[b]?=some o:=(hb.block _ (Array.getElem?_eq_some_iff.1 h).1).trans h

theorem PE{p:Prop}(h:p:=by
 first
 |exact oq
 |exact kr ho gx (bk hC (by assumption)) PM (λ_=>by kernel_rfl)):p:=h
def kD(ops:Array Oper)(n m x:Nat):Bool:=(List.range n).all λk=>(ops[k]?).bind (·.dst) !=some x||kg ops m k
def vL(ok:Nat->Bool):Operand->Bool
 | .tmp t=>ok t
 |_=>true
def dO(ops:Array Oper)(m:Nat):Nat:=((ops[m]?).bind (·.dst)).getD 0
def Au:List Nat->List (Nat×Value)->List (Nat×Value)
 |_,[]=>[]
 |ds,p::r=>if ds.contains p.1 then Au ds r else p::Au (p.1::ds) r
theorem yG:∀{F:List (Nat×Value)} {ds:List Nat} {p:Nat×Value},p∈Au ds F->p.1∉ds/\F.lookup p.1=some p.2
 |q::r,ds,p,h=>by
  unfold Au at h;split at h
  .rename_i hc;have:=yG h;exact⟨this.1,by rw[List.lookup,show(p.1==q.1)=false from beq_eq_false_iff_ne.2 λe=>this.1 (by rw[e];simpa using hc)];exact this.2⟩
  .rename_i hc;rcases List.mem_cons.1 h with rfl|h
   .exact⟨by simpa using hc,by simp[List.lookup]⟩
   .have:=yG h;simp only[List.mem_cons,not_or]at this;exact⟨this.1.2,by rw[List.lookup,show(p.1==q.1)=false from by simpa using this.1.1];exact this.2⟩
theorem yE:∀{F:List (Nat×Value)} {ds:List Nat} {d:Nat} {v:Value},F.lookup d=some v->d∉ds->(d,v)∈Au ds F
 |q::r,ds,d,v,h,hd=>by
  unfold Au;by_cases e:d=q.1
  .subst e;simp only[List.lookup,beq_self_eq_true,Option.some.injEq]at h;simp[hd,←h]
  .simp only[List.lookup,show(d==q.1)=false from by simpa using e]at h;split
   .exact yE h hd
   .exact List.mem_cons_of_mem _ (yE h (by simp[e,hd]))
abbrev WP:=World->Prop
def s8(ok:Nat->Bool)(w:World):List (Nat×WP)->Prop
 |[]=>True
 |x::M=>(ok x.1=true->x.2 w)/\s8 ok w M
abbrev Ka:=Value⊕(Value->WP)
def Ms(W:World)(V:Nat->Value)(ob:Obj)(u:Value)(w:World):Prop:=∃b,u=V b/\W.heap.size<=b/\w.heap[b]?=some ob
def NV(S:Value->WP):Prop:=∀v w w',S v w->Bw w w'->S v w'
theorem Ms.st{W:World}{V:Nat->Value}{ob:Obj}:NV (Ms W V ob):=λ_ _ _ ⟨b,h1,h2,h3⟩ hb=>⟨b,h1,h2,bk hb h3⟩
section
variable{C:iJ}{W:World}{Q:Act->WP}{T:List Ka}{M:List (Nat×WP)}
structure At (ops:Array Oper) (W:World) (n m:Nat) (F:List (Nat×Value)) (M:List (Nat×WP)) (a:Act) (w:World):Prop where
 f:Hn F (kD ops n m) a
 b:Bw W w
 m:∀w',Bw w w'->s8 (kD ops n m) w' M
theorem At.up(z:At ops W n m F M a w)(h:Bw w w1):At ops W n m F M a w1:=⟨z.f,ab z.b z.b.size h,λw' h'=>z.m w' (ab h h.size h')⟩
theorem gY{x:Nat}(z:At ops W n m F M a w:=by assumption)(hx:F.lookup x=some v:=by rfl)(hk:kD ops n m x=true:=by kernel_rfl):a.eval (.tmp x)=v:=aQ (z.f x v hx hk)
def Sp(C:iJ)(ops:Array Oper)(W:World)(n m:Nat)(F:List (Nat×Value))(M:List (Nat×WP))(R:Value->WP):Prop:=
 ∀o a w,ops[m]?=some o->At ops W n m F M a w->xc C ops a o w λu w'=>R u w'/\Bw w w'
def Gw(C:iJ)(ops:Array Oper)(W:World)(N n:Nat)(df:List Deferred)(Q:Act->WP):List Ka->Nat->List (Nat×Value)->List (Nat×WP)->Prop
 |[],m,F,M=>m=n/\∀a w,ay F N df a->Bw W w->s8 (λ_=>true) w M->Q a w
 | .inl v::T,m,F,M=>Sp C ops W n m F M (λu _=>u=v)/\Gw C ops W N n df Q T (m+1) ((dO ops m,v)::F) M
 | .inr S::T,m,F,M=>NV S/\Sp C ops W n m F M S/\∀u,Gw C ops W N n df Q T (m+1) ((dO ops m,u)::F) ((dO ops m,S u)::M)
def tP(T:List Ka)(m:Nat)(v:Value)(w:World):Prop:=
 match T[m]? with
 |some (.inl u)=>v=u
 |some (.inr S)=>S v w
 |none=>True
def Hi(ops:Array Oper)(n i:Nat)(F:List (Nat×Value))(ok:Nat->Bool)(a:Act):Prop:=∀d v,F.lookup d=some v->ok d=true->(∀k,i<=k->k<n->dO ops k≠d)->a.tmps[d]?=some v
theorem EU(h:Gw C ops W N n df Q T 0 F [])(a:Act)(w:World)(ok:Nat->Bool)(Uq:Hi ops n 0 F ok a):
 ∀i,i<=T.length->(∀m,m<i->ok (dO ops m)=true->∃v,a.tmps[dO ops m]?=some v/\∀w',Bw w w'->tP T m v w')->∃F M,Gw C ops W N n df Q (T.drop i) i F M/\Hi ops n i F ok a/\∀w',Bw w w'->s8 ok w' M:=by
 intro i;induction i with
 |zero=>exact λ_ _=>⟨F,[],h,Uq,λ_ _=>trivial⟩
 |succ i ih=>
  intro hi QQ;obtain⟨F,M,h1,h2,h3⟩:=ih o_ λm hm=>QQ m o_;have hg:=List.getElem?_eq_getElem (show i<T.length by omega);rw[List.drop_eq_getElem_cons o_]at h1;have hr:=QQ i o_;have key:∀{v:Value},(ok (dO ops i)=true->a.tmps[dO ops i]?=some v)->Hi ops n (i+1) ((dO ops i,v)::F) ok a:=λ{v} hv d u hd hk hl=>by
   by_cases e:d=dO ops i
   .subst e;simp only[List.lookup,beq_self_eq_true,Option.some.injEq]at hd;exact hd▸hv hk
   .simp only[List.lookup,show(d==dO ops i)=false from by simpa using e]at hd;exact h2 d u hd hk λk h4 h5=>by
     rcases Nat.lt_or_ge i k with h6|h6
     .exact hl k h6 h5
     .rw[show k=i by omega];exact Ne.symm e
  unfold tP at hr;rw[hg]at hr;revert h1 hr;cases T[i]with
  |inl v=>exact λh1 hr=>⟨_,_,h1.2,key λhk=>let ⟨_,g1,g2⟩:=hr hk;g2 w (Below.refl _ _)▸g1,h3⟩
  |inr S=>
   intro h1 hr;have:∃u,ok (dO ops i)=true->a.tmps[dO ops i]?=some u/\∀w',Bw w w'->S u w':=by
    by_cases hk:ok (dO ops i)=true
    .obtain⟨u,g⟩:=hr hk;exact⟨u,λ_=>g⟩
    .exact⟨undef,λh=>absurd h hk⟩
   obtain⟨u,hu⟩:=this;exact⟨_,_,h1.2.2 u,key λhk=>(hu hk).1,λw' hb=>⟨λhk=>(hu hk).2 w' hb,h3 w' hb⟩⟩
variable{Goal:Goroutine->WP}{b:Frame}{k:List Item}
theorem FX{id:Nat}(hF:ay F N df a)(h:Gw C ops W N n df Q T 0 F [])(Rt:Nat->Act->WP)(hQ:∀a w,Q a w->Rt n a w)
 (QZ:∀m o a w' rest,n<=m->ops[m]?=some o->Rt m a w'->(∀a' Rb,Rt (m+1) a' Rb->Rn C Goal (b.atR a' (.inRegion ops rest::k)) cs Rb)->Rn C Goal (b.atR a (.inRegion ops (m::rest)::k)) cs w')
 (Rw:∀a w',Rt ops.size a w'->Rn C Goal (b.atR a k) cs w') (RX:C.P.follows .mixedOrders=true) (RB:fI ops ((List.range n).map (dO ops)) ((Au ((List.range n).map (dO ops)) F).map (·.1)) N=true):Rn C Goal (b.atR a (.code (.region id ops true)::k)) cs W:=by
 have len:((List.range n).map (dO ops)).length=n:=by simp
 have come:∀{m},m<n->((List.range n).map (dO ops))[m]?=some (dO ops m):=λ{m} hm=>by simp[hm]
 have dst:∀{m},m<n->(ops[m]?).bind (·.dst)=some (dO ops m):=λ{m} hm=>by
  simp only[fI,Bool.and_eq_true,List.all_eq_true,List.mem_range]at RB;have:=RB.1.1.1.2 m (by simpa using hm);cases ho:ops[m]? with
  |none=>rw[ho]at this;simp at this
  |some o=>
   rw[ho,come hm]at this;simp only[Option.map_some,Option.getD_some,Bool.and_eq_true,beq_iff_eq]at this;simpa using this.1
 have W_:=λi hi=>EU h a W (λ_=>false) (λd v h _ _=>hF.slot d v h) i hi λ_ _ h=>by cases h
 have hn:T.length=n:=by
  obtain⟨_,_,h1,_⟩:=W_ T.length (Nat.le_refl _);rw[List.drop_length]at h1;exact h1.1
 have look:∀{a':Act} {ok:Nat->Bool},(∀p∈Au ((List.range n).map (dO ops)) F,a'.tmps[p.1]?=some p.2)->Hi ops n 0 F ok a':=λhp d v hd _ hl=>hp (d,v) (yE hd λhm=>by obtain⟨k,h1,h2⟩:=List.mem_map.1 hm;exact hl k (Nat.zero_le _) (List.mem_range.1 h1) h2);have dep:=RB;simp only[fI,Bool.and_eq_true]at dep;have mono:∀m v w w',tP T m v w->Bw w w'->tP T m v w':=λm v w w' hg hb=>by
  unfold tP at hg⊢;split at hg
  .exact hg
  .rename_i S hT;obtain⟨hm,e⟩:=List.getElem?_eq_some_iff.1 hT;obtain⟨_,_,h1,_⟩:=W_ m (Nat.le_of_lt hm);rw[List.drop_eq_getElem_cons hm,e]at h1;exact h1.1 v w w' hg hb
  .trivial
 have keep:∀{m:Nat} {a:Act} {w:World},(∃v,a.tmps[dO ops m]?=some v/\tP T m v w)->∃v,a.tmps[dO ops m]?=some v/\∀w',Bw w w'->tP T m v w':=λ⟨v,h1,h2⟩=>⟨v,h1,λw' hb=>mono _ v _ w' h2 hb⟩;refine tm (fx:=Au ((List.range n).map (dO ops)) F) (ds:=(List.range n).map (dO ops)) (N:=N) (df:=df) (G:=tP T) RX RB mono (λm o a w hm ho hb _ Uq QQ=>?_) Rt (λa w hg=>?_) (λm o a w rest hm=>QZ m o a w rest (len▸hm)) Rw hF.defers hF.size λp hp=>hF.slot _ _ (yG hp).2
 .rw[len]at hm;obtain⟨F',M,h1,h2,h3⟩:=EU h a w (kD ops n m) (look Uq) m o_ λj hj hk=>keep (QQ j _ (come o_) (by
   have:=List.all_eq_true.1 hk j (List.mem_range.2 o_);rw[dst o_]at this;simpa using this))
  have h2:Hn F' (kD ops n m) a:=λd v hd hk=>h2 d v hd hk λj hj SV e=>by
   have:=List.all_eq_true.1 hk j (List.mem_range.2 SV);rw[dst SV,e]at this;have:=cP (listed:=Array.replicate m true) (by simpa using this) ho λe he hb=>by simp[n_ dep.1.1.1.1.1 m o ho e he hb]
   simp only[Array.getElem?_replicate]at this;split at this
   .omega
   .cases this
  rw[List.drop_eq_getElem_cons o_]at h1;unfold tP;rw[List.getElem?_eq_getElem (show m<T.length by omega)];revert h1;cases T[m]with
  |inl u=>exact λh1=>h1.1 o a w ho ⟨h2,hb,h3⟩
  |inr S=>exact λh1=>h1.2.1 o a w ho ⟨h2,hb,h3⟩
 .obtain⟨F',M,h1,h2,h3⟩:=EU h a w (λ_=>true) (look hg.fixed) T.length (Nat.le_refl _) λj hj _=>keep (hg.come j _ (come o_) trivial);rw[List.drop_length]at h1;rw[len];exact hQ a w (h1.2 a w ⟨hg.defers,hg.size,λd v hd=>h2 d v hd rfl λk hk V9=>absurd V9 o_⟩ hg.old (h3 w (Below.refl _ _)))
def Gx(C:iJ)(ops:Array Oper)(W:World)(N n:Nat)(df:List Deferred)(Q:Act->WP)(m:Nat)(F:List (Nat×Value))(M:List (Nat×WP)):Prop:=∃T,Gw C ops W N n df Q T m F M
theorem bY{id:Nat}(hF:ay F N df a)(h:Gx C ops W N ops.size df (λa w=>Rn C Goal (b.atR a k) cs w) 0 F [])(RX:C.P.follows .mixedOrders=true:=by kernel_rfl)(RB:fI ops ((List.range ops.size).map (dO ops)) ((Au ((List.range ops.size).map (dO ops)) F).map (·.1)) N=true:=by kernel_rfl):Rn C Goal (b.atR a (.code (.region id ops true)::k)) cs W:=
 let ⟨_,h⟩:=h
 FX hF h (λ_ a w=>Rn C Goal (b.atR a k) cs w) (λ_ _ h=>h) (λm o a w rest hm ho=>absurd (Array.getElem?_eq_some_iff.1 ho).1 o_) (λ_ _ h=>h) RX RB
def Tl(C:iJ)(Goal:Goroutine->WP)(b:Frame)(ops:Array Oper)(k:List Item)(cs:List Frame)(n:Nat)(R:Act->WP)(a:Act)(w:World):Prop:=∀rest,(∀a' w',R a' w'->Rn C Goal (b.atR a' (.inRegion ops rest::k)) cs w')->Rn C Goal (b.atR a (.inRegion ops (n::rest)::k)) cs w
theorem gI{id:Nat}(n:Nat)(hF:ay F N df a)(h:Gx C ops W N n df (Tl C Goal b ops k cs n λa w=>Rn C Goal (b.atR a k) cs w) 0 F [])(hz:ops.size=n+1:=by rfl)(RX:C.P.follows .mixedOrders=true:=by kernel_rfl)(RB:fI ops ((List.range n).map (dO ops)) ((Au ((List.range n).map (dO ops)) F).map (·.1)) N=true:=by kernel_rfl):Rn C Goal (b.atR a (.code (.region id ops true)::k)) cs W:=by
 obtain⟨_,h⟩:=h;refine FX hF h (λm a w=>if m=n then Tl C Goal b ops k cs n (λa w=>Rn C Goal (b.atR a k) cs w) a w else Rn C Goal (b.atR a k) cs w) (λa w h=>by rwa [if_pos rfl]) (λm o a w rest hm ho h hgo=>?_) (λa w h=>by rwa [if_neg o_]at h) RX RB;have:=(Array.getElem?_eq_some_iff.1 ho).1;obtain rfl:m=n:=by omega
 rw[if_pos rfl]at h;exact h rest λa w h=>hgo a w (by rwa [if_neg o_])
theorem FY{id:Nat}(n:Nat)(hF:ay F N df a)(h:Gx C ops W N n df (Tl C Goal b ops k cs n (Tl C Goal b ops k cs (n+1) λa w=>Rn C Goal (b.atR a k) cs w)) 0 F [])(hz:ops.size=n+2:=by rfl)(RX:C.P.follows .mixedOrders=true:=by kernel_rfl)(RB:fI ops ((List.range n).map (dO ops)) ((Au ((List.range n).map (dO ops)) F).map (·.1)) N=true:=by kernel_rfl):Rn C Goal (b.atR a (.code (.region id ops true)::k)) cs W:=by
 obtain⟨_,h⟩:=h;refine FX hF h (λm a w=>if m=n then Tl C Goal b ops k cs n (Tl C Goal b ops k cs (n+1) λa w=>Rn C Goal (b.atR a k) cs w) a w else if m=n+1 then Tl C Goal b ops k cs (n+1) (λa w=>Rn C Goal (b.atR a k) cs w) a w else Rn C Goal (b.atR a k) cs w) (λa w h=>by rwa [if_pos rfl]) (λm o a w rest hm ho h hgo=>?_) (λa w h=>by rwa [if_neg o_,if_neg o_]at h) RX RB;have:=(Array.getElem?_eq_some_iff.1 ho).1;rcases(by omega:m=n\/m=n+1)with rfl|rfl
 .rw[if_pos rfl]at h;exact h rest λa w h=>hgo a w (by rwa [if_neg o_,if_pos rfl])
 .rw[if_neg o_,if_pos rfl]at h;exact h rest λa w h=>hgo a w (by rwa [if_neg o_,if_neg o_])
end
section
variable{C:iJ}{W:World}{Q:Act->WP}{T:List Ka}{M:List (Nat×WP)}{S:Value->WP}{xs:Array Operand}{ats:Array TypeId}
theorem vf{G:List (Nat×Value)}(h:∀d v,F.lookup d=some v->G.lookup d=some v){x:Nat}{u:Value}(d:Nat)(v:Value)(hd:((x,u)::F).lookup d=some v):((x,u)::G).lookup d=some v:=by
 rw[List.lookup]at hd⊢;split at hd
 .exact hd
 .exact h d v hd
def Is(ops:Array Oper)(m:Nat)(d:Tmp)(p:Op)(gd:Option (Nat×Bool)):Prop:=(ops[m]?).map (λo=>(o.dst,o.op,o.guard))=some (some d,p,gd)
theorem Is.sg(h:Is ops m d p gd)(y:∀o a w,o.op=p->o.guard=gd->At ops W n m F M a w->xc C ops a o w λu w'=>S u w'/\Bw w w'):dO ops m=d/\Sp C ops W n m F M S:=by
 obtain⟨o,ho,e1,e2,e3⟩:=kC h;exact⟨by simp[dO,ho,e1],λo' a w WJ hA=>by obtain rfl:=Option.some.inj (ho.symm.trans WJ);exact y o a w e2 e3 hA⟩
theorem Is.sp(h:Is ops m d p gd)(hw:gV ops F gd=some true)(hk:rU ops (kD ops n m) gd=true)(y:∀o a w,o.op=p->At ops W n m F M a w->JJ C a o w λu w'=>S u w'/\Bw w w'):dO ops m=d/\Sp C ops W n m F M S:=
 h.sg λo a w h1 h2 z=>.inl ⟨LS z.f h2 hw hk,y o a w h1 z⟩
theorem Is.inl(h:Is ops m d p gd)(hw:gV ops F gd=some true)(hk:rU ops (kD ops n m) gd=true)(y:∀o a w,o.op=p->At ops W n m F M a w->JJ C a o w λu w'=>u=v/\Bw w w')(t:Gw C ops W N n df Q T (m+1) ((d,v)::F) M):Gw C ops W N n df Q (.inl v::T) m F M:=
 let ⟨e,h⟩:=h.sp (S:=λu _=>u=v) hw hk y
 ⟨h,e▸t⟩
theorem Gx.s(next:Gx C ops W N n df Q (m+1) ((d,undef)::F) M)(h:Is ops m d p gd:=by rfl)(hw:gV ops F gd=some false:=by rfl)(hk:rU ops (kD ops n m) gd=true:=by kernel_rfl):Gx C ops W N n df Q m F M:=
 let ⟨_,t⟩:=next
 let ⟨e,h⟩:=h.sg (C:=C) (W:=W) (S:=λu _=>u=undef) λ_ _ _ _ h2 z=>.inr ⟨LS z.f h2 hw hk,rfl,Below.refl _ _⟩
 ⟨.inl undef::_,h,e▸t⟩
theorem Gw.q(next:Gw C ops W N n df Q T (m+1) ((d,v)::F) M)(h:Is ops m d p gd:=by rfl)(hw:gV ops F gd=some true:=by rfl)(RQ:rU ops (kD ops n m) gd=true:=by kernel_rfl)(y:∀(o:Oper) (a:Act) (w:World),o.op=p->At ops W n m F M a w->(execOp a.eval o).run C.P w=.ok (.value v) w:=by intro o a w ho z;have hC:=z.b;exact PE)(ok:∀(a:Act) (w:World),At ops W n m F M a w->kE C.P a.eval p:=by intro a w z;exact nG):Gw C ops W N n df Q (.inl v::T) m F M:=
 h.inl hw RQ (λo a w ho hA=>.inl ⟨gA (ho▸ok a w hA),λw1 hp=>⟨v,w1,y o a w1 ho (hA.up hp.below),rfl,hp.below⟩⟩) next
theorem Gx.q(next:Gx C ops W N n df Q (m+1) ((d,v)::F) M)(h:Is ops m d p gd:=by rfl)(hw:gV ops F gd=some true:=by rfl)(RQ:rU ops (kD ops n m) gd=true:=by kernel_rfl)(y:∀(o:Oper) (a:Act) (w:World),o.op=p->At ops W n m F M a w->(execOp a.eval o).run C.P w=.ok (.value v) w:=by intro o a w ho z;have hC:=z.b;exact PE)(ok:∀(a:Act) (w:World),At ops W n m F M a w->kE C.P a.eval p:=by intro a w z;exact nG):Gx C ops W N n df Q m F M:=
 let ⟨_,t⟩:=next
 ⟨_,Gw.q t h hw RQ y ok⟩
theorem P1{ok:Nat->Bool}(hF:Hn F ok a):∀(xs:List Operand) (vs:List Value),wu F xs=some vs->xs.all (vL ok)=true->xs.map a.eval=vs
 |[],vs,h,_=>by cases h;rfl
 |x::r,vs,h,hk=>by
  simp only[List.all_cons,Bool.and_eq_true]at hk;unfold wu at h;split at h
  .rename_i v l h1 h2;cases h;rw[List.map_cons,P1 hF r l h2 hk.2];cases x with
   |tmp t=>rw[aQ (hF t v h1 hk.1)]
   |const u=>rw[show Act.eval a (.const u)=u from rfl,Option.some.inj h1]
   |_=>cases h1
  .cases h
theorem Kg(hf:C.P.funcs[f]?=some fn)(ha:wu F xs.toList=some vs)(hk:xs.toList.all (vL (kD ops n m))=true)(hn:(fn.name== "runtime.NumGoroutine")=false)(hb:fn.body.isNone=false)(hc:∀w,Bw W w→s8 (kD ops n m) w M→Cl C f vs.toArray w λe w'=>∃v,e=.returned v∧S v w'∧Bw w w')(o:Oper)(a:Act)(w:World)(e:o.op=.call {callee:=.value (.func f),args:=xs,argTypes:=ats})(hA:At ops W n m F M a w):JJ C a o w λu w'=>S u w'∧Bw w w':=
 .inr ⟨f,_,mz e (show xs.map a.eval=vs.toArray by rw[←P1 hA.f _ _ ha hk,←Array.toList_map,Array.toArray_toList]) hf hn hb rfl,hc w hA.b (hA.m w (Below.refl _ _))⟩
theorem Gw.k(hf:C.P.funcs[f]?=some fn)(hc:∀w,Bw W w->s8 (kD ops n m) w M->Cl C f vs.toArray w λe w'=>e=.returned v/\Bw w w')(next:Gw C ops W N n df Q T (m+1) ((d,v)::F) M)
 (h:Is ops m d (.call {callee:=.value (.func f),args:=xs,argTypes:=ats}) gd:=by rfl) (hw:gV ops F gd=some true:=by rfl) (RQ:rU ops (kD ops n m) gd=true:=by kernel_rfl) (ha:wu F xs.toList=some vs:=by rfl) (hk:xs.toList.all (vL (kD ops n m))=true:=by kernel_rfl) (hn:(fn.name== "runtime.NumGoroutine")=false:=by kernel_rfl) (hb:fn.body.isNone=false:=by kernel_rfl):Gw C ops W N n df Q (.inl v::T) m F M:=
 h.inl hw RQ (Kg (S:=λu _=>u=v) hf ha hk hn hb λw h1 h2=>(hc w h1 h2).mono λ_ _ h=>⟨v,h.1,rfl,h.2⟩) next
theorem Gx.k(hf:C.P.funcs[f]?=some fn)(hc:∀w,Bw W w->s8 (kD ops n m) w M->Cl C f vs.toArray w λe w'=>e=.returned v/\Bw w w')(next:Gx C ops W N n df Q (m+1) ((d,v)::F) M)
 (h:Is ops m d (.call {callee:=.value (.func f),args:=xs,argTypes:=ats}) gd:=by rfl) (hw:gV ops F gd=some true:=by rfl) (RQ:rU ops (kD ops n m) gd=true:=by kernel_rfl) (ha:wu F xs.toList=some vs:=by rfl) (hk:xs.toList.all (vL (kD ops n m))=true:=by kernel_rfl) (hn:(fn.name== "runtime.NumGoroutine")=false:=by kernel_rfl) (hb:fn.body.isNone=false:=by kernel_rfl):Gx C ops W N n df Q m F M:=
 let ⟨_,t⟩:=next
 ⟨_,Gw.k hf hc t h hw RQ ha hk hn hb⟩
theorem CW(st:NV S)(hf:C.P.funcs[f]?=some fn)(hc:∀w,Bw W w->s8 (kD ops n m) w M->Cl C f vs.toArray w λe w'=>∃v,e=.returned v/\S v w'/\Bw w w')(next:∀u,Gw C ops W N n df Q T (m+1) ((d,u)::F) ((d,S u)::M))
 (h:Is ops m d (.call {callee:=.value (.func f),args:=xs,argTypes:=ats}) gd:=by rfl) (hw:gV ops F gd=some true:=by rfl) (RQ:rU ops (kD ops n m) gd=true:=by kernel_rfl) (ha:wu F xs.toList=some vs:=by rfl) (hk:xs.toList.all (vL (kD ops n m))=true:=by kernel_rfl) (hn:(fn.name== "runtime.NumGoroutine")=false:=by kernel_rfl) (hb:fn.body.isNone=false:=by kernel_rfl):Gw C ops W N n df Q (.inr S::T) m F M:=
 let ⟨e,h⟩:=h.sp hw RQ (Kg hf ha hk hn hb hc)
 ⟨st,h,e▸next⟩
theorem uP(st:NV S)(next:∀u,Gw C ops W N n df Q T (m+1) ((d,u)::F) ((d,S u)::M))(h:Is ops m d p gd:=by rfl)(hw:gV ops F gd=some true:=by rfl)(RQ:rU ops (kD ops n m) gd=true:=by kernel_rfl)(y:∀(o:Oper) (a:Act) (w:World),o.op=p->At ops W n m F M a w->∃u w',(execOp a.eval o).run C.P w=.ok (.value u) w'/\S u w'/\Bw w w')(ok:∀(a:Act) (w:World),At ops W n m F M a w->kE C.P a.eval p:=by intro a w z;exact nG):Gw C ops W N n df Q (.inr S::T) m F M:=
 let ⟨e,h⟩:=h.sp (S:=S) hw RQ λo a w ho hA=>.inl ⟨gA (ho▸ok a w hA),λw1 hp=>let ⟨u,w',q1,q2,q3⟩:=y o a w1 ho (hA.up hp.below);⟨u,w',q1,q2,ab hp.below hp.below.size q3⟩⟩
 ⟨st,h,e▸next⟩
theorem xa{V:Nat->Value}{ob:Obj}(next:∀u,Gw C ops W N n df Q T (m+1) ((d,u)::F) ((d,Ms W V ob u)::M))(h:Is ops m d p gd:=by rfl)(hw:gV ops F gd=some true:=by rfl)(RQ:rU ops (kD ops n m) gd=true:=by kernel_rfl)(y:∀(o:Oper) (a:Act) (w:World),o.op=p->At ops W n m F M a w->(execOp a.eval o).run C.P w=.ok (.value (V w.heap.size)) (w.alloc ob))(ok:∀(a:Act) (w:World),At ops W n m F M a w->kE C.P a.eval p:=by intro a w z;exact nG):Gw C ops W N n df Q (.inr (Ms W V ob)::T) m F M:=
 uP Ms.st next h hw RQ (λo a w ho hA=>⟨_,_,y o a w ho hA,⟨_,rfl,hA.b.size,aK w _⟩,aD w _⟩) ok
theorem Gw.e(h:∀a w,ay F N df a->Bw W w->s8 (λ_=>true) w M->Q a w)(hm:m=n:=by rfl):Gw C ops W N n df Q [] m F M:=⟨hm,h⟩
theorem Gx.e(h:∀a w,ay F N df a->Bw W w->s8 (λ_=>true) w M->Q a w)(hm:m=n:=by rfl):Gx C ops W N n df Q m F M:=⟨[],hm,h⟩
theorem Gw.sub:∀{T:List Ka} {m:Nat} {F G:List (Nat×Value)} {M:List (Nat×WP)},(∀d v,F.lookup d=some v->G.lookup d=some v)->Gw C ops W N n df Q T m F M->Gw C ops W N n df Q T m G M
 |[],_,_,_,_,h,g=>⟨g.1,λa w hF=>g.2 a w (hF.sub h)⟩
 | .inl _::_,_,_,_,_,h,g=>⟨λo a w ho z=>g.1 o a w ho ⟨λd v hd=>z.f d v (h d v hd),z.b,z.m⟩,Gw.sub (vf h) g.2⟩
 | .inr _::_,_,_,_,_,h,g=>⟨g.1,λo a w ho z=>g.2.1 o a w ho ⟨λd v hd=>z.f d v (h d v hd),z.b,z.m⟩,λu=>Gw.sub (vf h) (g.2.2 u)⟩
theorem Gx.only{G:List (Nat×Value)}(h:wS F G)(g:Gx C ops W N n df Q m F M):Gx C ops W N n df Q m G M:=
 let ⟨_,t⟩:=g
 ⟨_,t.sub h.get⟩
theorem nF(T:List Ka){V:Nat->Value}{ob:Obj}(next:∀u,Gw C ops W N n df Q T (m+1) ((d,u)::F) ((d,Ms W V ob u)::M))(h:Is ops m d p gd:=by rfl)(hw:gV ops F gd=some true:=by rfl)(RQ:rU ops (kD ops n m) gd=true:=by kernel_rfl)(y:∀(o:Oper) (a:Act) (w:World),o.op=p->At ops W n m F M a w->(execOp a.eval o).run C.P w=.ok (.value (V w.heap.size)) (w.alloc ob))(ok:∀(a:Act) (w:World),At ops W n m F M a w->kE C.P a.eval p:=by intro a w z;exact nG):Gx C ops W N n df Q m F M:=⟨_,xa next h hw RQ y ok⟩
theorem Gx.t(T:List Ka)(h:Gw C ops W N n df Q T m F M):Gx C ops W N n df Q m F M:=⟨T,h⟩
end

def uI(op:BinOp):Value->Value->Option Value
 | .int k a,.int k' b=>match op with
   | .shl=>if b<0 then none else some (.int k (k.wrap (a*2^min b.toNat k.bits)))
   | .shr=>if b<0 then none else some (.int k (a/2^min b.toNat k.bits))
   |_=>if k≠k' then none else match op with
    | .add=>some (.int k (k.wrap (a+b)))
    | .sub=>some (.int k (k.wrap (a- b)))
    | .mul=>some (.int k (k.wrap (a*b)))
    | .and=>some (.int k (bits .and k a b))
    | .or=>some (.int k (bits .or k a b))
    | .xor=>some (.int k (bits .xor k a b))
    | .andNot=>some (.int k (bits .andNot k a b))
    | .eql=>some (.bool (decide (a=b)))
    | .neq=>some (.bool (decide (a≠b)))
    | .lss=>some (.bool (decide (a<b)))
    | .leq=>some (.bool (decide (a<=b)))
    | .gtr=>some (.bool (decide (a>b)))
    | .geq=>some (.bool (decide (a≥b)))
    |_=>none
 |_,_=>none
section
variable{o:Oper}{y:Operand}{u:Value}
theorem cV{op:BinOp}{t s:TypeId}{vx:Value}(QH:o.op=.binOp op t x y s)(hx:ev x=vx)(hy:ev y=u)(h:uI op vx u=some v):(execOp ev o).run P w=.ok (.value v) w:=by
 cases vx<;>cases u<;>first|cases h|skip
 rename_i k a k' b;have hb:(binOp op t (.int k a) (.int k' b)).run P w=.ok v w:=by
  unfold uI at h;cases op<;>simp only at h<;>first|cases h|skip
  all_goals
   split at h
   .cases h
   .rename_i hn;cases h<;>first
    |(have e:k=k':=Classical.not_not.1 hn
      subst e;show(if k≠k then(stuck "BinOp: operands of different kinds" :Sem Value)else _).run P w=_;rw[if_neg s_]
      first|rfl|(by_cases q:a=b<;>simp[Op.intCmp,q];done))
    |(have hp:(0:Int)<=2^min b.toNat k.bits:=Int.pow_nonneg d_
      show(if b<0 then _ else _:Sem Value).run P w=_;rw[if_neg hn]
      first|rfl|(simp[Int.fdiv_eq_ediv_of_nonneg _ hp];done))
 have hg:(eqGuard op t x y (.int k a) (.int k' b)).run P w=.ok () w:=by cases op<;>rfl
 simp only[execOp,QH,hx,hy];show(((do eqGuard op t x y (.int k a) (.int k' b);binOp op t (.int k a) (.int k' b)):Sem Value)>>=λr=>pure (Next.value r)).run P w=_;rw[Sem.run_bind,Sem.run_bind,hg];simp only[Result.andThen_ok,hb];rfl
theorem zL{t s:TypeId}{k k':IntKind}{a b:Int}(QH:o.op=.binOp .shl t x y s)(hx:ev x=.int k a)(hy:ev y=.int k' b)(h:0<=b):(execOp ev o).run P w=.ok (.value (.int k (k.wrap (a*2^min b.toNat k.bits)))) w:=cV QH hx hy (if_neg (Int.not_lt.2 h))
theorem GO{t s:TypeId}{k k':IntKind}{a b:Int}(QH:o.op=.binOp .shr t x y s)(hx:ev x=.int k a)(hy:ev y=.int k' b)(h:0<=b):(execOp ev o).run P w=.ok (.value (.int k (a/2^min b.toNat k.bits))) w:=cV QH hx hy (if_neg (Int.not_lt.2 h))
theorem zN{t:TypeId}{k:IntKind}{a:Int}(QH:o.op=.unOp .neg t x)(hx:ev x=.int k a):(execOp ev o).run P w=.ok (.value (.int k (k.wrap (0- a)))) w:=by
 simp only[execOp,QH,hx];rfl
theorem GP{t:TypeId}{q:Bool}(QH:o.op=.unOp .not t x)(hx:ev x=.bool q):(execOp ev o).run P w=.ok (.value (.bool !q)) w:=by
 simp only[execOp,QH,hx];rfl
theorem Dw{t:TypeId}{k:IntKind}{a:Int}(QH:o.op=.unOp .xor t x)(hx:ev x=.int k a):(execOp ev o).run P w=.ok (.value (.int k (bits .xor k (if k.signed then-1 else k.max) a))) w:=by
 simp only[execOp,QH,hx];rfl
theorem qD(k:IntKind){s d:TypeId}{k':IntKind}{a:Int}(QH:o.op=.convert s d x)(hx:ev x=.int k' a)(hd:P.underlying d=some (.int k))(hs:(P.underlying s).isSome=true):(execOp ev o).run P w=.ok (.value (.int k (k.wrap a))) w:=by
 obtain⟨r,hr⟩:=Option.isSome_iff_exists.1 hs;simp[execOp,QH,hx,convert,run_underlying hr,run_underlying hd,Conv.intToInt]
end

end Go.Proofs.YtkmoglhgkcnalaaGreatDoor
namespace Go.Proofs.YtkmoglhgkcnalaaGreatDoor
open Go.RowKit
theorem i6(z:Value)(n:Nat):madeCells #[z] n=(List.replicate n z).toArray:=by
 apply Array.ext
 .simp[madeCells]
 .intro i h1 h2;simp[madeCells,Nat.mod_one]
theorem bv{o:Nat}{L:List Value}(h:Below B w w')(hb:b<B)(hr:w.rangeAt b o L):w'.rangeAt b o L:=λj v hv=>by
 rw[h.cell (p:=⟨b,o+j,none⟩) hb];exact hr j v hv

theorem pq(op:BinOp)(x y:Int):0<=bits op .u64 x y:=by
 unfold bits;simp only[IntKind.wrap_u64];omega
def qJ(x k:Int):Int:=
 bits .or .u32 (IntKind.u32.wrap (x*2^min (bits .and .u64 (IntKind.u64.wrap k) 31).toNat 32)) (x/2^min (IntKind.u64.wrap (32- bits .and .u64 (IntKind.u64.wrap k) 31)).toNat 32)
def iZ(x a b c:Int):Int:=bits .xor .u32 (bits .xor .u32 (qJ x (-a)) (qJ x (-b))) (qJ x (-c))
def gf(x a b c:Int):Int:=bits .xor .u32 (bits .xor .u32 (qJ x (-a)) (qJ x (-b))) (x/2^c.toNat)
def cM(l:List UInt8):Int:=l.foldl (λn b=>256*n+(b.toNat:Int)) 0
theorem ly(l:List UInt8)(b:UInt8):cM (l++[b])=256*cM l+(b.toNat:Int):=by
 simp[cM,List.foldl_append]
theorem vN(n:Nat):∀l:List UInt8,l.length=n->0<=cM l/\cM l<256^n:=by
 induction n with
 |zero=>intro l h;rw[List.length_eq_zero_iff]at h;subst h;simp[cM]
 |succ n ih=>
  intro l h;obtain⟨r,b,rfl⟩:∃r b,l=r++[b]:=⟨l.dropLast,l.getLast (by intro h0;simp[h0]at h),(List.dropLast_concat_getLast _).symm⟩;have:=ih r (by simp at h;omega);rw[ly];have hb:=b.toNat_lt;rw[Int.pow_succ];omega
theorem i4(l:List UInt8)(n:Nat)(h:l.length<=n):0<=cM l/\cM l<256^n:=by
 have h1:=vN _ l rfl;refine⟨h1.1,Int.lt_of_lt_of_le h1.2 ?_⟩;have h2:=Nat.pow_le_pow_right (n:=256) d_ h;have e1:=Int.natCast_pow 256 l.length;have e2:=Int.natCast_pow 256 n;rw[show((256:Nat):Int)=256 from rfl]at e1 e2;rw[←e1,←e2];exact Int.ofNat_le.2 h2
theorem Ei(n:Int)(b:UInt8)(h0:0<=n)(h1:n<72057594037927936):bits .or .u64 (n*256) (IntKind.u64.wrap (b.toNat:Int))=256*n+(b.toNat:Int):=by
 have hb:=b.toNat_lt;obtain⟨m,rfl⟩:=Int.eq_ofNat_of_zero_le h0;rw[IntKind.wrap_u64,Int.emod_eq_of_lt o_ o_];have e:((m:Int)*256)=((m*256:Nat):Int):=by omega
 rw[e,u64_or_nat _ _ o_ o_,nat_join 8 (m*256) b.toNat o_ o_];omega
def bX(n:Nat):Nat->List UInt8
 |0=>[]
 |k+1=>bX (n/256) k++[UInt8.ofNat n]
theorem bB(k:Nat):∀n,(bX n k).length=k:=by
 induction k with
 |zero=>intro n;rfl
 |succ k ih=>intro n;simp[bX,ih]
theorem sP(j:Nat):∀n,bX n (j+1)=UInt8.ofNat (n/256^j)::bX n j:=by
 induction j with
 |zero=>intro n;simp[bX]
 |succ j ih=>
  intro n;rw[bX,ih (n/256),bX,Nat.div_div_eq_div_mul,←Nat.pow_succ',List.cons_append]
def aZ(l:List UInt8):List Value:=l.map λb=>Value.int .u8 (b.toNat:Int)
theorem bQ(l:List UInt8):(aZ l).length=l.length:=by simp[aZ]
def Dc(n k m:Nat):List Value:=List.replicate m (Value.int .u8 0)++aZ (bX n (k- m))
theorem xw(n k m:Nat)(h:m<=k):(Dc n k m).length=k:=by simp[Dc,bQ,bB];omega
theorem B0(n k:Nat):Dc n k k=List.replicate k (Value.int .u8 0):=by simp[Dc,bX,aZ]
theorem Gy(n k:Nat):Dc n k 0=aZ (bX n k):=by simp[Dc]
theorem Gv(n k p:Nat)(h:p<k)(v:Int)(hv:v=((n/256^(k-(p+1)))%256:Nat)):(Dc n k (p+1)).set p (Value.int .u8 v)=Dc n k p:=by
 subst hv;rw[Dc,Dc,show k- p=(k-(p+1))+1 from by omega,sP,List.replicate_succ',aZ,aZ,List.map_cons,List.append_assoc,List.set_append_right _ _ s_];simp
def aC(l:List Int):List Value:=l.map λx=>Value.int .u32 x
theorem aT(l:List Int):(aC l).length=l.length:=by simp[aC]
def qf(B:List UInt8)(i:Nat):Int:=IntKind.u32.wrap (cM ((B.drop (4*i)).take 4))
def mU(W:List Int)(i:Nat):Int:=
 IntKind.u32.wrap (IntKind.u32.wrap (IntKind.u32.wrap (W.getD (i- 16) 0+gf (W.getD (i- 15) 0) 7 18 3)+W.getD (i- 7) 0)+gf (W.getD (i- 2) 0) 17 19 10)
theorem El(W:List Int)(m:Nat):mU W (m+16)=IntKind.u32.wrap (IntKind.u32.wrap (IntKind.u32.wrap (W.getD m 0+gf (W.getD (m+1) 0) 7 18 3)+W.getD (m+9) 0)+gf (W.getD (m+14) 0) 17 19 10):=by
 rw[mU,show m+16- 16=m from by omega,show m+16- 15=m+1 from by omega,show m+16- 7=m+9 from by omega,show m+16- 2=m+14 from by omega]
def bF(B:List UInt8):Nat->List Int
 |0=>[]
 |k+1=>bF B k++[if k<16 then qf B k else mU (bF B k) k]
theorem bG(B:List UInt8)(k:Nat):(bF B k).length=k:=by
 induction k with
 |zero=>rfl
 |succ k ih=>simp[bF,ih]
def bM(B:List UInt8)(k:Nat):List Int:=bF B k++List.replicate (64- k) 0
theorem jc(B:List UInt8)(k:Nat)(h:k<=64):(bM B k).length=64:=by simp[bM,bG];omega
theorem qA(B:List UInt8)(k:Nat)(h:k<64)(v:Int)(hv:v=if k<16 then qf B k else mU (bF B k) k):(aC (bM B k)).set k (.int .u32 v)=aC (bM B (k+1)):=by
 subst hv;rw[bM,bM,show 64- k=(64-(k+1))+1 from by omega,List.replicate_succ,aC,aC,bF];rw[List.map_append,List.set_append_right _ _ (by simp[bG])];simp[bG]
theorem jJ(B:List UInt8)(k j:Nat)(h:j<k):(aC (bM B k))[j]?=some (.int .u32 ((bF B k).getD j 0)):=by
 rw[bM,aC,List.map_append,List.getElem?_append_left (by simp[bG];omega)];simp[bG,h]
theorem oF(B:List UInt8):bM B 64=bF B 64:=by simp[bM]
theorem iT(l:List Int):∀v∈aC l,v.oneCell'=true:=by
 intro v hv;simp only[aC,List.mem_map]at hv;obtain⟨x,_,rfl⟩:=hv;rfl
theorem rO(l:List UInt8):∀v∈aZ l,v.oneCell'=true:=by
 intro v hv;simp only[aZ,List.mem_map]at hv;obtain⟨x,_,rfl⟩:=hv;rfl

end Go.Proofs.YtkmoglhgkcnalaaGreatDoor
namespace Go.Proofs.YtkmoglhgkcnalaaGreatDoor
open Go Go.Conc Go.RowKit
structure CV (w w':World) (g:Nat) (c:Array Value) (t:TypeId):Prop where
 os:w'.os=w.os
 tape:w'.tape=w.tape
 output:w'.output=w.output
 size:w'.heap.size=w.heap.size
 here:w'.heap[g]?=some (.cells c t)
 there:∀m,m≠g->w'.heap[m]?=w.heap[m]?
theorem A2{g:Nat}{old c:Array Value}{t:TypeId}(h:w.heap[g]?=some (.cells old t)):CV w (w.setRow g c) g c t:=
 ⟨rfl,rfl,rfl,by simp[World.setRow],setRow_heap w g old c t _ h,λm hm=>setRow_other w g m c hm⟩
theorem CV.below{g:Nat}{c:Array Value}{t:TypeId}(h:CV w w' g c t)(hN:N<=g):Below N w w':=⟨h.os,h.tape,h.output,by rw[h.size];exact Nat.le_refl _,λk hk=>h.there k o_⟩
theorem CV.keep{g:Nat}{c:Array Value}{t:TypeId}{o:Obj}(h:CV w w' g c t)(hm:w.heap[m]?=some o)(QQ:m≠g):w'.heap[m]?=some o:=(h.there m QQ).trans hm
section
variable{o:Oper}{y z:Operand}{u:Value}{t e:TypeId}{g:Nat}{c:Array Value}
theorem DC{s:TypeId}(QH:o.op=.binOp .add t x y s)(hx:ev x=.int .i64 (m:Int))(hy:ev y=.int .i64 (n:Int))(h:m+n<9223372036854775808):(execOp ev o).run P w=.ok (.value (.int .i64 ((m+n:Nat):Int))) w:=cV QH hx hy (by
 have e:IntKind.i64.wrap ((m:Int)+n)=((m+n:Nat):Int):=by rw[IntKind.wrap_i64];omega
 simp[uI,e])
theorem qC{s:TypeId}(QH:o.op=.binOp .sub t x y s)(hx:ev x=.int .i64 (m:Int))(hy:ev y=.int .i64 (n:Int))(h:n<=m/\m<9223372036854775808):(execOp ev o).run P w=.ok (.value (.int .i64 ((m- n:Nat):Int))) w:=cV QH hx hy (by
 have e:IntKind.i64.wrap ((m:Int)- n)=((m- n:Nat):Int):=by rw[IntKind.wrap_i64];omega
 simp[uI,e])
theorem vm{s:TypeId}(QH:o.op=.binOp .mul t x y s)(hx:ev x=.int .i64 (m:Int))(hy:ev y=.int .i64 (n:Int))(h:m*n<9223372036854775808):(execOp ev o).run P w=.ok (.value (.int .i64 ((m*n:Nat):Int))) w:=cV QH hx hy (by
 have e:IntKind.i64.wrap ((m:Int)*n)=((m*n:Nat):Int):=by rw[IntKind.wrap_i64,←Int.natCast_mul];omega
 simp[uI,e])
theorem DD{s:TypeId}{a b:Int}(QH:o.op=.binOp .add t x y s)(hx:ev x=.int .i64 a)(hy:ev y=.int .i64 b)(h: -9223372036854775808<=a+b/\a+b<9223372036854775808):(execOp ev o).run P w=.ok (.value (.int .i64 (a+b))) w:=cV QH hx hy (by
 have e:IntKind.i64.wrap (a+b)=a+b:=by rw[IntKind.wrap_i64];omega
 simp[uI,e])
theorem Do{s:TypeId}{a b:Int}(QH:o.op=.binOp .sub t x y s)(hx:ev x=.int .i64 a)(hy:ev y=.int .i64 b)(h: -9223372036854775808<=a- b/\a- b<9223372036854775808):(execOp ev o).run P w=.ok (.value (.int .i64 (a- b))) w:=cV QH hx hy (by
 have e:IntKind.i64.wrap (a- b)=a- b:=by rw[IntKind.wrap_i64];omega
 simp[uI,e])
theorem Dz{s:TypeId}(QH:o.op=.binOp .add t x y s)(hx:ev x=.int .u64 (m:Int))(hy:ev y=.int .u64 (n:Int))(h:m+n<18446744073709551616):(execOp ev o).run P w=.ok (.value (.int .u64 ((m+n:Nat):Int))) w:=cV QH hx hy (by
 have e:IntKind.u64.wrap ((m:Int)+n)=((m+n:Nat):Int):=by rw[IntKind.wrap_u64];omega
 simp[uI,e])
theorem Ds{s:TypeId}(QH:o.op=.binOp .mul t x y s)(hx:ev x=.int .u64 (m:Int))(hy:ev y=.int .u64 (n:Int))(h:m*n<18446744073709551616):(execOp ev o).run P w=.ok (.value (.int .u64 ((m*n:Nat):Int))) w:=cV QH hx hy (by
 have e:IntKind.u64.wrap ((m:Int)*n)=((m*n:Nat):Int):=by rw[IntKind.wrap_u64,←Int.natCast_mul];omega
 simp[uI,e])
theorem zQ{op:BinOp}{s:TypeId}{k:IntKind}{a b:Int}(QH:o.op=.binOp op t x y s)(hx:ev x=.int k a)(hy:ev y=.int k b)(h:b≠0)(ho:op=.rem\/op=.quo):(execOp ev o).run P w=.ok (.value (.int k (if op=.rem then a.tmod b else k.wrap (a.tdiv b)))) w:=by
 have hb:(binOp op t (.int k a) (.int k b)).run P w=.ok (.int k (if op=.rem then a.tmod b else k.wrap (a.tdiv b))) w:=by
  rcases ho with rfl|rfl<;>
  .show(if k≠k then(stuck "BinOp: operands of different kinds" :Sem Value)else Op.intDiv _ k a b).run P w=_;rw[if_neg s_];unfold Op.intDiv;rw[if_neg h];rfl
 have hg:(eqGuard op t x y (.int k a) (.int k b)).run P w=.ok () w:=by rcases ho with rfl|rfl<;>rfl
 simp only[execOp,QH,hx,hy];show(((do eqGuard op t x y (.int k a) (.int k b);binOp op t (.int k a) (.int k b)):Sem Value)>>=λr=>pure (Next.value r)).run P w=_;rw[Sem.run_bind,Sem.run_bind,hg];simp only[Result.andThen_ok,hb];rfl
theorem Dp{s:TypeId}{k:IntKind}(QH:o.op=.binOp .rem t x y s)(hx:ev x=.int k (m:Int))(hy:ev y=.int k (n:Int))(h:0<n):(execOp ev o).run P w=.ok (.value (.int k ((m%n:Nat):Int))) w:=zQ QH hx hy o_ (.inl rfl)
theorem Dq{s:TypeId}(QH:o.op=.binOp .quo t x y s)(hx:ev x=.int .i64 (m:Int))(hy:ev y=.int .i64 (n:Int))(h:0<n)(h2:m<9223372036854775808):(execOp ev o).run P w=.ok (.value (.int .i64 ((m/n:Nat):Int))) w:=by
 rw[zQ QH hx hy o_ (.inr rfl),if_neg s_,show(m:Int).tdiv n=((m/n:Nat):Int)from rfl];have hq:=Nat.div_le_self m n;generalize m/n=q at hq;rw[show IntKind.i64.wrap (q:Int)=q from by rw[IntKind.wrap_i64];omega]
theorem GU{s d:TypeId}{k':IntKind}(QH:o.op=.convert s d x)(hx:ev x=.int k' (n:Int))(hd:P.underlying d=some (.int .i64))(hs:(P.underlying s).isSome=true)(h:n<9223372036854775808):(execOp ev o).run P w=.ok (.value (.int .i64 (n:Int))) w:=by
 rw[qD .i64 QH hx hd hs,show IntKind.i64.wrap (n:Int)=n from by rw[IntKind.wrap_i64];omega]
theorem GT{s d:TypeId}{k':IntKind}(QH:o.op=.convert s d x)(hx:ev x=.int k' (n:Int))(hd:P.underlying d=some (.int .u64))(hs:(P.underlying s).isSome=true)(h:n<18446744073709551616):(execOp ev o).run P w=.ok (.value (.int .u64 (n:Int))) w:=by
 rw[qD .u64 QH hx hd hs,show IntKind.u64.wrap (n:Int)=n from by rw[IntKind.wrap_u64];omega]
theorem Dr{a:Int}(QH:o.op=.unOp .neg t x)(hx:ev x=.int .i64 a)(h: -9223372036854775808<a/\a<=9223372036854775808):(execOp ev o).run P w=.ok (.value (.int .i64 (-a))) w:=by
 rw[zN QH hx,show IntKind.i64.wrap (0- a)= -a from by rw[IntKind.wrap_i64];omega]
theorem zM{a:Addr}(QH:o.op=.nilCheck x)(hx:ev x=.pointer (some a)):(execOp ev o).run P w=.ok (.value (.pointer (some a))) w:=by
 simp only[execOp,QH,hx];rfl
theorem kr{zz:Nat×Nat}(QH:o.op=.load t x)(hx:ev x=.pk g i)(hg:w.heap[g]?=some (.cells c e zz))(hv:c[i]?=some v)(ht:∀w:World,(isAgg t).run P w=.ok false w):(execOp ev o).run P w=.ok (.value v) w:=by
 have hc:w.cell? ⟨g,i,none⟩=some v:=by unfold World.cell?;simp[hg,hv]
 simp[execOp,QH,hx,Instr.loadAt,loadVar,ht w,hc,go_sem]
theorem gi{zz:Nat×Nat}{d:TypeDesc}(QH:o.op=.load t x)(hx:ev x=.pk g i)(hg:w.heap[g]?=some (.cells c e zz))(hu:P.underlying t=some d)(hd:d.isRow=true)(hi:(P.info? t).map (·.size)=some vs.length)(hv:∀j u,vs[j]?=some u->c[i+j]?=some u):(execOp ev o).run P w=.ok (.value (.agg vs.toArray)) w:=by
 have h:=run_loadVar_mid (P:=P) w g i t vs d (λj u hj=>by unfold World.cell?;simp[hg,hv j u hj]) hu hd hi;simp[execOp,QH,hx,Instr.loadAt,Instr.sureAddr,h]
theorem KA(QH:o.op=.store t x y)(hx:ev x=.pk g i)(hy:ev y=v)(hg:w.heap[g]?=some (.cells c e))(hi:i<c.size)(hs:(P.info? t).map (·.size)=some 1)(hc:v.cells=#[v])(h1:v.oneCell'=true):(execOp ev o).run P w=.ok .skip (w.setRow g (c.setIfInBounds i v)):=by
 have h:=run_storeCells_at P g i e [v] 0 c w hg (by simp;omega) (by simpa using h1);have e1:(c.toList.take (i+0)++[v]++c.toList.drop (i+0+1)).toArray=c.setIfInBounds i v:=by
  apply Array.ext';rw[Array.toList_setIfInBounds,List.set_eq_take_append_cons_drop];simp[hi]
 rw[show[v].length=1 from rfl,e1]at h;cases hq:P.info? t with
 |none=>simp[hq]at hs
 |some d=>
  have hd:d.size=1:=by simpa[hq]using hs
  simp[execOp,QH,hx,hy,Instr.storeAt,Instr.sureAddr,storeVar,sizeOf,typeInfo,hq,hc,hd,h]
theorem GJ{vs:Array Value}(QH:o.op=.store t x y)(hx:ev x=.pk g i)(hy:ev y=.agg vs)(hg:w.heap[g]?=some (.cells c e))(hi:i+vs.size<=c.size)(hs:(P.info? t).map (·.size)=some vs.size)(h1:∀v∈vs.toList,v.oneCell'=true):(execOp ev o).run P w=.ok .skip (w.setRow g (c.toList.take i++vs.toList++c.toList.drop (i+vs.size)).toArray):=by
 have h:=run_storeCells_at P g i e vs.toList 0 c w hg (by simpa using hi) h1;cases hq:P.info? t with
 |none=>simp[hq]at hs
 |some d=>
  have hd:vs.size=d.size:=by simp[hq]at hs;omega
  simp only[Nat.add_zero,Array.length_toList,List.append_assoc,hd]at h⊢;simp[execOp,QH,hx,hy,Instr.storeAt,Instr.sureAddr,storeVar,sizeOf,typeInfo,hq,Value.cells,hd,h]
def P0(P:Program)(t:TypeId)(i:Nat):Option Nat:=match P.underlying t with
 |some (.struct fs)=>(fs[i]?).bind λf=>match (P.info? f.type).map (·.size)with
  |some (_+1)=>match f.offset with
   |0=>some 0
   |k+1=>some (k+1)
  |_=>none
 |_=>none
theorem Dx{k:Nat}(QH:o.op=.fieldAddr t x n)(hx:ev x=.pk g i)(hk:P0 P t n=some k):(execOp ev o).run P w=.ok (.value (.pk g (i+k))) w:=by
 unfold P0 at hk;split at hk
 .rename_i fs hu;cases hf:fs[n]? with
  |none=>rw[hf]at hk;cases hk
  |some f=>
   rw[hf]at hk;simp only[Option.bind_some]at hk;split at hk
   .rename_i q hs
    replace hk:k=f.offset:=by split at hk<;>cases hk<;>simp[*]
    subst hk;cases hq:P.info? f.type with
    |none=>rw[hq]at hs;cases hs
    |some d=>
     have hd:d.size=q+1:=(by simpa[hq]using hs);simp[execOp,QH,hx,Instr.fieldAt,Instr.sureAddr,run_underlying hu,hf,fieldPlace,sizeOf,typeInfo,hq,hd,fO]
   .cases hk
 .cases hk
theorem kV{k:IntKind}{l:Nat}(QH:o.op=.indexAddr t x y)(hx:ev x=.slice (some ⟨g,i,none⟩) l cp)(hy:ev y=.int k (n:Int))(hu:P.underlying t=some (.slice e))(hs:(P.info? e).map (·.size)=some 1)(h:n<l):(execOp ev o).run P w=.ok (.value (.pk g (i+n))) w:=by
 cases hq:P.info? e with
 |none=>simp[hq]at hs
 |some d=>
  have hd:d.size=1:=by simpa[hq]using hs
  simp[execOp,QH,hx,hy,Instr.indexAt,Instr.sureAddr,asIntOf,run_underlying hu,sizeOf,typeInfo,hq,hd,h,fO]
theorem GR{k:IntKind}{l:Nat}(QH:o.op=.indexAddr t x y)(hx:ev x=.pk g i)(hy:ev y=.int k (n:Int))(hu:P.underlying t=some (.array l e))(hs:(P.info? e).map (·.size)=some 1)(h:n<l):(execOp ev o).run P w=.ok (.value (.pk g (i+n))) w:=by
 cases hq:P.info? e with
 |none=>simp[hq]at hs
 |some d=>
  have hd:d.size=1:=by simpa[hq]using hs
  simp[execOp,QH,hx,hy,Instr.indexAt,Instr.sureAddr,asIntOf,run_underlying hu,sizeOf,typeInfo,hq,hd,h,fO]
theorem Du{s:ByteArray}(QH:o.op=.call {callee:=.builtin .len,args:=#[x],argTypes:=#[t]})(hx:ev x=.string s)(hu:P.underlying t=some .string):(execOp ev o).run P w=.ok (.value (.int .i64 (s.size:Int))) w:=by
 simp[execOp,QH,resolve,hx,invoke,builtin,Builtin.len_,run_underlying hu,goInt]
theorem Dv{l:Nat}{ad:Option Addr}(QH:o.op=.call {callee:=.builtin .len,args:=#[x],argTypes:=#[t]})(hx:ev x=.slice ad l cp)(hu:P.underlying t=some (.slice e)):(execOp ev o).run P w=.ok (.value (.int .i64 (l:Int))) w:=by
 simp[execOp,QH,resolve,hx,invoke,builtin,Builtin.len_,run_underlying hu,goInt]
theorem jL{s:ByteArray}(QH:o.op=.slice t x (some y) (some z) none)(hx:ev x=.string s)(hy:ev y=.int .i64 (m:Int))(hz:ev z=.int .i64 (n:Int))(hu:P.underlying t=some .string)(h:m<=n)(h':n<=s.size):(execOp ev o).run P w=.ok (.value (.string (s.extract m n))) w:=by
 simp[execOp,QH,hx,hy,hz,Instr.sliceAt,Instr.slice,Instr.sliceBounds,run_underlying hu,Instr.sliceBound,asIntOf,h,h']
theorem GM{s:ByteArray}(QH:o.op=.slice t x (some y) none none)(hx:ev x=.string s)(hy:ev y=.int .i64 (m:Int))(hu:P.underlying t=some .string)(h:m<=s.size):(execOp ev o).run P w=.ok (.value (.string (s.extract m s.size))) w:=by
 simp[execOp,QH,hx,hy,Instr.sliceAt,Instr.slice,Instr.sliceBounds,run_underlying hu,Instr.sliceBound,asIntOf,h]
theorem GN{l:Nat}(QH:o.op=.slice t x (some y) (some z) none)(hx:ev x=.pk g i)(hy:ev y=.int .i64 (m:Int))(hz:ev z=.int .i64 (n:Int))(hu:P.underlying t=some (.array l e))(hs:(P.info? e).map (·.size)=some 1)(h:m<=n)(h':n<=l)(h2:m<l):(execOp ev o).run P w=.ok (.value (.slice (some ⟨g,i+m,none⟩) (n- m) (l- m))) w:=by
 cases hq:P.info? e with
 |none=>simp[hq]at hs
 |some d=>
  have hd:d.size=1:=by simpa[hq]using hs
  have h3:¬l=m:=by omega
  simp[execOp,QH,hx,hy,hz,Instr.sliceAt,Instr.sureAddr,Instr.sliceBounds,run_underlying hu,Instr.sliceBound,asIntOf,sizeOf,typeInfo,hq,hd,h,h',h3,fO]
theorem GL{l:Nat}(QH:o.op=.slice t x (some y) none none)(hx:ev x=.pk g i)(hy:ev y=.int .i64 (m:Int))(hu:P.underlying t=some (.array l e))(hs:(P.info? e).map (·.size)=some 1)(h2:m<l):(execOp ev o).run P w=.ok (.value (.slice (some ⟨g,i+m,none⟩) (l- m) (l- m))) w:=by
 cases hq:P.info? e with
 |none=>simp[hq]at hs
 |some d=>
  have hd:d.size=1:=by simpa[hq]using hs
  have h3:¬l=m:=by omega
  have h4:m<=l:=by omega
  simp[execOp,QH,hx,hy,Instr.sliceAt,Instr.sureAddr,Instr.sliceBounds,run_underlying hu,Instr.sliceBound,asIntOf,sizeOf,typeInfo,hq,hd,h3,h4,fO]
theorem GQ{k:IntKind}{l:Nat}{vs:Array Value}(QH:o.op=.index t x y)(hx:ev x=.agg vs)(hy:ev y=.int k (n:Int))(hu:P.underlying t=some (.array l e))(hs:(P.info? e).map (·.size)=some 1)(ha:∀w:World,(isAgg e).run P w=.ok false w)(h:n<l)(hv:vs[n]?=some v):(execOp ev o).run P w=.ok (.value v) w:=by
 cases hq:P.info? e with
 |none=>simp[hq]at hs
 |some d=>
  have hd:d.size=1:=by simpa[hq]using hs
  simp[execOp,QH,hx,hy,Instr.index,asIntOf,run_underlying hu,part,sizeOf,typeInfo,hq,hd,h,ha w,hv]
theorem eA{parts:Array (Nat×Operand)}{vs:Array (Nat×Value)}(v:Value)(QH:o.op=.build t parts)(hm:parts.map (λq=>(q.1,ev q.2))=vs)(hr:∀w:World,(Instr.build t vs).run P w=.ok v w):(execOp ev o).run P w=.ok (.value v) w:=by
 simp only[execOp,QH];rw[show(parts.map λx=>match x with|(i,x)=>(i,ev x))=vs from hm,Sem.run_bind,hr];rfl
theorem qE{k:IntKind}{s:ByteArray}(QH:o.op=.index t x y)(hx:ev x=.string s)(hy:ev y=.int k (n:Int))(hu:P.underlying t=some .string)(h:n<s.size):(execOp ev o).run P w=.ok (.value (.int .u8 (s[n].toNat:Int))) w:=by
 simp[execOp,QH,hx,hy,Instr.index,asIntOf,run_underlying hu,h]
theorem Dy{s:TypeId}{p q:ByteArray}(QH:o.op=.binOp .add t x y s)(hx:ev x=.string p)(hy:ev y=.string q)(h:p.size+q.size<=9223372036854775807):(execOp ev o).run P w=.ok (.value (.string (p++q))) w:=by
 simp[execOp,QH,hx,hy,h,go_sem]
theorem Dt{z:Value}{bytes:Nat}(QH:o.op=.makeSlice t x y)(hx:ev x=.int .i64 (n:Int))(hy:ev y=.int .i64 (n:Int))(hu:P.underlying t=some (.slice e))(hi:(P.info? e).map (λi=>(i.zero,i.size,i.bytes))=some (some z,1,bytes))(hz:z.cells=#[z])(hb:bytes*n<=281474976710656)(Wr:n<=9223372036854775807):
 (execOp ev o).run P w=.ok (.value (.sk w.heap.size n n)) (w.alloc (.cells (List.replicate n z).toArray e)):=by
 have h:=run_make_row' (P:=P) t e z bytes hu hi hz .i64 .i64 n hb Wr w;rw[i6]at h;simp[execOp,QH,hx,hy,h]
theorem KC{z:Value}(QH:o.op=.alloc t)(hi:(P.info? t).map (·.zero)=some (some z)):(execOp ev o).run P w=.ok (.value (.pk w.heap.size 0)) (w.alloc (.cells z.cells t)):=by
 cases hq:P.info? t with
 |none=>simp[hq]at hi
 |some i=>
  have hz:i.zero=some z:=by simpa[hq]using hi
  simp[execOp,QH,Instr.alloc,newVar,newRow,zeroValue,typeInfo,hq,hz,go_sem]
theorem jn{l:List UInt8}{len:Nat}(QH:o.op=.convert t n x)(hx:ev x=.slice (some ⟨g,i,none⟩) len cp)(hl:l.length=len)(hu:P.underlying t=some (.slice e))(he:P.underlying e=some (.int .u8))(hd:P.underlying n=some .string)(hg:w.heap[g]?=some (.cells c m))(hc:∀j (hj:j<l.length),c[i+j]?=some (.int .u8 (l[j].toNat:Int))):(execOp ev o).run P w=.ok (.value (.string ⟨l.toArray⟩)) w:=by
 subst hl;have h:=run_convert_bytes_back (P:=P) w t n e ⟨g,i,none⟩ cp l hu he hd λj hj=>by
  rw[fO];unfold World.cell?;simp[hg,hc j hj]
 simp[execOp,QH,hx,h]
end
theorem nL{o:Oper}{y:Operand}{t e t2 u:TypeId}{g len:Nat}{c:Array Value}{s:ByteArray}(QH:o.op=.call {callee:=.builtin .copy,args:=#[x,y],argTypes:=#[t,t2]})(hx:ev x=.slice (some ⟨g,i,none⟩) len cp)(hy:ev y=.string s)(hu:P.underlying t=some (.slice e))(hs:(P.info? e).isSome=true)(hg:w.heap[g]?=some (.cells c u))(hn:Nat.min s.size len=n)(hfit:i+n<=c.size):
 (execOp ev o).run P w=.ok (.value (.int .i64 (n:Int))) (w.setRow g (c.toList.take i++aZ (s.data.toList.take n)++c.toList.drop (i+n)).toArray):=by
 have hle:n<=s.size:=by rw[←hn];exact Nat.min_le_left _ _
 have hl:(aZ (s.data.toList.take n)).length=n:=by rw[bQ,List.length_take,Array.length_toList];exact Nat.min_eq_left hle
 have QZ:=run_storeCells_at P g i u (aZ (s.data.toList.take n)) 0 c w hg (by rw[hl];simpa using hfit) (rO _);rw[hl]at QZ;simp only[Nat.add_zero]at QZ;have hc:(s.data.toList.take n).map (λb:UInt8=>Value.int .u8 (b.toNat:Int))=aZ (s.data.toList.take n):=rfl;cases hq:P.info? e with
 |none=>simp[hq]at hs
 |some d=>
  rw[List.map_take]at hc;simp[execOp,QH,resolve,hx,hy,invoke,builtin,Builtin.copy_,run_underlying hu,Builtin.lenOf,hn,sizeOf,typeInfo,hq,Builtin.firstCells];rw[hc,QZ];simp[goInt,Result.andThen]
structure pW (b:Nat) (w w':World):Prop where
 os:w'.os=w.os
 tape:w'.tape=w.tape
 output:w'.output=w.output
 size:w.heap.size<=w'.heap.size
 block:∀k,k<w.heap.size->k≠b->w'.heap[k]?=w.heap[k]?
theorem CV.but{g:Nat}{c:Array Value}{t:TypeId}(h:CV w w' g c t):pW g w w':=⟨h.os,h.tape,h.output,by rw[h.size];exact Nat.le_refl _,λk _ hk=>h.there k hk⟩
theorem lG(h:Bw w w'):pW b w w':=⟨h.os,h.tape,h.output,h.size,λk hk _=>h.block k hk⟩
theorem pW.trans(h:pW b w w')(h':pW b w' Rb):pW b w Rb:=⟨h'.os.trans h.os,h'.tape.trans h.tape,h'.output.trans h.output,Nat.le_trans h.size h'.size,λk hk hb=>(h'.block k (Nat.lt_of_lt_of_le hk h.size) hb).trans (h.block k hk hb)⟩
theorem pW.below(h:pW b w w')(h1:N<=b)(h2:N<=w.heap.size):Below N w w':=⟨h.os,h.tape,h.output,h.size,λk hk=>h.block k o_ o_⟩
theorem pW.keep{o:Obj}(h:pW b w w')(hm:w.heap[m]?=some o)(QQ:m≠b):w'.heap[m]?=some o:=(h.block m (Array.getElem?_eq_some_iff.1 hm).1 QQ).trans hm
def PN(P:Program)(ev:Operand->Value)(o:Oper)(w:World)(g:Nat)(c:Array Value)(t:TypeId)(c':Array Value):Prop:=w.heap[g]?=some (.cells c t)/\(execOp ev o).run P w=.ok .skip (w.setRow g c')
section
variable{o:Oper}{y:Operand}{t e:TypeId}{g:Nat}{c:Array Value}
theorem oA(QH:o.op=.store t x y)(hx:ev x=.pk g i)(hy:ev y=v)(hg:w.heap[g]?=some (.cells c e))(hi:i<c.size)(hs:(P.info? t).map (·.size)=some 1)(hc:v.cells=#[v])(h1:v.oneCell'=true):PN P ev o w g c e (c.setIfInBounds i v):=⟨hg,KA QH hx hy hg hi hs hc h1⟩
theorem Kv{vs:Array Value}(QH:o.op=.store t x y)(hx:ev x=.pk g i)(hy:ev y=.agg vs)(hg:w.heap[g]?=some (.cells c e))(hi:i+vs.size<=c.size)(hs:(P.info? t).map (·.size)=some vs.size)(h1:∀v∈vs.toList,v.oneCell'=true):PN P ev o w g c e (c.toList.take i++vs.toList++c.toList.drop (i+vs.size)).toArray:=⟨hg,GJ QH hx hy hg hi hs h1⟩
theorem dZ{vs:Array Value}(QH:o.op=.store t x y)(hx:ev x=.pk g 0)(hy:ev y=.agg vs)(hg:w.heap[g]?=some (.cells c e))(hs:(P.info? t).map (·.size)=some vs.size)(hi:c.size=vs.size)(h1:∀v∈vs.toList,v.oneCell'=true):PN P ev o w g c e vs:=⟨hg,aJ QH hx hy hg hs hi (Array.all_eq_true_iff_forall_mem.2 λv hv=>h1 v (by simpa using hv))⟩
end
def NG(P:Program)(ev:Operand->Value)(o:Oper)(V:Nat->Value)(ob:Obj):Prop:=∀w:World,(execOp ev o).run P w=.ok (.value (V w.heap.size)) (w.alloc ob)
section
variable{o:Oper}{y:Operand}{z:Value}{t e:TypeId}
theorem Oz{bytes:Nat}(QH:o.op=.makeSlice t x y)(hx:ev x=.int .i64 (n:Int))(hy:ev y=.int .i64 (n:Int))(hu:P.underlying t=some (.slice e))(hi:(P.info? e).map (λi=>(i.zero,i.size,i.bytes))=some (some z,1,bytes))(hz:z.cells=#[z])(hb:Nat.ble bytes 16=true)(Wr:n<=17592186044416):
 NG P ev o (λb=>.sk b n n) (.cells (List.replicate n z).toArray e):=λ_=>Dt QH hx hy hu hi hz (Nat.le_trans (Nat.mul_le_mul (Nat.le_of_ble_eq_true hb) Wr) d_) o_
theorem OB(QH:o.op=.alloc t)(hi:(P.info? t).map (·.zero)=some (some z)):NG P ev o (λb=>.pk b 0) (.cells z.cells t):=λ_=>KC QH hi
theorem yf(QH:o.op=.box t x)(hx:ev x=v):NG P ev o (λb=>.pk b 0) (.cells v.cells t):=λ_=>by rw[tN QH,hx]
end
def PI(F:List (Nat×Value)):List (Nat×Operand)->Option (List (Nat×Value))
 |[]=>some []
 |q::r=>match Q4 F q.2,PI F r with
  |some v,some l=>some ((q.1,v)::l)
  |_,_=>none
theorem Fl(hF:ay F N ds a):∀(xs:List (Nat×Operand)) (vs:List (Nat×Value)),PI F xs=some vs->xs.map (λq=>(q.1,a.eval q.2))=vs
 |[],vs,h=>by cases h;rfl
 |x::r,vs,h=>by
  unfold PI at h;split at h
  .rename_i v l h1 h2;cases h;rw[List.map_cons,Fo hF h1,Fl hF r l h2]
  .cases h
theorem gB(hF:ay F N ds a){xs:Array (Nat×Operand)}{vs:List (Nat×Value)}(h:PI F xs.toList=some vs):xs.map (λq=>(q.1,a.eval q.2))=vs.toArray:=by
 rw[←Fl hF _ _ h,←Array.toList_map,Array.toArray_toList]
theorem ay.O{G:List (Nat×Value)}(h:ay F N ds a)(e:wS G F:=by repeat' first|exact rfl|exact trivial|constructor):ay G N ds a:=h.only e
theorem cq{p:Prop}(h:p:=by first|(simp;omega)|(simp;assumption)|(simp_all;done)):p:=h
section
variable{C:iJ}{b:Frame}{k:List Item}{g:Nat}{c c':Array Value}{t:TypeId}
theorem Rn.st(hF:ay F N ds a)(next:∀w' a',CV w w' g c' t->ay F N ds a'->Rn C Goal (b.atR a' (.inRegion ops rest::k')) cs w')(h0:eI 6 (b.atR a k)=.inRegion ops (m::rest)::k':=by rfl)
 (h:(ops[m]?).map (λo=>(o.dst,o.op,o.guard))=some (none,p,none):=by rfl) (hy:∀o:Oper,o.op=p->PN C.P a.eval o w g c t c':=by intro o ho;exact QA) (QT:nd p=true:=by rfl) (ok:kE C.P a.eval p:=by exact nG):Rn C Goal (b.atR a k) cs w:=by
 obtain⟨o,ho,e1,e2,e3⟩:=ka h;exact aM hF (λo ho=>(hy o ho).2) (λa' hF=>next _ a' (A2 (hy o e2).1) hF) h0 h QT ok (λ_=>by simp[World.setRow]) rfl
theorem FT(hF:ay F N ds a)(hg:w.heap[g]?=some (.cells c t))(next:∀w' a',CV w w' g c' t->ay ((d,v)::F) N ds a'->Rn C Goal (b.atR a' (.inRegion ops rest::k')) cs w')(h0:eI 6 (b.atR a k)=.inRegion ops (m::rest)::k':=by rfl)
 (h:(ops[m]?).map (λo=>(o.dst,o.op,o.guard))=some (some d,p,gd):=by rfl) (hy:∀o:Oper,o.op=p->(execOp a.eval o).run C.P w=.ok (.value v) (w.setRow g c')) (hw:gV ops F gd=some true:=by rfl) (hd:d<N:=by decide) (QT:nd p=true:=by rfl) (ok:kE C.P a.eval p:=by exact nG):Rn C Goal (b.atR a k) cs w:=
 af hF hy (λa' hF=>next _ a' (A2 hg) hF) h0 h hw hd QT ok (λ_=>by simp[World.setRow]) rfl
theorem Rn.am{V:Nat->Value}{ob:Obj}(hF:ay F N ds a)
 (next:∀n w' a',w.heap.size<=n->Bw w w'->w'.heap[n]?=some ob->n<w'.heap.size->ay ((d,V n)::F) N ds a'->Rn C Goal (b.atR a' (.inRegion ops rest::k')) cs w') (h0:eI 6 (b.atR a k)=.inRegion ops (m::rest)::k':=by rfl)
 (h:(ops[m]?).map (λo=>(o.dst,o.op,o.guard))=some (some d,p,gd):=by rfl) (hy:∀o:Oper,o.op=p->NG C.P a.eval o V ob:=by intro o ho;exact QB) (hw:gV ops F gd=some true:=by rfl) (hd:d<N:=by decide) (QT:nd p=true:=by rfl) (ok:kE C.P a.eval p:=by exact nG):Rn C Goal (b.atR a k) cs w:=
 Pj hF (λo w ho=>hy o ho w) next h0 h hw hd QT ok
theorem Cl.bel(h:Cl C f args w λe w'=>e=.returned v/\w'=w):Cl C f args w λe w'=>e=.returned v/\Bw w w':=h.mono λ_ _ ⟨h,e⟩=>⟨h,e▸Below.refl _ _⟩
theorem fY{xs:Array Operand}{ats:Array TypeId}(hF:ay F N ds a)(hf:C.P.funcs[f]?=some fn)(hC:Cl C f vs.toArray w λe w'=>e=.returned v/\w'=w)
 (next:∀a',ay ((d,v)::F) N ds a'->Rn C Goal (b.atR a' (.inRegion ops rest::k')) cs w) (h0:eI 6 (b.atR a k)=.inRegion ops (m::rest)::k':=by rfl)
 (h:(ops[m]?).map (λo=>(o.dst,o.op,o.guard))=some (some d,.call {callee:=.value (.func f),args:=xs,argTypes:=ats},gd):=by rfl) (ha:wu F xs.toList=some vs:=by rfl) (hd:d<N:=by decide) (QV:(fn.name== "runtime.NumGoroutine")=false:=by kernel_rfl) (hb:fn.body.isNone=false:=by kernel_rfl) (hw:gV ops F gd=some true:=by rfl):Rn C Goal (b.atR a k) cs w:=
 bf (R:=λu w'=>u=v/\w'=w) hF hf (hC.mono λe w' ⟨h1,h2⟩=>⟨v,h1,rfl,h2⟩) (λu w' ⟨e,ew⟩ a' hF=>by subst e ew;exact next a' hF) h0 h ha hd QV hb hw
theorem gJ{xs:Array Operand}{ats:Array TypeId}(hF:ay F N ds a)(hf:C.P.funcs[f]?=some fn)(hC:Cl C f vs.toArray w λe w'=>e=.returned v/\Bw w w')
 (next:∀w' a',Bw w w'->ay ((d,v)::F) N ds a'->Rn C Goal (b.atR a' (.inRegion ops rest::k')) cs w') (h0:eI 6 (b.atR a k)=.inRegion ops (m::rest)::k':=by rfl)
 (h:(ops[m]?).map (λo=>(o.dst,o.op,o.guard))=some (some d,.call {callee:=.value (.func f),args:=xs,argTypes:=ats},gd):=by rfl) (ha:wu F xs.toList=some vs:=by rfl) (hd:d<N:=by decide) (QV:(fn.name== "runtime.NumGoroutine")=false:=by kernel_rfl) (hb:fn.body.isNone=false:=by kernel_rfl) (hw:gV ops F gd=some true:=by rfl):Rn C Goal (b.atR a k) cs w:=
 bf (R:=λu w'=>u=v/\Bw w w') hF hf (hC.mono λe w' ⟨h1,h2⟩=>⟨v,h1,rfl,h2⟩) (λu w' ⟨e,ew⟩ a' hF=>by subst e;exact next w' a' ew hF) h0 h ha hd QV hb hw
theorem lE{c:Code}{L:List Value}{R:Ending->World->Prop}(hf:C.P.funcs[f]?=some fn)(hb:fn.body=some c)(h:∀cs a,ay (dT 0 L) N [] a->Rn C (λg w'=>∃(a:Act) (k:List Item),g=cQ {(base f).atR a k with mode:=.returning} cs/\a.defers=[]/\R (.returned (.tuple #[])) w') ((base f).atR a [.code c]) cs w)(hN:fn.ntmps=N:=by rfl)(hL:L.length<=N:=by exact Nat.le_of_ble_eq_true rfl)(Ru:fn.results=#[]:=by rfl):Cl C f L.toArray w R:=
 eQ hf λcs L' hG=>bm hf hb (h cs) hN hL L' λfr cs' w' ⟨a,k,e,h1,h2⟩=>hG _ _ _ ⟨a,k,.tuple #[],e,h1,by simp[results,Ru],h2⟩
theorem tr{R:World->Prop}(hF:ay F N [] a)(hR:R w)(h0:eI 6 ((base f).atR a k)=[]:=by rfl):
 Rn C (λg w'=>∃(a:Act) (k:List Item),g=cQ {(base f).atR a k with mode:=.returning} cs/\a.defers=[]/\R w') ((base f).atR a k) cs w:=
 cR 6 k (by rw[h0];exact Rn.ends rfl (.inl rfl) (Rn.now ⟨a,_,rfl,hF.defers,hR⟩))
theorem lD{c:Code}{L:List Value}{t u:Tmp}{R:Ending->World->Prop}(hf:C.P.funcs[f]?=some fn)(hb:fn.body=some c)(h:∀cs a,ay (dT 0 L) N [] a->Rn C (λg w'=>∃(a:Act) (k:List Item) (v x:Value),g=cQ {(base f).atR a k with mode:=.returning} cs/\a.defers=[]/\a.tmps[t]?=some v/\a.tmps[u]?=some x/\R (.returned (.tuple #[v,x])) w') ((base f).atR a [.code c]) cs w)(hN:fn.ntmps=N:=by rfl)(hL:L.length<=N:=by exact Nat.le_of_ble_eq_true rfl)(Ru:fn.results=#[.tmp t,.tmp u]:=by rfl):Cl C f L.toArray w R:=
 eQ hf λcs L' hG=>bm hf hb (h cs) hN hL L' λfr cs' w' ⟨a,k,v,x,e,h1,h2,h3,h4⟩=>hG _ _ _ ⟨a,k,.tuple #[v,x],e,h1,by simp[results,Ru,h2,h3],h4⟩
theorem AL{u:Tmp}{bk:Nat}{cells:Array Value}{R:Array Value->World->Prop}(hF:ay F N [] a)(hb:w.heap[bk]?=some (.cells cells tt))(hn:cells.size=n)(hR:R cells w)(hv:F.lookup u=some (.pk bk 0):=by rfl)(h0:eI 6 ((base f).atR a k)=.code .ret::k':=by rfl):
 Rn C (λg w'=>∃(a:Act) (k:List Item) (bk:Nat) (cells:Array Value) (tt:TypeId),g=cQ {(base f).atR a k with mode:=.returning} cs/\a.defers=[]/\a.tmps[u]?=some (.pk bk 0)/\w'.heap[bk]?=some (.cells cells tt)/\cells.size=n/\R cells w') ((base f).atR a k) cs w:=
 cR 6 k (by rw[h0];exact Rn.ends rfl (.inr ⟨_,rfl⟩) (Rn.now ⟨a,_,_,_,_,rfl,hF.defers,hF.slot u _ hv,hb,hn,hR⟩))
def Bv:Nat->Frame->List Item
 |0,fr=>fr.todo
 |n+1,fr=>match fr.todo with
  | .code (.cond _ _ _)::_=>fr.todo
  |_=>match eZ fr with
   |some t=>Bv n {fr with todo:=t}
   |none=>fr.todo
def DF:Nat->Frame->List Item
 |0,fr=>fr.todo
 |n+1,fr=>match fr.todo with
  | .code (.loop B)::k=>.code B:: .inLoop B::k
  | .inLoop B::k=>.code B:: .inLoop B::k
  |_=>match eZ fr with
   |some t=>DF n {fr with todo:=t}
   |none=>fr.todo
theorem jG:∀(n:Nat) (k:List Item),Rn C Goal (b.atR a (Bv n (b.atR a k))) cs w->Rn C Goal (b.atR a k) cs w
 |0,_,h=>h
 |n+1,k,h=>by
  unfold Bv at h;split at h
  .exact h
  .split at h
   .rename_i t ht;exact Rn.plain ht (jG n t h)
   .exact h
theorem rS:∀(n:Nat) (k:List Item),Rn C Goal (b.atR a (DF n (b.atR a k))) cs w->Rn C Goal (b.atR a k) cs w
 |0,_,h=>h
 |n+1,k,h=>by
  unfold DF at h;split at h
  .rename_i B k' e;rw[show k=.code (.loop B)::k' from e];exact Rn.plain rfl h
  .rename_i B k' e;rw[show k=.inLoop B::k' from e];exact Rn.plain rfl h
  .split at h
   .rename_i t ht;exact Rn.plain ht (rS n t h)
   .exact h
theorem aN{A B:Code}{r:Bool}(q:Bool)(hF:ay F N ds a)(next:Rn C Goal (b.atR a (.code (if q then A else B)::k')) cs w)(h0:Bv 8 (b.atR a k)=.code (.cond (.tmp d) A B)::k':=by rfl)(hx:F.lookup d=some (.bool r):=by rfl)(hq:r=q:=by exact cq):Rn C Goal (b.atR a k) cs w:=
 jG 8 k (by rw[h0];exact Rn.cond q (hq▸hF.get hx) next)
theorem oZ{id:Nat}(hF:ay F N ds a)(h:Gx C ops w N ops.size ds (λa w=>Rn C Goal (b.atR a k') cs w) 0 F [])(h0:Bv 8 (b.atR a k)=.code (.region id ops true)::k':=by rfl)(RX:C.P.follows .mixedOrders=true:=by kernel_rfl)(RB:fI ops ((List.range ops.size).map (dO ops)) ((Au ((List.range ops.size).map (dO ops)) F).map (·.1)) N=true:=by kernel_rfl):Rn C Goal (b.atR a k) cs w:=
 jG 8 k (by rw[h0];exact bY hF h RX RB)
theorem AK{id:Nat}(n:Nat)(hF:ay F N ds a)(h:Gx C ops w N n ds (Tl C Goal b ops k' cs n λa w=>Rn C Goal (b.atR a k') cs w) 0 F [])(h0:Bv 8 (b.atR a k)=.code (.region id ops true)::k':=by rfl)(hz:ops.size=n+1:=by rfl)(RX:C.P.follows .mixedOrders=true:=by kernel_rfl)(RB:fI ops ((List.range n).map (dO ops)) ((Au ((List.range n).map (dO ops)) F).map (·.1)) N=true:=by kernel_rfl):Rn C Goal (b.atR a k) cs w:=
 jG 8 k (by rw[h0];exact gI n hF h hz RX RB)
theorem gD{σ:Type}(I:σ->Act->World->Prop)(ms:σ->Nat)(s:σ)(hI:I s a w)(step:∀s a w,I s a w->(∀s' a' w',I s' a' w'->ms s'<ms s->Rn C Goal (b.atR a' K) cs w')->Rn C Goal (b.atR a K) cs w)(hK:DF 12 (b.atR a k)=K:=by rfl):Rn C Goal (b.atR a k) cs w:=by
 have H:∀n s a w,ms s<n->I s a w->Rn C Goal (b.atR a K) cs w:=by
  intro n;induction n with
  |zero=>intro s a w h;omega
  |succ n ih=>intro s a w h hI;exact step s a w hI λs' a' w' hI' hs=>ih s' a' w' o_ hI'
 exact rS 12 k (by rw[hK];exact H _ s a w (Nat.lt_succ_self _) hI)
theorem fZ(ih:Rn C Goal (b.atR a K) cs w)(hK:DF 12 (b.atR a k)=K:=by rfl):Rn C Goal (b.atR a k) cs w:=rS 12 k (by rw[hK];exact ih)
end

theorem ar{o:Obj}(h:w.heap[b]?=some o):b<w.heap.size:=(Array.getElem?_eq_some_iff.1 h).1
section
variable{C:iJ}{b:Frame}{k:List Item}
theorem Rn.op(hF:ay F N ds a)(d:Tmp)(p:Op)(hd:d<N)(h:(ops[m]?).map (λo=>(o.dst,o.op,o.guard))=some (some d,p,none))(QT:∀c,p≠ .defer c)(hy:∀o:Oper,o.op=p->(execOp a.eval o).run C.P w=.ok (.value v) w')
 (next:∀a',ay ((d,v)::F) N ds a'->Rn C Goal (b.atR a' (.inRegion ops rest::k)) cs w') (ok:kE C.P a.eval p:=by exact nG) (hz:C.pad=true->w'.heap.size=w.heap.size:=by exact O5) (hq:w'.drawn=w.drawn:=by rfl):Rn C Goal (b.atR a (.inRegion ops (m::rest)::k)) cs w:=by
 obtain⟨o,ho,e1,e2,e3⟩:=ka h;refine oi ho (e3 _) (λc=>by rw[e2];exact QT c) ⟨hy o e2,gA (e2▸ok),hz,hq⟩ ?_;rw[e1];exact next _ (hF.put hd v)
theorem oY(hF:ay F N ds a)(d x:Nat)(hd:d<N)(hx:F.lookup x=some v)(h:(ops[m]?).map (λo=>(o.dst,o.op,o.guard))=some (some d,.move (.tmp x),none))
 (next:∀a',ay ((d,v)::F) N ds a'->Rn C Goal (b.atR a' (.inRegion ops rest::k)) cs w):Rn C Goal (b.atR a (.inRegion ops (m::rest)::k)) cs w:=
 Rn.op hF d (.move (.tmp x)) hd h s_ (λo ho=>by rw[bT (.inl ho),hF.get hx]) next trivial
theorem rT(hF:ay F N ds a)(d x:Nat)(hd:d<N)(hx:F.lookup x=some v)(h:(ops[m]?).map (λo=>(o.dst,o.op,o.guard))=some (some d,.assign (.tmp x),none))
 (next:∀a',ay ((d,v)::F) N ds a'->Rn C Goal (b.atR a' (.inRegion ops rest::k)) cs w):Rn C Goal (b.atR a (.inRegion ops (m::rest)::k)) cs w:=
 Rn.op hF d (.assign (.tmp x)) hd h s_ (λo ho=>by rw[bT (.inr ho),hF.get hx]) next trivial
theorem uN(hF:ay F N ds a)(d:Nat)(v:Value)(hd:d<N)(h:(ops[m]?).map (λo=>(o.dst,o.op,o.guard))=some (some d,.assign (.const v),none))
 (next:∀a',ay ((d,v)::F) N ds a'->Rn C Goal (b.atR a' (.inRegion ops rest::k)) cs w):Rn C Goal (b.atR a (.inRegion ops (m::rest)::k)) cs w:=
 Rn.op hF d (.assign (.const v)) hd h s_ (λo ho=>by rw[bT (.inr ho)];rfl) next trivial
theorem NC(hF:ay F N ds a)(d:Nat)(v:Value)(hd:d<N)(h:(ops[m]?).map (λo=>(o.dst,o.op,o.guard))=some (some d,.move (.const v),none))
 (next:∀a',ay ((d,v)::F) N ds a'->Rn C Goal (b.atR a' (.inRegion ops rest::k)) cs w):Rn C Goal (b.atR a (.inRegion ops (m::rest)::k)) cs w:=
 Rn.op hF d (.move (.const v)) hd h s_ (λo ho=>by rw[bT (.inl ho)];rfl) next trivial
theorem fG(hF:ay F N ds a)(d x:Nat)(t:TypeId)(hd:d<N)(hx:F.lookup x=some v)(h:(ops[m]?).map (λo=>(o.dst,o.op,o.guard))=some (some d,.box t (.tmp x),none))
 (next:∀a',ay ((d,.pk w.heap.size 0)::F) N ds a'->Rn C Goal (b.atR a' (.inRegion ops rest::k)) cs (w.alloc (.cells v.cells t))) (hp:C.pad=false:=by rfl):Rn C Goal (b.atR a (.inRegion ops (m::rest)::k)) cs w:=
 Rn.op hF d (.box t (.tmp x)) hd h s_ (λo ho=>by rw[tN ho,hF.get hx]) next trivial (λh=>by rw[hp]at h;cases h)
theorem sn(hF:ay F N ds a)(d x:Nat)(t:TypeId)(hx:F.lookup x=some v)
 (next:∀a',ay ((d,.pk w.heap.size 0)::F) N ds a'->Rn C Goal (b.atR a' (.inRegion ops rest::k)) cs (w.alloc (.cells v.cells t))) (hd:d<N:=by decide) (h:(ops[m]?).map (λo=>(o.dst,o.op,o.guard))=some (some d,.box t (.tmp x),none):=by kernel_rfl) (hp:C.pad=false:=by rfl):Rn C Goal (b.atR a (.inRegion ops (m::rest)::k)) cs w:=fG hF d x t hd hx h next hp
theorem oj(hF:ay F N ds a)(d:Tmp)(p:Op)(hy:∀o:Oper,o.op=p->(execOp a.eval o).run C.P w=.ok (.value v) w')
 (next:∀a',ay ((d,v)::F) N ds a'->Rn C Goal (b.atR a' (.inRegion ops rest::k)) cs w') (hd:d<N:=by decide) (h:(ops[m]?).map (λo=>(o.dst,o.op,o.guard))=some (some d,p,none):=by kernel_rfl) (QT:∀c,p≠ .defer c:=by simp) (ok:kE C.P a.eval p:=by exact nG) (hz:C.pad=true->w'.heap.size=w.heap.size:=by exact O5) (hq:w'.drawn=w.drawn:=by rfl):Rn C Goal (b.atR a (.inRegion ops (m::rest)::k)) cs w:=Rn.op hF d p hd h QT hy next ok hz hq
theorem Qa(hF:ay F N ds a)(d x:Nat)(hx:F.lookup x=some v)(next:∀a',ay ((d,v)::F) N ds a'->Rn C Goal (b.atR a' (.inRegion ops rest::k)) cs w)(hd:d<N:=by decide)(h:(ops[m]?).map (λo=>(o.dst,o.op,o.guard))=some (some d,.move (.tmp x),none):=by kernel_rfl):Rn C Goal (b.atR a (.inRegion ops (m::rest)::k)) cs w:=oY hF d x hd hx h next
theorem Rn.s(hF:ay F N ds a)(d x:Nat)(hx:F.lookup x=some v)(next:∀a',ay ((d,v)::F) N ds a'->Rn C Goal (b.atR a' (.inRegion ops rest::k)) cs w)(hd:d<N:=by decide)(h:(ops[m]?).map (λo=>(o.dst,o.op,o.guard))=some (some d,.assign (.tmp x),none):=by kernel_rfl):Rn C Goal (b.atR a (.inRegion ops (m::rest)::k)) cs w:=rT hF d x hd hx h next
theorem il(hF:ay F N ds a)(p:Op)(h:(ops[m]?).map (λo=>(o.dst,o.op,o.guard))=some (none,p,none))(QT:∀c,p≠ .defer c)(hy:∀o:Oper,o.op=p->(execOp a.eval o).run C.P w=.ok .skip w')
 (next:∀a',ay F N ds a'->Rn C Goal (b.atR a' (.inRegion ops rest::k)) cs w') (ok:kE C.P a.eval p:=by exact nG) (hz:C.pad=true->w'.heap.size=w.heap.size:=by exact O5) (hq:w'.drawn=w.drawn:=by rfl):Rn C Goal (b.atR a (.inRegion ops (m::rest)::k)) cs w:=by
 obtain⟨o,ho,e1,e2,e3⟩:=ka h;refine zu ho (e3 _) (λc=>by rw[e2];exact QT c) ⟨hy o e2,gA (e2▸ok),hz,hq⟩ ?_;rw[e1];exact next a hF
theorem iM{o:Oper}{xs:Array Operand}{ats:Array TypeId}{l:Nat}(QH:o.op=.call {callee:=.value x,args:=xs,argTypes:=ats})(hx:ev x=.func (.yield l) #[] #[])(ha:xs.map ev=args)(w:World)(es:Array Event):
 (execOp ev o).runT P w es=(Instr.yield l args).runT P w es:=by
 have e:execOp ev o=Instr.yield l args:=by
  simp only[execOp,QH,resolve,Deferred.ofValue,hx,ha];simp[invoke,bind,Sem.bind,pure]
 rw[e]
theorem FZ(hF:ay F N ds a)(d x:Nat){l:Nat}{r:Loop}{xs:Array Operand}{ats:Array TypeId}(h:(ops[m]?).map (λo=>(o.dst,o.op,o.guard))=some (some d,.call {callee:=.value (.tmp x),args:=xs,argTypes:=ats},none))
 (hx:F.lookup x=some (.func (.yield l) #[] #[])) (ha:xs.map a.eval=args) (hl:w.heap[l]?=some (.loop r)) (hs:args.size=r.params.size)
 (XO:(∀w',Rn C Goal ((b.atR a (.inRegion ops (m::rest)::k)).finish (.bool true)) cs w'↔Rn C Goal (b.atR (a.put (some d) (.bool true)) (.inRegion ops rest::k)) cs w')->
   Rn C Goal (Frame.round l r.fn ((r.params.zip args).foldl (λtmps (t,a)=>tmps.setIfInBounds t a) r.tmps) r.assign r.body .normal) (b.atR a (.inRegion ops (m::rest)::k)::cs) w):Rn C Goal (b.atR a (.inRegion ops (m::rest)::k)) cs w:=by
 obtain⟨o,ho,e1,e2,e3⟩:=ka h;refine lH (args:=args) ho (e3 _) (by rw[e2];simp) hl hs (λw es=>iM e2 (hF.get hx) ha w es) (XO λw'=>?_);rw[Frame.finish_atR,ho,Option.bind_some,e1]
structure pc (C:iJ) (Goal:Goroutine->World->Prop) (cs:List Frame) (args:Nat->Array Value) (n l:Nat) (r:Loop) (Inv:Nat->World->Prop):Prop where
 below:∀c w w',Inv c w->Bw w w'->Inv c w'
 loop:∀c w,Inv c w->w.heap[l]?=some (.loop r)
 size:∀c,(args c).size=r.params.size
 round:∀c w cf,c<n->Inv c w->(∀w',Inv (c+1) w'->Rn C Goal (cf.finish (.bool true)) cs w')->Rn C Goal (Frame.round l r.fn ((r.params.zip (args c)).foldl (λtmps (t,a)=>tmps.setIfInBounds t a) r.tmps) r.assign r.body .normal) (cf::cs) w
theorem wV{args:Nat->Array Value}{l c:Nat}{r:Loop}{Inv:Nat->World->Prop}(G:pc C Goal cs args n l r Inv)(hF:ay F N ds a)(d x:Nat){xs:Array Operand}{ats:Array TypeId}(hd:d<N)(h:(ops[m]?).map (λo=>(o.dst,o.op,o.guard))=some (some d,.call {callee:=.value (.tmp x),args:=xs,argTypes:=ats},none))
 (hx:F.lookup x=some (.func (.yield l) #[] #[])) (ha:xs.map a.eval=args c) (hc:c<n) (hI:Inv c w) (next:∀a' w',ay ((d,.bool true)::F) N ds a'->Inv (c+1) w'->Rn C Goal (b.atR a' (.inRegion ops rest::k)) cs w'):Rn C Goal (b.atR a (.inRegion ops (m::rest)::k)) cs w:=
 FZ hF d x h hx ha (G.loop c w hI) (G.size c) λhiff=>G.round c w _ hc hI λw' hI'=>(hiff w').2 (next _ w' (hF.put hd _) hI')
theorem iW{ps:Array Tmp}{ca cb:Code}{cap:Array Value}(r:Loop)(hb:b.roundOf=none)(hr:r={state:=.ready,pending:=none,fn:=b.fn,tmps:=a.tmps,params:=ps,assign:=ca,body:=cb,defers:=w.heap.size})
 (hf:C.P.funcs[f]?=some fn) (QV:(fn.name== "runtime.NumGoroutine")=false) (Wn:fn.body.isNone=false) (hx:a.eval x=.func (.func f) first cap) (ha:first++#[.func (.yield (w.heap.size+1)) #[] #[]]++cap=args)
 (h:Rn C Goal (Frame.enter C.P f args .normal) (b.atR ⟨a.tmps,{target:=.collected w.heap.size,args:=#[]}::a.defers⟩ (.inRangeFunc (w.heap.size+1)::k)::cs) (bU w r)) (hp:C.pad=false:=by rfl):Rn C Goal (b.atR a (.code (.rangeFunc x ps ca cb)::k)) cs w:=by
 subst hr;subst ha;exact Rn.range hp hb hf QV Wn hx h
theorem Rn.quits{l:Nat}{r:Loop}{c:Frame}(hl:b.roundOf=some l)(hk:b.kind=.normal)(h0:w.heap[l]?=some (.loop r))(h:Rn C Goal (c.finish (.bool false)) cs (aO w l {r with state:=.done,pending:=some .ret})):Rn C Goal (b.atR a (.code .ret::k)) (c::cs) w:=
 Rn.tree (lM (some .ret)).wW (mu _ h0 (some .ret)) (λm wR _ es h=>⟨_,(cZ rfl m _ wR).trans (m8 (fr:=b.atR a (.code .ret::k)) (j:=some .ret) (.ret rfl) hl hk h),cO C.P b.fn es⟩) (λ_=>ia _ _ _) rfl h
theorem tM{l:Nat}{r:Loop}(h:w.heap[l]?=some (.loop r))(hs:r.state=.done):(Instr.endLoop l).run P w=.ok r.pending (aO w l {r with state:=.exhausted}):=by
 simp[Instr.endLoop,Instr.getLoop,getObj,setObj,bind,Sem.bind,Sem.run,pure,h,hs,aO]
theorem nC{l:Nat}{r:Loop}(h0:w.heap[l]?=some (.loop r))(hs:r.state=.done)(hp:r.pending=some .ret)(h:Rn C Goal (b.atR a (.code .ret::k)) cs (aO w l {r with state:=.exhausted})):Rn C Goal (b.atR a (.endRangeFunc l::k)) cs w:=by
 refine Rn.tree (v:=some .ret) (fr':=b.atR a (.code .ret::k)) (cs':=cs) nl.wW (by rw[tM h0 hs,hp]) (λm wR _ es h=>⟨_,(cZ rfl m _ wR).trans (jW (fr:=b.atR a (.endRangeFunc l::k)) rfl h),cO C.P b.fn es⟩) (λ_=>ia _ _ _) rfl h
theorem g_{c:Frame}(hk:b.kind=.normal)(hd:a.defers=[])(hf:C.P.funcs[b.fn]?=some fn)(h:Rn C Goal (c.finish (.tuple #[])) cs w)(hr:fn.results=#[]:=by rfl):Rn C Goal {b.atR a k with mode:=.returning} (c::cs) w:=
 Rn.leave (.tuple #[]) rfl hk hd hf (by simp[results,hr]) (iA _ _) h
theorem uD{R:Ending->World->Prop}{t:Tmp}(hf:C.P.funcs[f]?=some fn)(Ru:fn.results=#[.cell t ty])(hag:∀w:World,(isAgg ty).run C.P w=.ok false w)
 (h:∀cs,Rn C (λg w'=>∃(a:Act) (k:List Item) (ad:Addr) (v:Value),g=cQ {(base f).atR a k with mode:=.returning} cs/\a.defers=[]/\a.tmps[t]?=some (.pointer (some ad))/\w'.cell? ad=some v/\R (.returned v) w') (Frame.enter C.P f args .normal) cs w):Cl C f args w R:=
 eQ hf λcs L hG=>h cs L λfr cs' w' ⟨a,k,ad,v,e,h1,h2,h3,h4⟩=>hG _ _ _ ⟨a,k,v,e,h1,by simp[results,Ru,h2,asAddr,loadVar,hag,h3,go_sem],h4⟩
theorem ND{c:Call}{g:FuncId}{x y:Array Value}{o:Oper}(hF:ay F N ds a)(RA:b.roundOf=none)(ho:ops[m]?=some o)(hg:o.guard=none)(hd:o.dst=none)(QH:o.op=.defer c)(RS:c.callee=.value (.tmp d))(UD:c.args=#[])(hv:F.lookup d=some (.func (.func g) x y))
 (next:∀a',ay F N (⟨.fn (.func g) y,x⟩::ds) a'->Rn C Goal (b.atR a' (.inRegion ops rest::k)) cs w):Rn C Goal (b.atR a (.inRegion ops (m::rest)::k)) cs w:=by
 have hw:Region.wanted o (yielded ops a.tmps)=true:=by simp[Region.wanted,hg]
 have hex:execOp a.eval o=.pure (.defer ⟨.fn (.func g) y,x⟩):=by
  unfold execOp resolve;rw[QH];simp only[RS,UD,hF.get hv,Deferred.ofValue];simp;rfl
 have e:∀main w,stepG.exec C.P main true (b.atR a (.inRegion ops (m::rest)::k)) cs none w=.go (cQ (b.atR ⟨a.tmps,⟨.fn (.func g) y,x⟩::a.defers⟩ (.inRegion ops rest::k)) cs) w #[]:=λmain w=>by
  have h1:stepG.exec C.P main true (b.atR a (.inRegion ops (m::rest)::k)) cs none w=stepG.apply C.P true (b.atR a (.inRegion ops (m::rest)::k)) cs none (execOp (b.atR a (.inRegion ops (m::rest)::k)).eval o) w:=by
   unfold stepG.exec;simp only[Frame.atR,ho,Option.map_some,Option.getD_some,hw,↓reduceIte];unfold stepG.oper;simp only[Frame.oper?,ho,RA]
  rw[h1,Frame.eval_atR,hex];unfold stepG.apply;simp[-Sem.runT_eq,Sem.runT,GStep.after,seen,Frame.finish,Frame.atR,ho,hd,cQ]
 refine Rn.exec rfl e (next _ ⟨?_,hF.size,hF.slot⟩);show _::a.defers=_;rw[hF.defers]
theorem wX{g:FuncId}{cp Yt:Array Value}{es:List Deferred}(hm:fr.mode≠ .run)(hd:fr.defers=⟨.fn (.func g) cp,Yt⟩::es)(hf:C.P.funcs[g]?=some fn)(hb:fn.body.isSome=true)(hn:fn.name≠ "runtime.NumGoroutine")
 (next:Rn C Goal (Frame.enter C.P g (Yt++cp) .deferred) ({fr with defers:=es}::cs) w):Rn C Goal fr cs w:=by
 have e:∀main w,stepG C.P main (cQ fr cs) w=unwind C.P main fr cs none w:=λmain w=>by
  unfold stepG cQ;cases hmm:fr.mode with
  |run=>exact absurd hmm hm
  |_=>simp only[hmm]
 exact Rn.same (λmain w=>(e main w).trans (wD hd hf hb hn)) next
theorem wY{c:Frame}(hk:b.kind=.deferred)(hd:a.defers=[])(hf:C.P.funcs[b.fn]?=some fn)(hr:(results fn a.tmps).run C.P w=.ok v w)(h:Rn C Goal (kQ c) cs w):Rn C Goal {b.atR a k with mode:=.returning} (c::cs) w:=by
 refine Rn.tree (fr':=kQ c) (cs':=cs) (iA fn a.tmps).wW hr (λm wR Rc es h=>⟨_,?_,cO C.P b.fn es⟩) (λ_=>rfl) rfl h;have hu:=sA (P:=C.P) (main:=m) (fr:={b.atR a k with mode:=.returning}) (c:=c) (cs:=cs) hd rfl (.inr hk) hf h;have hb:back b.kind c v=kQ c:=by rw[hk];rfl
 rw[show({b.atR a k with mode:=.returning}:Frame).kind=b.kind from rfl,hb]at hu;unfold stepG cQ;exact hu
def K6(f:FuncId):Frame:={base f with kind:=.deferred}
theorem Ay{c:Code}(L:List Value)(hf:P.funcs[f]?=some fn)(hb:fn.body=some c)(hN:fn.ntmps=N):Frame.enter P f L.toArray .deferred=(K6 f).atR ⟨L.toArray++Array.replicate (N- L.toArray.size) undef,[]⟩ [.code c]:=by
 have:=fJ (P:=P) L hf hb hN;unfold Frame.enter at this⊢;simp only[hf]at this⊢;injection this with h1 h2 h3 h4 h5 h6 h7;simp only[K6,Frame.atR]
 congr 1
theorem NB{t:TypeId}{s:ByteArray}{o:Oper}(hF:ay F N ds a)(ho:ops[m]?=some o)(hg:o.guard=none)(QH:o.op=.panic (.tmp d))(hv:F.lookup d=some (.iface t (.string s)))
 (next:Rn C Goal ((b.atR a (.inRegion ops (m::rest)::k)).raise [{v:=.iface t (.string s),recovered:=false}]) cs w):Rn C Goal (b.atR a (.inRegion ops (m::rest)::k)) cs w:=by
 have hw:Region.wanted o (yielded ops a.tmps)=true:=by simp[Region.wanted,hg]
 have hex:execOp a.eval o=.halt (.panic (.iface t (.string s))):=by
  unfold execOp;rw[QH];simp only[hF.get hv];rfl
 refine Rn.exec rfl (λmain w=>?_) next
 have:=(jD (main:=main) (listen:=true) (cs:=cs) (w:=w) (P:=C.P) (fr:=b.atR a (.inRegion ops (m::rest)::k)) rfl ho hw (λc e=>by rw[QH]at e;cases e)).trans (Ec (v:=.iface t (.string s)) (w':=w) (es:=#[]) (by rw[Frame.eval_atR,hex];rfl));rw[this];show GStep.go _ _ _=GStep.go _ _ _
 congr 1
 have h0:∀x,seen C.P x #[]=#[]:=λx=>by simp[seen]
 split<;>exact h0 _
theorem JD{c:Frame}{ch:List PanicEntry}(hm:fr.mode=.panicking ch)(hd:fr.defers=[])(hc:fr.catches C.P=false)(next:Rn C Goal (c.raise ch) cs w):Rn C Goal fr (c::cs) w:=by
 refine Rn.same (λmain w=>?_) next
 unfold stepG cQ;simp only[hm];unfold unwind;simp only[hd,hm,hc,Bool.false_eq_true,↓reduceIte]
theorem xM{main:Bool}{f:Frame}{xs:List Frame}{k:List Item}{o:Oper}{c:Call}(ht:f.todo=.inRegion ops (n::rest)::k)(ho:ops[n]?=some o)(hw:Region.wanted o (yielded ops f.tmps)=true)(QH:o.op=.call c)(RS:c.callee=.builtin .recover)(e:f.roundOf=none):
 stepG.exec P main listen f xs none w=match tryRecover f xs with
  |some (v,ys)=>.go {frame:=f.finish v,callers:=ys,status:=.running,dying:=none} w
  |none=>.go {frame:=f.finish .nilIface,callers:=xs,status:=.running,dying:=none} w:=by
 have hex:execOp f.eval o=.pure .recover:=by unfold execOp resolve;rw[QH];simp only[RS];rfl
 rw[jD ht ho hw (λc e=>by rw[QH]at e;cases e),hex];unfold stepG.apply;cases listen<;>simp only[Sem.runT,Sem.run,e,↓reduceIte,Bool.false_eq_true]<;>cases tryRecover f xs<;>simp[GStep.after,seen]
theorem NA{o:Oper}{c:Call}{TK:List PanicEntry}{cl:Frame}(hF:ay F N ds a)(hk:b.kind=.deferred)(RA:b.roundOf=none)(ho:ops[m]?=some o)(hg:o.guard=none)(UQ:o.dst=some d)(hd:d<N)(QH:o.op=.call c)(RS:c.callee=.builtin .recover)(hm:cl.mode=.panicking ({v,recovered:=false,goexit:=false}::TK))
 (next:∀a',ay ((d,v)::F) N ds a'->Rn C Goal (b.atR a' (.inRegion ops rest::k)) ({cl with mode:=.panicking ({v,recovered:=true}::TK)}::cs) w):Rn C Goal (b.atR a (.inRegion ops (m::rest)::k)) (cl::cs) w:=by
 have hw:Region.wanted o (yielded ops a.tmps)=true:=by simp[Region.wanted,hg]
 have ht:tryRecover (b.atR a (.inRegion ops (m::rest)::k)) (cl::cs)=some (v,{cl with mode:=.panicking ({v,recovered:=true}::TK)}::cs):=by
  unfold tryRecover;rw[show(b.atR a (.inRegion ops (m::rest)::k)).kind=.deferred from hk];simp only[hm]
 refine Rn.exec (fr':=(b.atR a (.inRegion ops (m::rest)::k)).finish v) (cs':={cl with mode:=.panicking ({v,recovered:=true}::TK)}::cs) rfl (λmain w=>?_) ?_
 .have e:=xM (P:=C.P) (main:=main) (listen:=true) (f:=b.atR a (.inRegion ops (m::rest)::k)) (xs:=cl::cs) (w:=w) rfl ho hw QH RS RA;rw[ht]at e;exact e
 .rw[Frame.finish_atR,ho,Option.bind_some,UQ];exact next _ (hF.put hd v)
end

abbrev Ax:=FuncId->Array Value->World->(Value->World->Prop)->Prop
abbrev cX(P:Program)(p:Bool)(A:Ax):iJ:=⟨P,p,A⟩
theorem om{p:Prop}(h:p:=by first|omega|(dsimp only[];omega)):p:=h
theorem Qn{p:Prop}(h:p:=by first|assumption|decide|exact om|exact Int.emod_nonneg _ d_):p:=h
theorem PM{p:Prop}(h:p:=by first|assumption|rfl):p:=h
theorem oq{p:Prop}(h:p:=by
 first
 |exact BG ho gx
 |exact tZ ho gx
 |exact DC ho gx gx om
 |exact qC ho gx gx om
 |exact vm ho gx gx om
 |exact Dz ho gx gx om
 |exact Ds ho gx gx om
 |exact Dp ho gx gx om
 |exact Dq ho gx gx om om
 |exact DD ho gx gx om
 |exact Do ho gx gx om
 |exact cV ho gx gx rfl
 |exact zL ho gx gx Qn
 |exact GO ho gx gx Qn
 |exact kr ho gx (by assumption) PM (λ_=>by kernel_rfl)
 |exact kV ho gx gx rfl k_ om
 |exact GR ho gx gx rfl k_ om
 |exact Dx ho gx rfl
 |exact zM ho gx
 |exact Du ho gx k_
 |exact Dv ho gx rfl
 |exact qE ho gx gx k_ (by assumption)
 |exact GQ ho gx gx rfl k_ (λ_=>by kernel_rfl) om PM
 |exact GN ho gx gx gx rfl k_ om om om
 |exact GL ho gx gx rfl k_ om
 |exact jL ho gx gx gx k_ om om
 |exact GM ho gx gx k_ om
 |exact Dy ho gx gx om
 |exact Dr ho gx om
 |exact zN ho gx
 |exact GP ho gx
 |exact Dw ho gx
 |exact GU ho gx rfl k_ om
 |exact GT ho gx rfl k_ om
 |exact qD _ ho gx rfl k_
 |exact j1 ho gx rfl):p:=h
theorem QB{p:Prop}(h:p:=by
 first
 |exact OB ho rfl
 |exact yf ho gx
 |exact Oz ho gx gx rfl rfl rfl k_ om):p:=h
theorem Qy{p:Prop}(h:p:=by first|exact om|decide|(simp;done)|(simp;omega)|(simp[*];done)|(simp[*];omega)):p:=h
theorem QA{p:Prop}(h:p:=by
 first
 |exact oA ho gx gx (by assumption) Qy k_ rfl rfl):p:=h

section
variable{p:Bool}{A:Ax}
theorem my(x k:Int)(w:World):Cl (cX prog p A) 184 #[.int .u32 x,.int .i64 k] w λe w'=>e=.returned (.int .u32 (qJ x k))/\w'=w:=by
 refine av (L:=[.int .u32 x,.int .i64 k]) func184 rfl λcs a hF=>?_;have h0:=pq .and (IntKind.u64.wrap k) 31
 iterate 14 refine a9 hF λa hF=>?_
 exact aL hF ⟨rfl,rfl⟩
theorem qo(x a b c:Int)(w:World)(a0:0<=a)(a1:a<=31)(b0:0<=b)(b1:b<=31)(c0:0<=c)(c1:c<=31):
 Cl (cX prog p A) 163 #[.int .u32 x,.int .i64 a,.int .i64 b,.int .i64 c] w λe w'=>e=.returned (.int .u32 (iZ x a b c))/\w'=w:=by
 refine av (L:=[.int .u32 x,.int .i64 a,.int .i64 b,.int .i64 c]) func163 rfl λcs act hF=>?_
 iterate 4 refine a9 hF λ_ hF=>?_
 refine fY hF func184 (my _ _ _) λ_ hF=>?_
 iterate 3 refine a9 hF λ_ hF=>?_
 refine fY hF func184 (my _ _ _) λ_ hF=>?_
 iterate 4 refine a9 hF λ_ hF=>?_
 refine fY hF func184 (my _ _ _) λ_ hF=>?_
 iterate 2 refine a9 hF λ_ hF=>?_
 exact aL hF ⟨rfl,rfl⟩
theorem oB(x a b c:Int)(w:World)(a0:0<=a)(a1:a<=31)(b0:0<=b)(b1:b<=31)(c0:0<=c)(c1:c<=31):
 Cl (cX prog p A) 183 #[.int .u32 x,.int .i64 a,.int .i64 b,.int .i64 c] w λe w'=>e=.returned (.int .u32 (gf x a b c))/\Bw w w':=by
 refine av (L:=[.int .u32 x,.int .i64 a,.int .i64 b,.int .i64 c]) func183 rfl λcs act hF=>?_;refine a9 hF λ_ hF=>?_;refine oZ hF ?_
 iterate 3 refine Gx.q ?_
 refine Gx.k func184 (λw _ _=>(my _ _ w).bel) ?_
 iterate 3 refine Gx.q ?_
 refine Gx.k func184 (λw _ _=>(my _ _ w).bel) ?_
 iterate 6 refine Gx.q ?_
 refine Gx.e λ_ w1 hF hb _=>aL hF ⟨?_,hb⟩;rw[show min c.toNat IntKind.u32.bits=c.toNat from by have:IntKind.u32.bits=32:=rfl;omega];rfl
theorem Bd(s:ByteArray)(k:Nat)(h:k<s.size):s.data.toList.take (k+1)=s.data.toList.take k++[s[k]]:=by
 rw[List.take_succ_eq_append_getElem (by simpa using h)];rfl
theorem Lj(n:Int)(b:UInt8)(h0:0<=n)(h1:n<72057594037927936):bits .or .u64 (IntKind.u64.wrap (n*2^min (8:Int).toNat IntKind.u64.bits)) (IntKind.u64.wrap (b.toNat:Int))=256*n+(b.toNat:Int):=by
 rw[←Ei n b h0 h1,show(2:Int)^min (8:Int).toNat IntKind.u64.bits=256 from rfl,IntKind.wrap_u64 (n*256),Int.emod_eq_of_lt o_ o_]
theorem dL(s:ByteArray)(w:World)(hs:s.size<=8):
 Cl (cX prog p A) 88 #[.string s] w λe w'=>e=.returned (.int .u64 (cM s.data.toList))/\w'=w:=by
 refine av (L:=[.string s]) func88 rfl λcs a hF=>?_
 iterate 5 refine a9 hF λ_ hF=>?_
 refine gD (λk a w'=>w'=w/\k<=s.size/\ay [(0,.string s),(3,.int .u64 (cM (s.data.toList.take k))),(6,.int .i64 (s.size:Int)),(7,.int .i64 (k:Int))] f88.ntmps [] a) (λk=>s.size- k) 0 ⟨rfl,Nat.zero_le _,hF.O⟩ λk a w' ⟨ew,hk,hF⟩ ih=>?_;subst ew;refine a9 hF λ_ hF=>?_;by_cases QK:k<s.size
 .refine aN true hF ?_;have hn:=i4 (s.data.toList.take k) 7 (by simp;omega)
  iterate 12 refine a9 hF λ_ hF=>?_
  refine fZ (ih (k+1) _ _ ⟨rfl,QK,hF.only ⟨rfl,congrArg (λz=>some (Value.int .u64 z)) ?_,rfl,rfl,trivial⟩⟩ o_);rw[Bd s k QK,ly];exact Lj _ _ hn.1 o_
 .refine aN false hF ?_
  iterate 2 refine a9 hF λ_ hF=>?_
  refine aL hF ?_;exact⟨by rw[List.take_of_length_le (by simp;omega)],rfl⟩
theorem Mb(n d:Nat):((n/d:Nat):Int)/2^min (8:Int).toNat IntKind.u64.bits=((n/(d*256):Nat):Int):=by
 rw[show(2:Int)^min (8:Int).toNat IntKind.u64.bits=((256:Nat):Int)from rfl,←Int.natCast_ediv,Nat.div_div_eq_div_mul]
theorem mi(n k:Nat)(w:World)(hk:k<=8):
 Cl (cX prog p A) 106 #[.int .u64 n,.int .i64 k] w λe w'=>e=.returned (.string ⟨(bX n k).toArray⟩)/\Bw w w':=by
 refine av (L:=[.int .u64 n,.int .i64 k]) func106 rfl λcs a hF=>?_
 iterate 2 refine a9 hF λ_ hF=>?_
 refine Rn.am hF λg w1 _ hg hb hc hz hF=>?_
 iterate 4 refine a9 hF λ_ hF=>?_
 refine gD (λm a w'=>m<=k/\Bw w w'/\w'.heap[g]?=some (.cells (Dc n k m).toArray 5)/\ay [(0,.int .u64 ((n/256^(k- m):Nat):Int)),(5,.sk g k k),(6,.int .i64 ((m:Int)- 1))] f106.ntmps [] a) (λm=>m) k ⟨Nat.le_refl _,hb,by rw[B0];exact hc,hF.only ⟨by rw[Nat.sub_self,Nat.pow_zero,Nat.div_one];rfl,rfl,rfl,trivial⟩⟩ λm a w' ⟨hm,hb,hc,hF⟩ ih=>?_;cases m with
 |zero=>
  iterate 2 refine a9 hF λ_ hF=>?_
  refine aN false hF ?_;refine a9 hF λ_ hF=>?_;rw[Gy]at hc;refine a9 hF (hy:=by intro o ho;exact jn (l:=bX n k) ho gx (bB k n) rfl k_ k_ hc λj hj=>by simp[aZ,hj]) λ_ hF=>?_;refine a9 hF λ_ hF=>?_;exact aL hF ⟨rfl,hb⟩
 |succ p=>
  rw[show((p+1:Nat):Int)- 1=(p:Int)from by omega]at hF;have QY:=xw n k (p+1) hm
  iterate 2 refine a9 hF λ_ hF=>?_
  refine aN true hF ?_
  iterate 5 refine a9 hF λ_ hF=>?_
  refine Rn.st hF λw2 _ hp hF=>?_;have Rh:=hp.here;rw[List.setIfInBounds_toArray,Nat.zero_add,Gv n k p o_ _ (by rw[IntKind.wrap_u8];simp)]at Rh
  iterate 6 refine a9 hF λ_ hF=>?_
  refine fZ (ih p _ _ ⟨by omega,hb.trans (hp.below hg),Rh,hF.only ⟨congrArg (λz=>some (Value.int .u64 z)) ?_,rfl,rfl,trivial⟩⟩ o_);rw[show k- p=k-(p+1)+1 from by omega,Nat.pow_succ];exact Mb _ _
theorem Gu(n:Nat)(w:World):Cl (cX prog p A) 132 #[.int .u64 n] w λe w'=>e=.returned (.string ⟨(bX n 8).toArray⟩)/\Bw w w':=by
 refine av (L:=[.int .u64 n]) func132 rfl λcs a hF=>?_
 iterate 2 refine a9 hF λ_ hF=>?_
 refine gJ hF func106 (mi n 8 _ o_) λw1 _ hb hF=>?_;refine a9 hF λ_ hF=>?_;exact aL hF ⟨rfl,hb⟩
theorem u32_any(n:Nat)(w:World)(h:n<18446744073709551616):Cl (cX prog p A) 89 #[.int .i64 n] w λe w'=>e=.returned (.string ⟨(bX n 4).toArray⟩)/\Bw w w':=by
 refine av (L:=[.int .i64 n]) func89 rfl λcs a hF=>?_
 iterate 3 refine a9 hF λ_ hF=>?_
 refine gJ hF func106 (mi n 4 _ o_) λw1 _ hb hF=>?_;refine a9 hF λ_ hF=>?_;exact aL hF ⟨rfl,hb⟩
theorem u16_any(n:Nat)(w:World)(h:n<18446744073709551616):Cl (cX prog p A) 92 #[.int .i64 n] w λe w'=>e=.returned (.string ⟨(bX n 2).toArray⟩)/\Bw w w':=by
 refine av (L:=[.int .i64 n]) func92 rfl λcs a hF=>?_
 iterate 3 refine a9 hF λ_ hF=>?_
 refine gJ hF func106 (mi n 2 _ o_) λw1 _ hb hF=>?_;refine a9 hF λ_ hF=>?_;exact aL hF ⟨rfl,hb⟩
theorem u8_any(n:Nat)(w:World)(h:n<18446744073709551616):Cl (cX prog p A) 151 #[.int .i64 n] w λe w'=>e=.returned (.string ⟨(bX n 1).toArray⟩)/\Bw w w':=by
 refine av (L:=[.int .i64 n]) func151 rfl λcs a hF=>?_
 iterate 3 refine a9 hF λ_ hF=>?_
 refine gJ hF func106 (mi n 1 _ o_) λw1 _ hb hF=>?_;refine a9 hF λ_ hF=>?_;exact aL hF ⟨rfl,hb⟩
end

section
variable{p:Bool}{A:Ax}
theorem Cy(B:List UInt8)(m n j:Nat)(hj:j<((B.drop m).take n).length):(aZ B).toArray[0+m+j]?=some (.int .u8 (((B.drop m).take n)[j].toNat:Int)):=by
 have h1:j<n/\m+j<B.length:=by simp at hj;omega
 simp[aZ,h1.2]
theorem tJ(B:List UInt8)(hB:B.length=64)(w:World):
 Cl (cX prog p A) 162 #[.agg (aZ B).toArray] w λe w'=>e=.returned (.agg (aC (bF B 64)).toArray)/\Bw w w':=by
 refine ce (n:=64) func162 rfl rfl rfl k_ λcs=>bm (L:=[.agg (aZ B).toArray]) func162 rfl λa hF=>?_;refine Rn.am hF λgb w1 _ SL QM R9 Wz hF=>?_;refine Rn.am hF λgr w2 _ Ud QN Rh hz2 hF=>?_;refine Rn.am hF λgs w3 _ hgs QW RN hz3 hF=>?_;have SR:=QM.size;have TC:=QN.size
 replace R9:w3.heap[gb]?=some (.cells (aZ B).toArray 164):=bk QW (bk QN R9)
 replace Rh:w3.heap[gr]?=some (.cells (List.replicate 64 (.int .u32 0)).toArray 214):=bk QW Rh
 replace RN:w3.heap[gs]?=some (.cells (aC (bM B 0)).toArray 214):=RN
 have hb:Bw w w3:=ab (ab QM SR QN) o_ QW;refine a9 hF λ_ hF=>?_;refine gD (λk a w'=>k<=16/\Bw w w'/\w'.heap[gb]?=some (.cells (aZ B).toArray 164)/\w'.heap[gr]?=some (.cells (List.replicate 64 (.int .u32 0)).toArray 214)/\w'.heap[gs]?=some (.cells (aC (bM B k)).toArray 214)/\ay [(1,.pk gb 0),(2,.pk gr 0),(3,.pk gs 0),(6,.int .i64 (k:Int))] f162.ntmps [] a) (λk=>16- k) 0 ⟨by omega,hb,R9,Rh,RN,hF.O⟩ ?_;clear hF hb R9 Rh RN QM QN QW;intro k a w' ⟨hk,hb,R9,Rh,RN,hF⟩ ih;refine a9 hF λ_ hF=>?_;by_cases QK:k<16
 .refine aN true hF ?_;have hl:((B.drop (4*k)).take 4).length=4*k+4- 4*k:=by simp;omega
  have QY:=jc B k o_;have hsw:=aT (bM B k)
  iterate 9 refine a9 hF λ_ hF=>?_
  refine a9 hF (hy:=by intro o ho;exact jn (l:=(B.drop (4*k)).take 4) ho gx hl rfl k_ k_ R9 λj hj=>Cy B _ _ j hj) λ_ hF=>?_;refine fY hF func88 (dL _ _ (by show((B.drop (4*k)).take 4).toArray.size<=8;simp;omega)) λ_ hF=>?_
  iterate 2 refine a9 hF λ_ hF=>?_
  refine Rn.st hF λw2 _ hp hF=>?_;have h3:=hp.here;rw[List.setIfInBounds_toArray,Nat.zero_add,qA B k o_ _ (by rw[if_pos QK];rfl)]at h3
  iterate 2 refine a9 hF λ_ hF=>?_
  exact fZ (ih (k+1) _ _ ⟨QK,hb.trans (hp.below o_),hp.keep R9 o_,hp.keep Rh o_,h3,hF.O⟩ o_)
 .have hk16:k=16:=by omega
  subst hk16;refine aN false hF ?_;refine a9 hF λ_ hF=>?_;refine gD (λk a w'=>16<=k/\k<=64/\Bw w w'/\w'.heap[gr]?=some (.cells (List.replicate 64 (.int .u32 0)).toArray 214)/\w'.heap[gs]?=some (.cells (aC (bM B k)).toArray 214)/\ay [(2,.pk gr 0),(3,.pk gs 0),(5,.int .i64 (k:Int))] f162.ntmps [] a) (λk=>64- k) 16 ⟨by omega,by omega,hb,Rh,RN,hF.O⟩ ?_;clear hF hb R9 Rh RN ih;intro k a w' ⟨WS,UN,hb,Rh,RN,hF⟩ ih
  iterate 2 refine a9 hF λ_ hF=>?_
  by_cases QK:k<64
  .refine aN true hF ?_;have QY:=jc B k o_;have hsw:=aT (bM B k);have y0:(aC (bM B k)).toArray[0+(k- 16)]?=some (.int .u32 ((bF B k).getD (k- 16) 0)):=(by rw[Nat.zero_add,List.getElem?_toArray];exact jJ B k _ o_);have y1:(aC (bM B k)).toArray[0+(k- 15)]?=some (.int .u32 ((bF B k).getD (k- 15) 0)):=(by rw[Nat.zero_add,List.getElem?_toArray];exact jJ B k _ o_);have y2:(aC (bM B k)).toArray[0+(k- 7)]?=some (.int .u32 ((bF B k).getD (k- 7) 0)):=(by rw[Nat.zero_add,List.getElem?_toArray];exact jJ B k _ o_);have y3:(aC (bM B k)).toArray[0+(k- 2)]?=some (.int .u32 ((bF B k).getD (k- 2) 0)):=(by rw[Nat.zero_add,List.getElem?_toArray];exact jJ B k _ o_);refine AK 23 hF ?_
   iterate 9 refine Gx.q ?_
   refine Gx.k func183 (λw _ _=>oB _ 7 18 3 w o_ o_ o_ o_ o_ o_) ?_
   iterate 10 refine Gx.q ?_
   refine Gx.k func183 (λw _ _=>oB _ 17 19 10 w o_ o_ o_ o_ o_ o_) ?_
   iterate 2 refine Gx.q ?_
   refine Gx.e λ_ w1 hF QM _ rest next=>?_
   have hc3':=bk QM RN;have hc2':=bk QM Rh;refine Rn.st hF λw2 a hp hF=>next a w2 ?_
   have h3:=hp.here;rw[List.setIfInBounds_toArray,Nat.zero_add,qA B k QK _ (by rw[if_neg o_];rfl)]at h3
   iterate 3 refine a9 hF λ_ hF=>?_
   exact fZ (ih (k+1) _ _ ⟨by omega,QK,(ab hb hb.size QM).trans (hp.below o_),hp.keep hc2' o_,h3,hF.O⟩ o_)
  .have Y3:k=64:=(by omega);subst Y3;refine aN false hF ?_;have hl:(aC (bM B 64)).length=64:=(by rw[aT,jc B 64 o_]);refine a9 hF (hy:=by intro o ho;exact gi (vs:=aC (bM B 64)) ho gx RN rfl rfl (by rw[hl];kernel_rfl) (λj u h=>by simpa using h)) λ_ hF=>?_;refine Rn.st hF (hy:=by intro o ho;exact dZ ho gx gx Rh (by rw[List.size_toArray,hl];kernel_rfl) (by rw[List.size_toArray,List.size_toArray,hl];rfl) (by simpa using iT _)) λw3 _ hp hF=>?_;refine AL hF hp.here (by rw[List.size_toArray,hl]) ?_;exact⟨by rw[oF],hb.trans (hp.below o_)⟩
end

end Go.Proofs.YtkmoglhgkcnalaaGreatDoor
namespace Go.Proofs.YtkmoglhgkcnalaaGreatDoor
open Go.RowKit
structure St where
 a:Int
 b:Int
 c:Int
 d:Int
 e:Int
 f:Int
 g:Int
 h:Int
def St.t(s:St)(k w:Int):Int:=
 IntKind.u32.wrap (IntKind.u32.wrap (IntKind.u32.wrap (IntKind.u32.wrap (s.h+iZ s.e 6 11 25)+bits .xor .u32 (bits .and .u32 s.e s.f) (bits .and .u32 (bits .xor .u32 4294967295 s.e) s.g))+k)+w)
def St.u(s:St):Int:=
 IntKind.u32.wrap (iZ s.a 2 13 22+bits .xor .u32 (bits .xor .u32 (bits .and .u32 s.a s.b) (bits .and .u32 s.a s.c)) (bits .and .u32 s.b s.c))
def St.next(s:St)(k w:Int):St:=
 ⟨IntKind.u32.wrap (s.t k w+s.u),s.a,s.b,s.c,IntKind.u32.wrap (s.d+s.t k w),s.e,s.f,s.g⟩
def FR(H:List Int):St:=⟨H.getD 0 0,H.getD 1 0,H.getD 2 0,H.getD 3 0,H.getD 4 0,H.getD 5 0,H.getD 6 0,H.getD 7 0⟩
def St.list(s:St):List Int:=[s.a,s.b,s.c,s.d,s.e,s.f,s.g,s.h]
def cC(K W H:List Int):Nat->St
 |0=>FR H
 |i+1=>(cC K W H i).next (K.getD i 0) (W.getD i 0)
def EV(K H:List Int)(B:List UInt8):List Int:=(cC K (bF B 64) H 64).list
def eM(H G:List Int)(k:Nat):List Int:=(List.range 8).map λi=>if i<k then IntKind.u32.wrap (H.getD i 0+G.getD i 0)else H.getD i 0
def lZ(K H:List Int)(B:List UInt8):List Int:=eM H (EV K H B) 8
theorem mW(H G:List Int)(k:Nat):(eM H G k).length=8:=by simp[eM]
theorem oL(K H:List Int)(B:List UInt8):(lZ K H B).length=8:=mW _ _ _
theorem vQ(H G:List Int)(h:H.length=8):eM H G 0=H:=by
 apply List.ext_getElem
 .simp[eM,h]
 .intro i h1 h2;simp[eM,List.getD,List.getElem?_eq_getElem h2]
theorem BW(H G:List Int)(k:Nat)(h:k<8):(aC (eM H G k))[k]?=some (.int .u32 (H.getD k 0)):=by
 simp[eM,aC,h]
theorem BV(H G:List Int)(k:Nat)(v:Int)(hv:v=IntKind.u32.wrap (H.getD k 0+G.getD k 0)):(aC (eM H G k)).set k (.int .u32 v)=aC (eM H G (k+1)):=by
 subst hv;apply List.ext_getElem
 .simp[eM,aC]
 .intro i h1 h2;simp only[eM,aC,List.map_map,List.getElem_set,List.getElem_map,List.getElem_range,Function.comp];by_cases e:k=i
  .subst e;simp
  .rw[if_neg e];by_cases e2:i<k
   .rw[if_pos e2,if_pos o_]
   .rw[if_neg e2,if_neg o_]

end Go.Proofs.YtkmoglhgkcnalaaGreatDoor
