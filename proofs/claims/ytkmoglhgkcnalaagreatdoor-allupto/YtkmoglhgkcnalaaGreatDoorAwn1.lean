/- A part of what the last text of the claim imports: texts laid together, without remarks and blanks, by a program. -/
import Derived.Test.YtkmoglhgkcnalaaGreatDoorProg
import Derived.Conc.WalkWords
import Derived.KernelRfl
import Derived.Laws.Slices
import Derived.Conc.EventLaws2
import Derived.RowKit
import Derived.Conc.Own
import Derived.Below
import Derived.Laws.Sem
import Derived.RunT
import Derived.Conc.Events
import Derived.AtR
import Derived.Calls
import Derived.Conc.Own3
import Derived.Conc.Own4
import Derived.Tactics
import Derived.Conc.CrowdInv
import Derived.Conc.CompanyDraw
import Derived.Deep.MidRow
import Derived.Laws.Tables
import Derived.Conc.Beside
import Derived.Fence
import Derived.Conc.Fork
import Derived.Conc.WgGenN3
import Derived.WalkKit
import Derived.WalkSpells
import Derived.WalkLawsBesides
import Derived.Deep.OwnRows
import Derived.Laws.CopyRow
import Derived.Lib.BufferWrite
import Derived.Laws.IdiomStrings
set_option maxHeartbeats 16000000
set_option maxRecDepth 100000
open Array renaming getElem?_eq_some_iff->ap,getElem?_setIfInBounds_ne->cd,getElem?_eq_getElem->hF,length_toList->ml,getElem?_setIfInBounds_self_of_lt->uc,replicate->ve,getElem?_modify->By,getD_eq_getD_getElem?->a11,append_empty->a3_,getElem?_push->a31,getElem?_append_left->a48,mem_append->a50,getElem?_replicate->a72,size_setIfInBounds->a73,all_eq_true'->a76,size_push->a92,size_map->ac_,getElem?_map->ac5,mem_push->ad1,toArray_toList->ad3,toList_map->ae_,getElem?_push_size->ae6,getElem_mem->af8,toList_setIfInBounds->ai0,ext->aj_,getElem?_push_lt->ak_,getElem_modify->al8,mem_toList_iff->al9
open Bool renaming and_eq_true->a27,false_eq_true->a85,true_and->ae8,false_or->ah0,or_eq_true->al1,not_true->an3,not_eq_true'->ao3,not_false->aq8
open Classical renaming propDecidable->aj4
open Go.Act renaming put->a84
open Go.Addr renaming add->a71
open Go.Builtin renaming append_->ab_,copy_->ab3,firstCells->ac4,len_->ad7,mayShare->ag6,lenOf->ah_,holdsCells->ai_,cap_->ao2
open Go.Conc renaming mem_ofEvents->a18,Good->as1
open Go.Conc.Goes renaming stop->a6_,cases->ad2,rely->ar9
open Go.Conc.Lib renaming WgLink->an8,WgLib->ao5
open Go.Conc.QuitsD renaming ctl->au9
open Go.ConcN renaming RW->at1
open Go.ConcN.Gen renaming doneN->au8
open Go.ConcN.Gen.WgLive renaming cell0->a67
open Go.ConcN.RW renaming refl->a56,trans->av3
open Go.ConcR renaming Payload->ac0
open Go.ConcR.Gen renaming nm_done->at5
open Go.Conv renaming bytesToString->an6,runesToString->an7
open Go.Deferred renaming ofValue->ab9
open Go.Frame renaming enter->vd,finish_atR->a21,eval_atR->a49,round->a9_,atR->aj1,atR_of_none->ao4,oper?->as7
open Go.GStep renaming after->a54,go->av7
open Go.Instr renaming fieldAt->eq,buildSlice->sf,build->uu,sliceBounds->a0_,sliceBound->a03,loadAt->a04,alloc->a06,sliceAt->a10,sureAddr->a5_,slice->a53,getLoop->a8_,enterLoop->a81,makeSlice->a94,endLoop->aa_,endRound->aa4,takeDeferred->aa5,storeAt->ab2,beginRound->ab8,yield->ac2,indexAt->ae7,index->af6,extract->an4,box->ar7,field->as9
open Go.IntKind renaming i64->ul,wrap_i64->vv,u64->a07,u32->a13,wrap_u64->a52
open Go.Item renaming code->aj0
open Go.MemAct renaming ofEvent->a2_,touch?->a33,access->ab4
open Go.MemOp renaming ofEvents->a25
open Go.Mode renaming atomic->as6,plain->au7
open Go.Next renaming value->af3,skip->av5
open Go.Obj renaming isChan->ak2
open Go.Op renaming intDiv->ar8,eqGuardIn->as0,unary->as5,intArith->as8
open Go.Question renaming forced->aq1,cut->as_
open Go.Region renaming wanted->ug,linearise->a15,ready->a17,binds->a88,schedule->a93,Mode->am_
open Go.Result renaming andThen_ok->ao6
open Go.RowKit.Below renaming refl->gz
open Go.Sem renaming runT_eq->a12,bind->a30,runT->a44,run_bind->a80,runT_fst->a98,runT_bind'->af7,run->af9
open Go.World renaming cell?->uw,setCell->IT,frozen?->a08,freeze->ad6,shape?->ah9,setRow->ak3
open Int renaming natCast_pow->uW,natCast_mul->a63,emod_eq_of_lt->ai5,not_lt->av_
open List renaming getElem?_eq_getElem->fj,getElem?_eq_some_iff->gt,mem_of_getElem?->gv,range->gU,replicate->nB,setIfInBounds_toArray->AI,getElem?_toArray->AS,size_toArray->AT,lookup->IN,set_append_right->a16,all_eq_true->a22,map_append->a37,append_assoc->a39,mem_cons->a42,mem_toArray->a46,not_mem_nil->a47,drop_eq_getElem_cons->a55,mem_range->a60,mem_singleton->a61,map_cons->aa0,mem_map->ad8,ext_getElem->ae0,mem_filter->ah3,reverse_singleton->ak1,singleton_append->al3,drop_length->ap6
open Nat renaming le_refl->dv,lt_of_lt_of_le->fi,zero_add->gT,zero_le->a00,le_trans->a05,not_lt_zero->a35,le_of_not_lt->aa2,div_div_eq_div_mul->ag0,le_antisymm->ah4,mod_lt->ak0,add_zero->ao7
open Ne renaming symm->a19
open Option renaming map_eq_some_iff->IS,map_some->No,getD_some->a14,bind_some->a51
open UInt8 renaming ofNat->a57
set_option linter.all false
open Go.Proofs.Tryz
open Go
variable{A RO S V V' V0:Nat->Prop}{B N Wg b cp g i j k l m n r:Nat}{F fx:List (Nat×Value)}{Goal:Goroutine->World->Prop}{K k':List Item}{P:Program}{T9 R:Value->World->Prop}{a:Act}{ad:Addr}{args first:Array Value}{ca:Code}{cs:List Frame}{d:Tmp}{df ds:List Deferred}{es:Array Event}{ev:Operand->Value}{f:FuncId}{fn:Func}{fr:Frame}{g':Goroutine}{gd:Option (Nat×Bool)}{listen:Bool}{o:Oper}{ops:Array Oper}{p:Op}{rest:List Nat}{s:ByteArray}{tt ty:TypeId}{v:Value}{w w' Tm w0 w1 wL wR Tq SU:World}{x y z:Operand}
namespace Go
abbrev Value.pk(b k:Nat):Value:=.pointer (some ⟨b,k,none⟩)
abbrev Value.sk(b n c:Nat):Value:=.slice (some ⟨b,0,none⟩) n c
end Go
namespace Go.Proofs.YtkmoglhgkcnalaaGreatDoor
open Go Go.RowKit
abbrev Bw(w w':World):Prop:=Below w.heap.size w w'
theorem k_{p:Prop}(h:p:=by kernel_rfl):p:=h
theorem o_{p:Prop}(h:p:=by omega):p:=h
theorem d_{p:Prop}(h:p:=by decide):p:=h
theorem s_{p:Prop}(h:p:=by simp):p:=h
end Go.Proofs.YtkmoglhgkcnalaaGreatDoor
namespace Go.Proofs.YtkmoglhgkcnalaaGreatDoor
open Go Go.Conc Go.RowKit
structure fe where
 tree:ByteArray
 chains:ByteArray
 id:ByteArray
 root:ByteArray
 height:Int
 width:Int
 count:Nat
 shift:Int
 q:Int
 salt:ByteArray
 links:ByteArray
 path:ByteArray
def fe.cells(s:fe):Array Value:=#[.string s.tree,.string s.chains,.string s.id,.string s.root,.int .i64 s.height,.int .i64 s.width,.int .i64 s.count,.int .i64 s.shift,.int .i64 s.q,.string s.salt,.string s.links,.string s.path]
def Yl(P:Program)(ev:Operand->Value)(o:Oper)(w:World)(v:Value)(es:Array Event):Prop:=(execOp ev o).run P w=.ok (.value v) w/\(execOp ev o).events P w #[]=es
section
variable{s:fe}
theorem ar{cs:Array Value}{t:TypeId}(h:w.heap[b]?=some (.cells cs t))(k:Nat):w.cell? ⟨b,k,none⟩=cs[k]?:=by
 unfold uw;simp[h]
theorem cT(P:Program)(SS:o.op=.move x\/o.op=.assign x):Yl P ev o w (ev x) #[]:=by
 rcases SS with h|h<;>constructor<;>simp[execOp,h]
theorem ee(P:Program){f:Fn}{cap:Array Operand}(SS:o.op=.makeFunc f #[] cap):Yl P ev o w (.func f #[] (cap.map ev)) #[]:=by
 constructor<;>simp[execOp,SS,Instr.makeFunc]
def yz(P:Program)(t:TypeId):Prop:=∀w:World,(isAgg t).run P w=.ok false w/\(isAgg t).events P w #[]=#[]
theorem aC:yz prog 3:=λw=>⟨by kernel_rfl,by kernel_rfl⟩
theorem bU:yz prog 9:=λw=>⟨by kernel_rfl,by kernel_rfl⟩
theorem nQ:yz prog 24:=λw=>⟨by kernel_rfl,by kernel_rfl⟩
theorem pN:yz prog 43:=λw=>⟨by kernel_rfl,by kernel_rfl⟩
theorem av{t:TypeId}(ht:yz prog t)(SS:o.op=.load t x)(hx:ev x=.pointer (some ad))(h:w.cell? ad=some v):Yl prog ev o w v #[⟨.cell ad,false,false⟩]:=by
 obtain⟨h1,h2⟩:=ht w;constructor
 .simp[execOp,SS,hx,a04,loadVar,h1,h,go_sem]
 .simp[execOp,SS,hx,a04,loadVar,h1,h2,h,go_sem]
def nH(b:Nat):Array Event:=#[⟨.cell ⟨b,0,none⟩,false,false⟩,⟨.cell ⟨b,1,none⟩,false,false⟩,⟨.cell ⟨b,2,none⟩,false,false⟩,⟨.cell ⟨b,3,none⟩,false,false⟩,⟨.cell ⟨b,4,none⟩,false,false⟩,⟨.cell ⟨b,5,none⟩,false,false⟩,
 ⟨.cell ⟨b,6,none⟩,false,false⟩,⟨.cell ⟨b,7,none⟩,false,false⟩,⟨.cell ⟨b,8,none⟩,false,false⟩,⟨.cell ⟨b,9,none⟩,false,false⟩,⟨.cell ⟨b,10,none⟩,false,false⟩,⟨.cell ⟨b,11,none⟩,false,false⟩]
theorem za{e:Event}(h:e∈nH b):∃k,e=⟨.cell ⟨b,k,none⟩,false,false⟩:=by
 simp only[nH,a46,a42,a47,or_false]at h;rcases h with rfl|rfl|rfl|rfl|rfl|rfl|rfl|rfl|rfl|rfl|rfl|rfl<;>exact⟨_,rfl⟩
theorem kV{ex:Array Value}(SS:o.op=.load 119 x)(hx:ev x=.pk b 0)(h:w.heap[b]?=some (.cells (s.cells++ex) 119)):Yl prog ev o w (.agg s.cells) (nH b):=by
 have h1:(isAgg 119).run prog w=.ok true w:=by kernel_rfl
 have h2:(isAgg 119).events prog w #[]=#[]:=by kernel_rfl
 have hc:∀k,k<12->w.cell? ⟨b,k,none⟩=s.cells[k]?:=λk hk=>(ar h k).trans (a48 hk);have q0:w.cell? ⟨b,0,none⟩=some (.string s.tree):=hc 0 d_;have q1:w.cell? ⟨b,1,none⟩=some (.string s.chains):=hc 1 d_;have q2:w.cell? ⟨b,2,none⟩=some (.string s.id):=hc 2 d_;have q3:w.cell? ⟨b,3,none⟩=some (.string s.root):=hc 3 d_;have q4:w.cell? ⟨b,4,none⟩=some (.int .i64 s.height):=hc 4 d_;have q5:w.cell? ⟨b,5,none⟩=some (.int .i64 s.width):=hc 5 d_;have q6:w.cell? ⟨b,6,none⟩=some (.int .i64 s.count):=hc 6 d_;have q7:w.cell? ⟨b,7,none⟩=some (.int .i64 s.shift):=hc 7 d_;have q8:w.cell? ⟨b,8,none⟩=some (.int .i64 s.q):=hc 8 d_;have q9:w.cell? ⟨b,9,none⟩=some (.string s.salt):=hc 9 d_;have q10:w.cell? ⟨b,10,none⟩=some (.string s.links):=hc 10 d_;have q11:w.cell? ⟨b,11,none⟩=some (.string s.path):=hc 11 d_;constructor
 .simp[execOp,SS,hx,a04,loadVar,h1,loadCells,loadCellsFrom,a71,q0,q1,q2,q3,q4,q5,q6,q7,q8,q9,q10,q11,fe.cells,go_sem]
 .simp[execOp,SS,hx,a04,loadVar,h1,h2,loadCells,loadCellsFrom,a71,q0,q1,q2,q3,q4,q5,q6,q7,q8,q9,q10,q11,nH,go_sem]
theorem Ek(SS:o.op=.fieldAddr 119 x 0)(hx:ev x=.pk b k):Yl prog ev o w (.pk b k) #[]:=by
 have e:execOp ev o=(do pure (.value (←eq 119 (.pk b k) 0))):=by simp only[execOp,SS,hx]
 unfold Yl;rw[e];constructor<;>kernel_rfl
theorem wn(SS:o.op=.fieldAddr 115 x 6)(hx:ev x=.pk b 0):Yl prog ev o w (.pk b 6) #[]:=by
 have e:execOp ev o=(do pure (.value (←eq 115 (.pk b 0) 6))):=by simp only[execOp,SS,hx]
 unfold Yl;rw[e];constructor<;>kernel_rfl
theorem Ej(SS:o.op=.fieldAddr 119 x 3)(hx:ev x=.pk b 0):Yl prog ev o w (.pk b 10) #[]:=by
 have e:execOp ev o=(do pure (.value (←eq 119 (.pk b 0) 3))):=by simp only[execOp,SS,hx]
 unfold Yl;rw[e];constructor<;>kernel_rfl
theorem ii{u:TypeId}{m n:Int}(SS:o.op=.binOp .lss 3 x y u)(hx:ev x=.int .i64 m)(hy:ev y=.int .i64 n):Yl prog ev o w (.bool (decide (m<n))) #[]:=by
 constructor<;>simp[execOp,SS,hx,hy,go_sem]
theorem ra{u:TypeId}{m n:Int}(SS:o.op=.binOp .add 3 x y u)(hx:ev x=.int .i64 m)(hy:ev y=.int .i64 n)(h: -9223372036854775808<=m+n/\m+n<9223372036854775808):Yl prog ev o w (.int .i64 (m+n)) #[]:=by
 have e:ul.wrap (m+n)=m+n:=by rw[vv];omega
 constructor<;>simp[execOp,SS,hx,hy,go_sem,e]
theorem q_{u:TypeId}{m n:Int}(SS:o.op=.binOp .mul 3 x y u)(hx:ev x=.int .i64 m)(hy:ev y=.int .i64 n)(h: -9223372036854775808<=m*n/\m*n<9223372036854775808):Yl prog ev o w (.int .i64 (m*n)) #[]:=by
 have e:ul.wrap (m*n)=m*n:=by rw[vv];omega
 constructor<;>simp[execOp,SS,hx,hy,go_sem,e]
theorem Ei{q:Bool}{t:TypeId}(SS:o.op=.unOp .not t x)(hx:ev x=.bool q):Yl prog ev o w (.bool (!q)) #[]:=by
 constructor<;>simp[execOp,SS,hx,go_sem,as5]
theorem eE{t:ByteArray}(SS:o.op=.slice 9 x (some y) (some z) none)(hx:ev x=.string t)(hy:ev y=.int .i64 m)(hz:ev z=.int .i64 n)(h:m<=n)(h':n<=t.size):Yl prog ev o w (.string (t.extract m n)) #[]:=by
 have hu:prog.underlying 9=some .string:=by kernel_rfl
 constructor
 .simp[execOp,SS,hx,hy,hz,a10,a53,a0_,run_underlying hu,a03,asIntOf,h,h']
 .simp[execOp,SS,hx,hy,hz,a10,a53,a0_,run_underlying hu,a03,asIntOf,h,h',go_sem]
theorem bR{t e:TypeId}{a:Addr}{len cap:Nat}(ht:prog.underlying t=some (.slice e))(he:∀w:World,(sizeOf e).run prog w=.ok 1 w)(SS:o.op=.indexAddr t x y)(hx:ev x=.slice (some a) len cap)(hy:ev y=.int .i64 n)(hn:n<len):
 Yl prog ev o w (.pointer (some (a.add n))) #[]:=by
 have h1:=he w;constructor<;>simp[execOp,SS,hx,hy,go_sem,ht,h1,hn]
def Mk(P:Program)(ev:Operand->Value)(o:Oper)(w:World)(cs:Array Value)(t:TypeId):Prop:=(execOp ev o).run P w=.ok (.value (.pk w.heap.size 0)) (w.alloc (.cells cs t))/\(execOp ev o).events P w #[]=#[]
theorem rY(P:Program){t:TypeId}(SS:o.op=.box t x):Mk P ev o w (ev x).cells t:=by
 constructor<;>simp[execOp,SS,ar7,newVar,newRow,go_sem]
theorem kE(SS:o.op=.alloc 3):Mk prog ev o w #[.int .i64 0] 3:=by
 have e:execOp ev o=(do pure (.value (←a06 3 true (.tuple #[])))):=by simp only[execOp,SS]
 unfold Mk;rw[e];constructor<;>kernel_rfl
theorem kh(SS:o.op=.alloc 43):Mk prog ev o w #[.slice none 0 0] 43:=by
 have e:execOp ev o=(do pure (.value (←a06 43 true (.tuple #[])))):=by simp only[execOp,SS]
 unfold Mk;rw[e];constructor<;>kernel_rfl
theorem dC{t:TypeId}{v0:Value}(hv:v.cells=#[v])(TS:v.oneCell'=true)(ht:(sizeOf t).run prog w=.ok 1 w)(SS:o.op=.store t x y)(hx:ev x=.pk b k)(hy:ev y=v)(h:w.cell? ⟨b,k,none⟩=some v0)(hf:w.frozen? ⟨b,k,none⟩=false):
 (execOp ev o).run prog w=.ok .skip (w.setCell ⟨b,k,none⟩ v)/\(execOp ev o).events prog w #[]=#[⟨.cell ⟨b,k,none⟩,true,false⟩]:=by
 have e:execOp ev o=(do ab2 t (.pk b k) v;pure .skip):=by simp only[execOp,SS,hx,hy]
 rw[e];simp only[ab2,storeVar,hv];constructor
 .simp[ht,storeCells,a71,run_store _ _ _ _ _ TS,h,hf,go_sem]
 .simp[ht,storeCells,a71,events_store (hv:=TS),h,hf,go_sem]
end

end Go.Proofs.YtkmoglhgkcnalaaGreatDoor
namespace Go.Value
abbrev pt(b:Nat):Value:=.pk b 0

end Go.Value
namespace Go.Proofs.YtkmoglhgkcnalaaGreatDoor
open Go Go.RowKit


end Go.Proofs.YtkmoglhgkcnalaaGreatDoor
namespace Go.Proofs.YtkmoglhgkcnalaaGreatDoor
open Go
def il:Obj->Bool
 | .view _ _| .pending _ _| .chan ..| .coro _| .finalizers _ _=>false
 |_=>true
def i1:Mark->Bool
 | .extern _| .noRoom=>true
 |_=>false
def xz:Halt->Bool
 | .panic _=>true
 |_=>false
def uY{α:Type}:Result α->World
 | .ok _ w| .halt _ w=>w
def se{α:Type}:Result α->Bool
 | .ok _ _=>true
 | .halt h _=>xz h
def EF{α:Type}(w:World):Result α->Result α
 | .ok a _=>.ok a w
 | .halt h _=>.halt h w
inductive aM (P:Program) {α:Type}:Sem α->Prop
 |pure (a:α):aM P (.pure a)
 |load {a:Addr} {k:Value->Sem α} (h:∀v,aM P (k v)):aM P (.load .plain a k)
 |store {a:Addr} {v:Value} {k:Sem α} (h:aM P k):aM P (.store .plain a v k)
 |new {o:Obj} {k:Nat->Sem α} (ho:il o=true) (h:∀b,aM P (k b)):aM P (.new o k)
 |getObj {r:Nat} {k:Obj->Sem α} (h:∀o,il o=true->aM P (k o)):aM P (.getObj r k)
 |setObj {r:Nat} {o:Obj} {k:Sem α} (ho:il o=true) (h:aM P k):aM P (.setObj r o k)
 |choose {q:Question} {k:Nat->Sem α} (h:∀n,aM P (k n)):aM P (.choose q k)
 |program {k:Program->Sem α} (h:aM P (k P)):aM P (.program k)
 |mark {m:Mark} {k:Sem α} (hm:i1 m=true) (h:aM P k):aM P (.mark m k)
 |halt (h:Halt):aM P (.halt h)
 |dead {s:Sem α} (h:∀w,se (s.run P w)=false):aM P s
 |eqv {s s':Sem α} (h:∀w es,s.runT P w es=s'.runT P w es) (h':aM P s'):aM P s
theorem aM.bind{α β:Type}{s:Sem α}{k:α->Sem β}(h:aM P s)(hk:∀a,aM P (k a)):aM P (s>>=k):=by
 show aM P (s.bind k);induction h with
 |pure a=>exact hk a
 |load _ ih=>exact .load ih
 |store _ ih=>exact .store ih
 |new ho _ ih=>exact .new ho ih
 |getObj _ ih=>exact .getObj ih
 |setObj ho _ ih=>exact .setObj ho ih
 |choose _ ih=>exact .choose ih
 |program _ ih=>exact .program ih
 |mark hm _ ih=>exact .mark hm ih
 |halt h=>exact .halt h
 | @dead s h=>
   refine .dead λw=>?_;have hw:=h w;rw[show s.bind k=s>>=k from rfl,a80];cases hr:s.run P w with
   |ok a w'=>rw[hr]at hw;cases hw
   |halt x w'=>rw[hr]at hw;exact hw
 | @eqv s s' h _ ih=>
   refine .eqv (λw es=>?_) ih;rw[af7,af7,h]
structure Vw (V RO:Nat->Prop) (wL wR:World):Prop where
 size:wL.heap.size<=wR.heap.size
 low:∀b,V b->b<wL.heap.size
 mine:∀b,V b->wL.heap[b]?=wR.heap[b]?
 calm:∀b o,V b->wL.heap[b]?=some o->il o=true
 ro:∀b,RO b->¬V b->b<wL.heap.size->∃c e z,wR.heap[b]?=some (.cells c e z)/\wL.heap[b]?=some (.cells c e (0,c.size))
 dead:∀b,b<wL.heap.size->¬V b->¬RO b->∃e z,wL.heap[b]?=some (.cells #[] e z)
 tape:wL.tape=wR.tape
def grown(V:Nat->Prop)(w w':World)(b:Nat):Prop:=V b\/(w.heap.size<=b/\b<w'.heap.size)
def e_(V RO:Nat->Prop)(e:Event):Prop:=
 match e.loc with
 | .cell a=>e.sync=false/\(V a.block\/(RO a.block/\e.write=false))
 | .obj b=>e.sync=false/\V b
 | .mark m=>i1 m=true
 |_=>False
theorem e_.mono{e:Event}(h:e_ V RO e)(hv:∀b,V b->V' b):e_ V' RO e:=by
 unfold e_ at*;split at h<;>simp_all;exact h.2.imp (hv _) id
theorem dW(V:Nat->Prop)(h:w'.heap.size=w.heap.size):grown V w w'=V:=by
 funext b
 exact propext ⟨λx=>x.elim id λx=>absurd x.2 o_,.inl⟩
theorem xE{w2:World}(h:w.heap.size<=w1.heap.size)(h':w1.heap.size<=w2.heap.size):grown (grown V w w1) w1 w2=grown V w w2:=by
 funext b
 unfold grown;refine propext ⟨λx=>?_,λx=>?_⟩
 .rcases x with(x|x)|x
  .exact .inl x
  .exact .inr ⟨x.1,by omega⟩
  .exact .inr ⟨by omega,x.2⟩
 .rcases x with x|x
  .exact .inl (.inl x)
  .by_cases hb:b<w1.heap.size
   .exact .inl (.inr ⟨x.1,hb⟩)
   .exact .inr ⟨by omega,x.2⟩
section
variable{a:Addr}
theorem i6(h:w.cell? a=some v):∃c e f,w.heap[a.block]?=some (.cells c e f)/\a.spot=none/\c[a.off]?=some v:=by
 unfold uw at h;split at h
 .rename_i c e f hb;split at h
  .cases h
  .rename_i hs;exact⟨c,e,f,hb,by cases hq:a.spot with|none=>rfl|some _=>simp[hq]at hs,h⟩
 .cases h
theorem Vw.cell(h:Vw V RO wL wR)(hc:wL.cell? a=some v):wR.cell? a=some v/\(V a.block\/(RO a.block/\wL.frozen? a=true)):=by
 obtain⟨c,e,f,hb,hs,hv⟩:=i6 hc;have SX:=(ap.1 hb).1;by_cases hV:V a.block
 .refine⟨?_,.inl hV⟩;rw[←hc];unfold uw;rw[h.mine _ hV]
 .by_cases hR:RO a.block
  .obtain⟨c',e',z,h1,h2⟩:=h.ro _ hR hV SX;rw[h2]at hb;injection hb with hb;injection hb with q1 q2 q3;subst q1;have hoff:=(ap.1 hv).1;refine⟨?_,.inr ⟨hR,?_⟩⟩
   .unfold uw;simp[h1,hs,hv]
   .unfold a08;simp[h2,hoff]
  .obtain⟨e',z,h2⟩:=h.dead _ SX hV hR;rw[h2]at hb;injection hb with hb;injection hb with q1;subst q1;simp at hv
theorem Vw.far(h:Vw V RO wL wR)(P:Program)(q:Bool):(∃x,wL.farLoad P a q=.error x/\xz x=false)/\∀u,∃x,wL.farStore P a u q=.error x/\xz x=false:=by
 have hn:∀s,xz (wL.noCell a s)=false:=λs=>by unfold World.noCell;split<;>rfl
 have hv:∀x t,wL.heap[a.block]?≠some (.view x t):=λx t hb=>by
  have SX:=(ap.1 hb).1;by_cases hV:V a.block
  .cases h.calm _ _ hV hb
  .by_cases hR:RO a.block
   .obtain⟨c',e',z,h1,h2⟩:=h.ro _ hR hV SX;rw[h2]at hb;cases hb
   .obtain⟨e',z,h2⟩:=h.dead _ SX hV hR;rw[h2]at hb;cases hb
 constructor
 .refine⟨_,?_,hn "load: no such cell"⟩;unfold World.farLoad;split
  .rename_i x t hb;exact absurd hb (hv x t)
  .rfl
 .intro u;refine⟨_,?_,hn "store: no such cell"⟩;unfold World.farStore;split
  .rename_i x t hb;exact absurd hb (hv x t)
  .rfl
theorem Vw.obj(h:Vw V RO wL wR){o:Obj}(hb:wL.heap[r]?=some o)(hn:∀c e f,o≠ .cells c e f):V r:=by
 have SX:=(ap.1 hb).1;by_cases hV:V r
 .exact hV
 .by_cases hR:RO r
  .obtain⟨c',e',z,h1,h2⟩:=h.ro _ hR hV SX;rw[h2]at hb;injection hb with hb;exact absurd hb.symm (hn _ _ _)
  .obtain⟨e',z,h2⟩:=h.dead _ SX hV hR;rw[h2]at hb;injection hb with hb;exact absurd hb.symm (hn _ _ _)
theorem Vw.set(h:Vw V RO wL wR)(hr:V r)(f:Obj->Obj)(hf:∀o,wL.heap[r]?=some o->il (f o)=true){Vs:World}(hL:Vs.heap=wL.heap.modify r f)(hR:Tq.heap=wR.heap.modify r f)(htL:Vs.tape=wL.tape)(htR:Tq.tape=wR.tape):Vw V RO Vs Tq:=by
 have ne:∀{l:Array Obj} {b:Nat},r≠b->(l.modify r f)[b]?=l[b]?:=λhb=>by rw[By];simp[hb]
 have sz:Vs.heap.size=wL.heap.size:=by rw[hL];simp
 have nb:∀{b:Nat},¬V b->r≠b:=λhb e=>hb (e▸hr);refine⟨by rw[sz,hR];simpa using h.size,λb hb=>by rw[sz];exact h.low b hb,λb hb=>?_,λb o hb ho=>?_,λb h1 h2 h3=>?_,λb h1 h2 h3=>?_,by rw[htL,htR];exact h.tape⟩
 .rw[hL,hR,By,By,h.mine b hb]
 .rw[hL,By]at ho;split at ho
  .rename_i e;subst e;obtain⟨x,hx,rfl⟩:=IS.1 ho;exact hf x hx
  .exact h.calm b o hb ho
 .rw[sz]at h3;rw[hL,hR,ne (nb h2),ne (nb h2)];exact h.ro b h1 h2 h3
 .rw[sz]at h1;rw[hL,ne (nb h2)];exact h.dead b h1 h2 h3
theorem Vw.push(h:Vw V RO wL wR)(he:wL.heap.size=wR.heap.size){o:Obj}(ho:il o=true):Vw (grown V wL {wL with heap:=wL.heap.push o}) RO {wL with heap:=wL.heap.push o} {wR with heap:=wR.heap.push o}:=by
 rw[show grown V wL {wL with heap:=wL.heap.push o}=λb=>V b\/b=wL.heap.size from funext λb=>propext ⟨.imp id λh=>by have:=h.2;simp at this;omega,.imp id λh=>by subst h;simp⟩];have old:∀{l:Array Obj} {b:Nat},b<l.size->(l.push o)[b]?=l[b]?:=λhb=>by rw[ak_ hb,hF hb]
 refine⟨by simpa using h.size,λb hb=>?_,λb hb=>?_,λb x hb hx=>?_,λb h1 h2 h3=>?_,λb h1 h2 h3=>?_,h.tape⟩
 .rcases hb with hb|rfl
  .have:=h.low b hb;simp;omega
  .simp
 .rcases hb with hb|rfl
  .have:=h.low b hb;show(wL.heap.push o)[b]?=(wR.heap.push o)[b]?;rw[old this,old o_];exact h.mine b hb
  .show(wL.heap.push o)[wL.heap.size]?=(wR.heap.push o)[wL.heap.size]?;rw[ae6,he,ae6]
 .rcases hb with hb|rfl
  .have SX:=h.low b hb;rw[show({wL with heap:=wL.heap.push o}:World).heap=wL.heap.push o from rfl,old SX]at hx;exact h.calm b x hb hx
  .rw[show({wL with heap:=wL.heap.push o}:World).heap=wL.heap.push o from rfl,ae6]at hx;cases hx;exact ho
 .have T2:¬V b/\b≠wL.heap.size:=by simpa using h2
  have SX:b<wL.heap.size:=by simp at h3;omega
  show∃c e z,(wR.heap.push o)[b]?=_/\(wL.heap.push o)[b]?=_;rw[old SX,old o_];exact h.ro b h1 T2.1 SX
 .have T2:¬V b/\b≠wL.heap.size:=by simpa using h2
  have SX:b<wL.heap.size:=by simp at h1;omega
  show∃e z,(wL.heap.push o)[b]?=_;rw[old SX];exact h.dead b SX T2.1 h3
end
def MN:Value->Bool
 | .agg _| .tuple _=>false
 |_=>true
theorem rA{α:Type}{p:Program}{m:Mode}{a:Addr}{k:Sem α}(hv:MN v=true):(Sem.store m a v k).runT p w es=match w.cell? a with
 |some _=>if w.frozen? a then(.halt (.unsupported (.unsafePointer "a write to bytes that a string shares")) w,es)else k.runT p (w.setCell a v) (es.push ⟨.cell a,true,m== .atomic⟩)
 |none=>match w.farStore p a v (m== .atomic)with
  | .ok (w,Yx)=>k.runT p w (es++Yx.toArray.map (⟨.cell ·,true,m== .atomic⟩))
  | .error h=>(.halt h w,es):=by
 cases v<;>simp[MN]at hv<;>rfl
theorem Vw.self(h:Vw V RO wL wR):Vw (λb=>b<wL.heap.size) (λ_=>False) wL wL:=by
 refine⟨dv _,λ_=>id,λ_ _=>rfl,λb o hb ho=>?_,λ_ x=>x.elim,λb hb x=>absurd hb x,rfl⟩;by_cases hV:V b
 .exact h.calm b o hV ho
 .by_cases hR:RO b
  .obtain⟨_,_,_,_,h2⟩:=h.ro b hR hV hb;rw[h2]at ho;cases ho;rfl
  .obtain⟨_,_,h2⟩:=h.dead b hb hV hR;rw[h2]at ho;cases ho;rfl
structure qg (V RO:Nat->Prop) (wL Vs wR Tq:World) (es Ty:Array Event):Prop where
 vw:Vw (grown V wL Vs) RO Vs Tq
 keep:∀b,b<wR.heap.size->¬V b->Tq.heap[b]?=wR.heap[b]?
 mono:wL.heap.size<=Vs.heap.size/\wL.drawn<=Vs.drawn
 more:Tq.heap.size+wL.heap.size=wR.heap.size+Vs.heap.size
 drew:Tq.drawn+wL.drawn=wR.drawn+Vs.drawn
 os:Tq.os=wR.os
 output:Tq.output=wR.output
 tape:Tq.tape=wR.tape
 ev:∀e∈Ty,e∈es\/e_ (grown V wL Vs) RO e
theorem qg.trans{Vs w2:World}{e1 Ty:Array Event}(hal:wL.heap.size=wR.heap.size\/w1.heap.size=wL.heap.size)(h:qg V RO wL w1 wR w2 es e1)(h':qg (grown V wL w1) RO w1 Vs w2 Tq e1 Ty):qg V RO wL Vs wR Tq es Ty:=by
 have g:=xE (V:=V) h.mono.1 h'.mono.1;have m:=h.mono;have m':=h'.mono;have l:=h.more;refine⟨g▸h'.vw,λb hb hn=>?_,by omega,by have:=h'.more;omega,by have:=h.drew;have:=h'.drew;omega,h'.os.trans h.os,h'.output.trans h.output,h'.tape.trans h.tape,λe he=>?_⟩
 .refine(h'.keep b o_ λx=>?_).trans (h.keep b hb hn);rcases x with x|x
  .exact hn x
  .omega
 .rcases h'.ev e he with x|x
  .exact(h.ev e x).imp id λx=>x.mono λb hb=>hb.imp id λhb=>⟨hb.1,by omega⟩
  .exact .inr (g▸x)
theorem qg.still(es:Array Event)(h:Vw V RO wL wR):qg V RO wL wL wR wR es es:=⟨by rw[dW _ rfl];exact h,λ_ _ _=>rfl,⟨dv _,dv _⟩,rfl,rfl,rfl,rfl,rfl,λe he=>.inl he⟩
theorem qg.set{Vs:World}(h:Vw V RO wL wR)(hr:V r)(f:Obj->Obj)(hf:∀o,wL.heap[r]?=some o->il (f o)=true)(hL:Vs={wL with heap:=wL.heap.modify r f})(hR:Tq={wR with heap:=wR.heap.modify r f}){e:Event}(he:e_ V RO e):qg V RO wL Vs wR Tq es (es.push e):=by
 subst hL hR;have sz:({wL with heap:=wL.heap.modify r f}:World).heap.size=wL.heap.size:=by simp
 refine⟨?_,λb _ hn=>?_,⟨by simp,dv _⟩,by simp,rfl,rfl,rfl,rfl,λx hx=>?_⟩
 .rw[dW _ sz];exact h.set hr f hf rfl rfl rfl rfl
 .have:r≠b:=λe=>hn (e▸hr);simp[By,this]
 .rw[dW _ sz];rcases ad1.1 hx with hx|rfl
  .exact .inl hx
  .exact .inr he
theorem mq{o:Obj}:w.heap.setIfInBounds r o=w.heap.modify r λ_=>o:=by
 apply aj_
 .simp
 .intro i h1 h2;simp only[Array.getElem_setIfInBounds (by simpa using h1),al8]
theorem SI{α:Type}{s:Sem α}(hf:aM P s):∀{V RO:Nat->Prop} {wL wR:World} {es Ty:Array Event} {r:Result α},Vw V RO wL wR->s.runT P wL es=(r,Ty)->se r=true->(wL.heap.size=wR.heap.size\/(uY r).heap.size=wL.heap.size)->(wL.drawn=wR.drawn\/(uY r).drawn=wL.drawn)->
 ∃Tq,s.runT P wR es=(EF Tq r,Ty)/\qg V RO wL (uY r) wR Tq es Ty:=by
 induction hf with
 |pure a=>
  intro V RO wL wR es Ty r hv hr _ _ _;cases hr;exact⟨wR,rfl,.still _ hv⟩
 |halt h=>
  intro V RO wL wR es Ty r hv hr _ _ _;cases hr;exact⟨wR,rfl,.still _ hv⟩
 | @load a k _ ih=>
   intro V RO wL wR es Ty r hv hr hl ha hd;simp only[a44]at hr⊢;cases hc:wL.cell? a with
   |none=>
    obtain⟨x,h1,h2⟩:=(hv.far P (a:=a) (q:=false)).1;rw[hc]at hr;rw[show(au7==as6)=false from rfl,h1]at hr;cases hr;rw[se,h2]at hl;cases hl
   |some v=>
    obtain⟨h1,h2⟩:=hv.cell hc;rw[hc]at hr;rw[h1];obtain⟨Tq,q1,q2⟩:=ih v hv hr hl ha hd;refine⟨Tq,q1,{q2 with ev:=λe he=>?_}⟩;rcases q2.ev e he with x|x
    .rcases ad1.1 x with x|rfl
     .exact .inl x
     .exact .inr ⟨rfl,h2.imp .inl λh=>⟨h.1,rfl⟩⟩
    .exact .inr x
 | @store a v k _ ih=>
   intro V RO wL wR es Ty r hv hr hl ha hd;have We:MN v=true:=by
    cases v<;>first|rfl|(simp only[a44]at hr;cases hr;cases hl)
   rw[rA We]at hr⊢;cases hc:wL.cell? a with
   |none=>
    obtain⟨x,h1,h2⟩:=(hv.far P (a:=a) (q:=false)).2 v;rw[hc]at hr;rw[show(au7==as6)=false from rfl]at hr;dsimp only at hr;rw[h1]at hr;cases hr;rw[se,h2]at hl;cases hl
   |some u=>
    obtain⟨h1,h2⟩:=hv.cell hc;rw[hc]at hr;rw[h1];dsimp only at hr⊢;cases hz:wL.frozen? a with
    |true=>rw[hz]at hr;cases hr;cases hl
    |false=>
     rw[hz]at hr;have hV:V a.block:=h2.elim id λh=>by rw[hz]at h;cases h.2
     have hzR:wR.frozen? a=false:=by
      rw[←hz];unfold a08;rw[hv.mine _ hV]
     rw[hzR];have hD:qg V RO wL (wL.setCell a v) wR (wR.setCell a v) es (es.push ⟨.cell a,true,false⟩):=by
      refine qg.set hv hV _ (λo ho=>?_) rfl rfl ⟨rfl,.inl hV⟩;have:=hv.calm _ _ hV ho;cases o<;>first|rfl|exact this
     have sz:(wL.setCell a v).heap.size=wL.heap.size:=(by simp[IT]);have szR:(wR.setCell a v).heap.size=wR.heap.size:=(by simp[IT]);have U3:=hD.vw;rw[dW _ sz]at U3;obtain⟨Tq,q1,q2⟩:=ih U3 hr hl (by rw[sz,szR];exact ha) hd;refine⟨Tq,q1,hD.trans (.inr sz) ?_⟩;rw[dW _ sz];exact q2
 | @new o k ho _ ih=>
   intro V RO wL wR es Ty r hv hr hl ha hd;have hself:=hv.self.push rfl ho;obtain⟨_,_,m⟩:=ih _ hself hr hl (.inl rfl) (.inl rfl);have hm:=m.mono.1;simp only[a92]at hm;have he:wL.heap.size=wR.heap.size:=ha.elim id λh=>by omega
   have hp:=hv.push he ho;rw[a44]at hr⊢;rw[←he];obtain⟨Tq,q1,q2⟩:=ih wL.heap.size hp hr hl (.inl (by simp[he])) hd;refine⟨Tq,q1,qg.trans (w1:={wL with heap:=wL.heap.push o}) (w2:={wR with heap:=wR.heap.push o}) (e1:=es) (.inl he) ⟨?_,λb hb _=>?_,by simp,by simp;omega,rfl,rfl,rfl,rfl,λe he=>.inl he⟩ ?_⟩
   .exact hp
   .exact ak_ hb▸(hF hb).symm
   .exact q2
 | @getObj r k _ ih=>
   intro V RO wL wR es Ty rr hv hr hl ha hd;simp only[a44]at hr⊢;cases hb:wL.heap[r]? with
   |none=>rw[hb]at hr;cases hr;cases hl
   |some o=>
    rw[hb]at hr;have key:(∀c e f,o≠ .cells c e f)->(k o).runT P wL (es.push ⟨.obj r,false,o.isChan⟩)=(rr,Ty)->∃Tq,(k o).runT P wR (es.push ⟨.obj r,false,o.isChan⟩)=(EF Tq rr,Ty)/\qg V RO wL (uY rr) wR Tq es Ty/\wR.heap[r]?=some o:=λhn hr=>by
     have hV:=hv.obj hb hn;have hq:=hv.calm _ _ hV hb;obtain⟨Tq,q1,q2⟩:=ih o hq hv hr hl ha hd;refine⟨Tq,q1,{q2 with ev:=λe he=>?_},(hv.mine _ hV).symm.trans hb⟩;rcases q2.ev e he with x|x
     .rcases ad1.1 x with x|rfl
      .exact .inl x
      .refine .inr ⟨?_,.inl hV⟩;cases o<;>first|rfl|cases hq
     .exact .inr x
    cases o with
    |cells c e f=>cases hr;cases hl
    |_=>
     obtain⟨Tq,q1,q2,q3⟩:=key (λc e f=>by simp) hr;rw[q3];exact⟨Tq,q1,q2⟩
 | @setObj r o k ho _ ih=>
   intro V RO wL wR es Ty rr hv hr hl ha hd;simp only[a44]at hr⊢;cases hb:wL.heap[r]? with
   |none=>rw[hb]at hr;cases hr;cases hl
   |some x=>
    rw[hb]at hr;have key:(∀c e f,x≠ .cells c e f)->k.runT P {wL with heap:=wL.heap.setIfInBounds r o} (es.push ⟨.obj r,true,o.isChan⟩)=(rr,Ty)->∃Tq,k.runT P {wR with heap:=wR.heap.setIfInBounds r o} (es.push ⟨.obj r,true,o.isChan⟩)=(EF Tq rr,Ty)/\qg V RO wL (uY rr) wR Tq es Ty/\wR.heap[r]?=some x:=λhn hr=>by
     have hV:=hv.obj hb hn;have hD:qg V RO wL {wL with heap:=wL.heap.setIfInBounds r o} wR {wR with heap:=wR.heap.setIfInBounds r o} es (es.push ⟨.obj r,true,o.isChan⟩):=
      qg.set hv hV (λ_=>o) (λ_ _=>ho) (by rw[mq]) (by rw[mq]) ⟨(by cases o<;>first|rfl|cases ho),hV⟩
     have sz:({wL with heap:=wL.heap.setIfInBounds r o}:World).heap.size=wL.heap.size:=(by simp);have U3:=hD.vw;rw[dW _ sz]at U3;obtain⟨Tq,q1,q2⟩:=ih U3 hr hl (by simpa using ha) hd;refine⟨Tq,q1,hD.trans (.inr sz) ?_,(hv.mine _ hV).symm.trans hb⟩;rw[dW _ sz];exact q2
    cases x with
    |cells c e f=>cases hr;cases hl
    |_=>
     obtain⟨Tq,q1,q2,q3⟩:=key (λc e f=>by simp) hr;rw[q3];exact⟨Tq,q1,q2⟩
 | @choose q k _ ih=>
   intro V RO wL wR es Ty r hv hr hl ha hd;simp only[a44]at hr⊢;split at hr
   .rename_i hq;rw[if_pos hq];exact ih _ hv hr hl ha hd
   .rename_i hq;rw[if_neg hq];have up:∀{V RO:Nat->Prop} {w w':World},Vw V RO w w'->Vw V RO {w with drawn:=w.drawn+1} {w' with drawn:=w'.drawn+1}:=λh=>⟨h.size,h.low,h.mine,h.calm,h.ro,h.dead,h.tape⟩;obtain⟨_,_,m⟩:=ih _ (up hv.self) hr hl (.inl rfl) (.inl rfl);have hm:=m.mono.2;dsimp only at hm;have he:wL.drawn=wR.drawn:=hd.elim id λh=>by omega
    have U3:=up hv;have e1:wR.tape wR.drawn q=wL.tape wL.drawn q:=(by rw[hv.tape,he]);rw[e1];obtain⟨Tq,q1,q2⟩:=ih _ U3 hr hl ha (.inl (by dsimp only;omega));refine⟨Tq,q1,⟨q2.vw,q2.keep,⟨q2.mono.1,by omega⟩,q2.more,?_,q2.os,q2.output,q2.tape,q2.ev⟩⟩;have:=q2.drew;dsimp only at this;omega
 |program _ ih=>
  intro V RO wL wR es Ty r hv hr hl ha hd;exact ih hv hr hl ha hd
 | @mark m k hm _ ih=>
   intro V RO wL wR es Ty r hv hr hl ha hd;obtain⟨Tq,q1,q2⟩:=ih hv hr hl ha hd;refine⟨Tq,q1,{q2 with ev:=λe he=>?_}⟩;rcases q2.ev e he with x|x
   .rcases ad1.1 x with x|rfl
    .exact .inl x
    .exact .inr hm
   .exact .inr x
 | @eqv s s' h _ ih=>
   intro V RO wL wR es Ty r hv hr hl ha hd;rw[h]at hr⊢;exact ih hv hr hl ha hd
 | @dead s h=>
   intro V RO wL wR es Ty r hv hr hl ha hd;have:=h wL;rw[a12]at hr;cases hr;rw[hl]at this;cases this

theorem oS{xs:Array Obj}{f:Obj->Obj}(h:k≠i):(xs.modify i f)[k]?=xs[k]?:=by
 rw[By,if_neg (λe=>h e.symm)]
abbrev dj(fr:Frame)(cs:List Frame):Goroutine:={frame:=fr,callers:=cs,status:=.running,dying:=none}
def Ln:Next->Bool
 | .value _| .skip| .enter ..| .round ..=>true
 |_=>false
def kM(P:Program)(fr:Frame)(cs:List Frame):Next->Goroutine
 | .value v=>{frame:=fr.finish v,callers:=cs,status:=.running,dying:=none}
 | .enter f args=>{frame:=vd P f args .normal,callers:=fr::cs,status:=.running,dying:=none}
 | .round l f tmps a b=>{frame:=a9_ l f tmps a b .normal,callers:=fr::cs,status:=.running,dying:=none}
 |_=>{frame:=fr.finish undef,callers:=cs,status:=.running,dying:=none}
def kD(fr:Frame):Prop:=∀d w r s k,fr.todo≠ .call d w r s::k
section
variable{s:Sem Next}
theorem iN(hc:kD fr){n:Next}(hr:s.runT P w #[]=(.ok n w',es))(hn:Ln n=true):
 stepG.apply P true fr cs none s w=.go (kM P fr cs n) w' (seen P fr.fn (if fr.kind== .early then #[]else es)):=by
 have hk:=hc;unfold stepG.apply;simp only[hr,↓reduceIte];cases n with
 |enter f args=>
  simp only[a54,kM,a3_];split
  .rename_i e;exact absurd e (hk _ _ _ _ _)
  .rfl
 |_=>first
  |(simp[Ln]at hn;done)
  |simp[a54,kM]
def MK(fr:Frame)(cs:List Frame)(v:Value):Goroutine:={frame:=fr.raise [{v,recovered:=false}],callers:=cs,status:=.running,dying:=none}
theorem FD(hr:s.runT P w #[]=(.halt (.panic v) w',es)):
 stepG.apply P true fr cs none s w=.go (MK fr cs v) w' (seen P fr.fn (if fr.kind== .early then #[]else es)):=by
 unfold stepG.apply;simp only[hr,↓reduceIte,a54,a3_];rfl
end
theorem dh(P:Program)(fn:FuncId)(es:Array Event):∀e∈seen P fn es,e∈es:=by
 intro e he;unfold seen at he;dsimp only at he;revert he;refine Array.foldl_induction (motive:=λ_ (x:Bool×Array Event)=>e∈x.2->e∈es) s_ ?_;intro i acc ih;obtain⟨q,kept⟩:=acc;dsimp only;split
 .exact ih
 .intro h;dsimp only at h;split at h
  .exact ih h
  .rcases ad1.1 h with h|h
   .exact ih h
   .rw[h];exact af8 _
def fM(fr:Frame):Option (List Item):=
 match fr.todo with
 | .inRegion _ []::k=>some k
 | .inScope _::k=>some k
 | .inBlock _::k=>some k
 | .inLoop b::k=>some (.code b:: .inLoop b::k)
 | .code c::k=>
   match c with
   | .label _=>some k
   | .skip=>some k
   | .region _ ops false=>some (.inRegion ops (gU ops.size)::k)
   | .exit id=>exitTo id k
   | .scope b=>some (.code b:: .inScope b::k)
   | .loop b=>some (.code b:: .inLoop b::k)
   | .block id b=>some (.code b:: .inBlock id::k)
   | .cond x a b=>match fr.eval x with| .bool q=>some (.code (if q then a else b)::k)|_=>none
   | .seq a b=>some (.code a:: .code b::k)
   |_=>none
 |_=>none
theorem rQ{main:Bool}{t:List Item}(h:fM fr=some t):
 stepG.exec P main listen fr cs none w=.go {frame:={fr with todo:=t},callers:=cs,status:=.running,dying:=none} w:=by
 obtain⟨fn,tmps,todo,defers,mode,kind,roundOf⟩:=fr;unfold fM at h;unfold stepG.exec;cases todo with
 |nil=>cases h
 |cons i k=>
  cases i with
  |code c=>
   cases c with
   |region id ops draw=>cases draw<;>first|(cases h;rfl)|cases h
   |exit id=>simp only at h⊢;rw[h];rfl
   |cond c a b=>
    simp only at h⊢;split at h
    .rename_i q e;cases h;rw[e]
    .cases h
   |_=>first|(cases h;rfl)|cases h
  |inRegion ops todo=>cases todo<;>first|(cases h;rfl)|cases h
  |_=>first|(cases h;rfl)|cases h
theorem dD(hm:fr.mode=.run)(main:Bool)(cs:List Frame)(w:World):stepG P main {frame:=fr,callers:=cs,status:=.running,dying:=none} w=stepG.exec P main true fr cs none w:=by
 unfold stepG;simp only[hm]
theorem ki{main:Bool}{k:List Item}
 (ht:fr.todo=.inRegion ops (i::rest)::k) (ho:ops[i]?=some o) (hw:ug o (yielded ops fr.tmps)=true) (SS:∀c,o.op≠ .defer c):
 stepG.exec P main listen fr cs none w=stepG.apply P listen fr cs none (execOp fr.eval o) w:=by
 unfold stepG.exec;simp only[ht,ho,No,a14,hw,↓reduceIte];unfold stepG.oper;simp only[as7,ht,ho];split
 .rename_i e;exact absurd e (SS _)
 .rfl
theorem uj{main:Bool}{id:Nat}{k:List Item}{t:Nat}
 (ht:fr.todo=.code (.region id ops true)::k) (hr:(choose (.order fr.fn id)).run P w=.ok t w'):
 stepG.exec P main listen fr cs none w=.go {frame:={fr with todo:=.inRegion ops (a93 (P.follows .mixedOrders) ops t)::k},callers:=cs,status:=.running,dying:=none} w':=by
 unfold stepG.exec;simp only[ht,hr,an3,a85,↓reduceIte]
def QT(fr:Frame):Prop:=fr.roundOf=none/\(fr.todo=[]\/∃k,fr.todo=.code .ret::k)
theorem sD{main:Bool}(h:QT fr):
 stepG.exec P main listen fr cs none w=.go {frame:={fr with mode:=.returning},callers:=cs,status:=.running,dying:=none} w:=by
 obtain⟨h1,h2|⟨k,h2⟩⟩:=h<;>unfold stepG.exec<;>simp only[h1,h2]<;>rfl
def lO(c:Frame):Frame:=
 match c.mode with
 | .panicking ({recovered:=true, ..}::Vx)=>
   match Vx.dropWhile (!·.goexit)with
   |[]=>{c with mode:=.returning}
   |rest=>{c with mode:=.panicking rest}
 |_=>c
def back(kd:CallKind)(c:Frame)(v:Value):Frame:=if kd=.deferred then lO c else c.finish v
theorem jw{main:Bool}{c:Frame}(hk:fr.kind=.normal\/fr.kind=.deferred):
 doReturn P main fr (c::cs) none v w=.go {frame:=back fr.kind c v,callers:=cs,status:=.running,dying:=none} w:=by
 rcases hk with hk|hk<;>simp only[doReturn,back,hk,lO]<;>rfl
theorem tF{main:Bool}{c:Frame}(hd:fr.defers=[])(hm:fr.mode=.returning)(hk:fr.kind=.normal\/fr.kind=.deferred)(hf:P.funcs[fr.fn]?=some fn)
 (hr:(results fn fr.tmps).runT P w #[]=(.ok v w',es)):unwind P main fr (c::cs) none w=.go {frame:=back fr.kind c v,callers:=cs,status:=.running,dying:=none} w' (seen P fr.fn es):=by
 unfold unwind;simp only[hd,hm,hf,hr,jw hk,a54,a3_]
def mR(fr:Frame):Sem Next:=do fr.roundOf.elim (stuck "beginRound: no round") ab8;pure .skip
theorem sE{main:Bool}{k:List Item}(ht:fr.todo=.beginRound::k):
 stepG.exec P main listen fr cs none w=stepG.apply P listen fr cs none (mR fr) w:=by
 unfold stepG.exec;simp only[ht];rfl
theorem kK{main:Bool}{k:List Item}{jump:Option Code}(ht:fr.todo=.endRangeFunc l::k)
 (hr:(aa_ l).runT P w #[]=(.ok jump w',es)):stepG.exec P main listen fr cs none w=.go {frame:={fr with todo:=(jump.map aj0).toList++k},callers:=cs,status:=.running,dying:=none} w' (seen P fr.fn es):=by
 unfold stepG.exec;simp only[ht,hr,a54,a3_]
inductive pp (fr:Frame):Option Code->Prop
 |done (h:fr.todo=[]):pp fr none
 |ret {k:List Item} (h:fr.todo=.code .ret::k):pp fr (some .ret)
 |exit {id:Nat} {k:List Item} (h:fr.todo=.code (.exit id)::k) (he:exitTo id k=none):pp fr (some (.exit id))
theorem xK{main:Bool}{c:Frame}{j:Option Code}(hj:pp fr j)(hl:fr.roundOf=some l)(hk:fr.kind=.normal\/fr.kind=.deferred)
 (hr:(aa4 l j).runT P w #[]=(.ok v w',es)):stepG.exec P main listen fr (c::cs) none w=.go {frame:=back fr.kind c v,callers:=cs,status:=.running,dying:=none} w' (seen P fr.fn es):=by
 unfold stepG.exec;cases hj with
 |done h=>simp only[h,hl,hr,jw hk,a54,a3_]
 |ret h=>simp only[h,hl,hr,jw hk,a54,a3_]
 |exit h he=>simp only[h,he,Option.elim_none,hl,hr,jw hk,a54,a3_]
theorem mO{main:Bool}{c:Frame}{j:Option Code}(hj:pp fr j)(hl:fr.roundOf=some l)(hk:fr.kind=.normal)
 (hr:(aa4 l j).runT P w #[]=(.ok v w',es)):stepG.exec P main listen fr (c::cs) none w=.go {frame:=c.finish v,callers:=cs,status:=.running,dying:=none} w' (seen P fr.fn es):=by
 have:=xK (main:=main) (listen:=listen) (c:=c) (cs:=cs) hj hl (.inl hk) hr;simpa only[back,hk,reduceCtorEq,↓reduceIte]using this
def tS(f:Operand)(l:Nat):Call:={callee:=.value f,args:=#[.const (.func (.yield l) #[] #[])],argTypes:=#[]}
def lm(fr:Frame)(f:Operand)(l:Nat):Sem Next:=do let d←resolve fr.eval (tS f l) 0;invoke d.target d.args
def iz(fr:Frame)(k:List Item)(l:Nat)(mark:List Deferred):Frame:={fr with todo:=.inRangeFunc l::k,defers:=mark++fr.defers}
theorem sC{main:Bool}{f:Operand}{ps:Array Tmp}{a b:Code}{k:List Item}{mark:List Deferred}
 (ht:fr.todo=.code (.rangeFunc f ps a b)::k) (hr:(a81 fr.fn fr.tmps ps a b fr.roundOf).runT P w #[]=(.ok (l,mark) w1,es)):
 stepG.exec P main listen fr cs none w=a54 (seen P fr.fn es) (stepG.apply P listen (iz fr k l mark) cs none (lm (iz fr k l mark) f l) w1):=by
 unfold stepG.exec;simp only[ht,hr];rfl
theorem jQ(hf:P.funcs[f]?=some fn)(Tc:(fn.name== "runtime.NumGoroutine")=false)(hb:fn.body.isNone=false)(args:Array Value):(callFunc f args).runT P w #[]=(.ok (.enter f args) w,#[]):=by
 have h1:¬fn.name= "runtime.NumGoroutine" :=by simpa using Tc
 have h2:¬fn.body=none:=λe=>by rw[e]at hb;simp at hb
 simp[-a12,callFunc,bind,a30,a44,pure,program,hf,h1,h2]
theorem np(hf:P.funcs[f]?=some fn)(Tc:(fn.name== "runtime.NumGoroutine")=false)(hb:fn.body.isNone=false){cap:Array Value}(hx:fr.eval x=.func (.func f) first cap)(l:Nat):
 (lm fr x l).runT P w #[]=(.ok (.enter f (first++#[.func (.yield l) #[] #[]]++cap)) w,#[]):=by
 have e:lm fr x l=callFunc f (first++#[.func (.yield l) #[] #[]]++cap):=by
  unfold lm resolve tS ab9;simp only[hx];simp[invoke,bind,a30,pure,Frame.eval]
 rw[e,jQ hf Tc hb]
def cj(w:World)(r:Loop):World:=(w.alloc (.deferred (some []))).alloc (.loop r)
theorem bf(w:World)(r:Loop)(hb:b<w.heap.size):(cj w r).heap[b]?=w.heap[b]?:=by
 show((w.heap.push _).push _)[b]?=_;rw[a31,if_neg (by rw[a92];omega),a31,if_neg o_]
theorem ep(w:World)(r:Loop):(cj w r).heap[w.heap.size]?=some (.deferred (some [])):=by
 show((w.heap.push _).push _)[w.heap.size]?=_;rw[a31,if_neg (by rw[a92];omega),a31,if_pos rfl]
theorem eo(w:World)(r:Loop):(cj w r).heap[w.heap.size+1]?=some (.loop r):=by
 show((w.heap.push _).push _)[w.heap.size+1]?=_;rw[a31,if_pos (by rw[a92])]
def aT(w:World)(l:Nat)(r:Loop):World:={w with heap:=w.heap.setIfInBounds l (.loop r)}
theorem xO{gg:FuncId}{m:Bool}{f:Frame}{xs:List Frame}{g:Func}{cp a01:Array Value}{es:List Deferred}(h1:f.defers=⟨.fn (.func gg) cp,a01⟩::es)(h2:P.funcs[gg]?=some g)(h3:g.body.isSome=true)(h4:g.name≠ "runtime.NumGoroutine"):
 unwind P m f xs none w=.go {frame:=vd P gg (a01++cp) .deferred,callers:={f with defers:=es}::xs,status:=.running,dying:=none} w:=by
 have hr:(invoke (.fn (.func gg) cp) a01).runT P w #[]=(.ok (.enter gg (a01++cp)) w,#[]):=by
  have h4':(g.name== "runtime.NumGoroutine")=false:=by simpa using h4
  have h3':g.body.isNone=false:=by rw[Option.isNone_eq_false_iff];exact h3
  show(callFunc gg (a01++cp)).runT P w #[]=_;unfold callFunc
  change (match P.funcs[gg]? with|none=>_|some fn=>_:Sem Next).runT P w #[]=_
  rw[h2];simp only[h4',h3',a85,↓reduceIte];rfl
 unfold unwind;simp only[h1];unfold callDeferred;simp only[hr];simp[a54,seen]
section
variable{main:Bool}{fr' c:Frame}{cs':List Frame}
def Pt(P:Program)(main:Bool)(fr:Frame)(cs:List Frame)(w:World)(fr':Frame)(cs':List Frame)(w':World):Prop:=
 ∀V RO wR,Vw V RO w wR->(w.heap.size=wR.heap.size\/w'.heap.size=w.heap.size)->(w.drawn=wR.drawn\/w'.drawn=w.drawn)->∃Tq es,stepG P main (dj fr cs) wR=.go (dj fr' cs') Tq es/\qg V RO w w' wR Tq #[] es
theorem qg.sub{Vs:World}{Ty Yv:Array Event}(h:qg V RO wL Vs wR Tq es Ty)(hs:∀e∈Yv,e∈Ty):qg V RO wL Vs wR Tq es Yv:={h with ev:=λe he=>h.ev e (hs e he)}
theorem EC(h:∀w,stepG P main (dj fr cs) w=.go (dj fr' cs') w #[]):Pt P main fr cs w fr' cs' w:=λ_ _ wR hv _ _=>⟨wR,#[],h wR,.still _ hv⟩
def dR{α:Type}(P:Program)(w:World)(s:Sem α):Prop:=∀V RO wR es r Ty,Vw V RO w wR->s.runT P w es=(r,Ty)->se r=true->(w.heap.size=wR.heap.size\/(uY r).heap.size=w.heap.size)->(w.drawn=wR.drawn\/(uY r).drawn=w.drawn)->∃Tq,s.runT P wR es=(EF Tq r,Ty)/\qg V RO w (uY r) wR Tq es Ty
theorem aM.wW{α:Type}{s:Sem α}(h:aM P s):dR P w s:=λ_ _ _ _ _ _ hv hr hl ha hd=>SI h hv hr hl ha hd
theorem dR.shape{α:Type}{k:Option (TypeId×Nat)->Sem α}{c:Array Value}{e:TypeId}{z:Nat×Nat}(hb:w.heap[r]?=some (.cells c e z))(hc:0<c.size)(h:dR P w (k (some (e,c.size)))):dR P w (.shape r k):=λV RO wR es r' Ty hv hr hl ha hd=>by
 have hs:∀{w1:World} {z1},w1.heap[r]?=some (.cells c e z1)->w1.shape? r=some (e,c.size):=λh1=>by unfold ah9;rw[h1]
 have hR:∃z1,wR.heap[r]?=some (.cells c e z1):=by
  have SX:=(ap.1 hb).1;by_cases h1:V r
  .exact⟨z,(hv.mine r h1).symm.trans hb⟩
  .by_cases h2:RO r
   .obtain⟨c',e',z',q1,q2⟩:=hv.ro r h2 h1 SX;rw[q2]at hb;cases hb;exact⟨z',q1⟩
   .obtain⟨e',z',q⟩:=hv.dead r SX h1 h2;rw[q]at hb;cases hb;simp at hc
 obtain⟨z1,hR⟩:=hR;simp only[a44,hs hb,hs hR]at hr⊢;exact h V RO wR es r' Ty hv hr hl ha hd
theorem dR.freeze{α:Type}{a:Addr}{k:Sem α}{c:Array Value}{e:TypeId}{z:Nat×Nat}(hb:w.heap[a.block]?=some (.cells c e z))(hc:0<c.size)(hz:z≠(0,c.size))(h:dR P (w.freeze a n) k):dR P w (.freeze a n k):=λV RO wR es r' Ty hv hr hl ha hd=>by
 have hV:V a.block:=by
  have SX:=(ap.1 hb).1;refine Classical.byContradiction λh1=>?_;by_cases h2:RO a.block
  .obtain⟨c',e',z',q1,q2⟩:=hv.ro _ h2 h1 SX;rw[q2]at hb;injection hb with hb;injection hb with SZ _ Td;rw[SZ]at Td;exact hz Td.symm
  .obtain⟨e',z',q⟩:=hv.dead _ SX h1 h2;rw[q]at hb;cases hb;simp at hc
 simp only[a44]at hr⊢;have sz:∀w:World,(w.freeze a n).heap.size=w.heap.size/\(w.freeze a n).drawn=w.drawn:=λw=>by unfold ad6;split<;>simp
 have hD:qg V RO w (w.freeze a n) wR (wR.freeze a n) es es:=by
  unfold ad6;split
  .exact .still _ hv
  .have:=qg.set (es:=es) (e:=⟨.mark .noRoom,false,true⟩) hv hV (λo=>match o with| .cells c elem (lo,hi)=>.cells c elem (if lo==hi then(a.off,a.off+n)else(min lo a.off,max hi (a.off+n)))|o=>o) (λo ho=>by have:=hv.calm _ _ hV ho;cases o<;>first|rfl|exact this) rfl rfl rfl;exact this.sub λe he=>ad1.2 (.inl he)
 have U3:=hD.vw;rw[dW _ (sz w).1]at U3;obtain⟨Tq,q1,q2⟩:=h V RO (wR.freeze a n) es r' Ty U3 hr hl (by rw[(sz w).1,(sz wR).1];exact ha) (by rw[(sz w).2,(sz wR).2];exact hd);exact⟨Tq,q1,hD.trans (.inr (sz w).1) (by rw[dW _ (sz w).1];exact q2)⟩
theorem mZ{α:Type}{s:Sem α}{r:Result α}(hf:dR P w s)(hr:s.run P w=r)(hl:se r=true)(hw:uY r=w')(hs:∀wR Tq es,s.runT P wR #[]=(EF Tq r,es)->∃Ty,stepG P main (dj fr cs) wR=.go (dj fr' cs') Tq Ty/\∀e∈Ty,e∈es):Pt P main fr cs w fr' cs' w':=λV RO wR hv ha hd=>by
 subst hw;obtain⟨Tq,q1,q2⟩:=hf V RO wR #[] r ((s.runT P w #[]).2) hv (by rw[a12,hr]) hl ha hd;obtain⟨Ty,h1,h2⟩:=hs wR Tq _ q1;exact⟨Tq,Ty,h1,q2.sub h2⟩
end

structure iV where
 P:Program
 pad:Bool
 ax:FuncId->Array Value->World->(Value->World->Prop)->Prop
structure tz (q:Bool) (w w1:World):Prop where
 heap:∃n,(q=false->n=0)/\w1.heap=w.heap++ve n (.cells #[] 0)
 tape:w1.tape=w.tape
 os:w1.os=w.os
 output:w1.output=w.output
structure Lg (C:iV) where
 main:Bool
 ok:Frame->List Frame->World->Prop
 step:∀{fr cs w fr' cs' w'},Pt C.P main fr cs w fr' cs' w'->(C.pad=true->w'.heap.size=w.heap.size)->w'.drawn=w.drawn->ok fr' cs' w'->ok fr cs w
 any:∀{fr cs w},(∀w1,tz C.pad w w1->∃fr' cs' w',Pt C.P main fr cs w1 fr' cs' w'/\ok fr' cs' w')->ok fr cs w
 call:∀{f args w Q c cs},C.ax f args w Q->(∀v w',Q v w'->ok (c.finish v) cs w')->ok (vd C.P f args .normal) (c::cs) w
def Rn(C:iV)(Goal:Goroutine->World->Prop)(fr:Frame)(cs:List Frame)(w:World):Prop:=∀L:Lg C,(∀fr cs w,Goal (dj fr cs) w->L.ok fr cs w)->L.ok fr cs w
def Cl(C:iV)(f:FuncId)(args:Array Value)(w:World)(R:Ending->World->Prop):Prop:=
 ∀(L:Lg C) c cs,(∀v w',R (.returned v) w'->L.ok (c.finish v) cs w')->(∀ch w',R (.panicked ch) w'->L.ok (c.raise ch) cs w')->L.ok (vd C.P f args .normal) (c::cs) w
structure Rk (C:iV) (ev:Operand->Value) (o:Oper) (w:World) (nx:Next) (w':World):Prop where
 run:(execOp ev o).run C.P w=.ok nx w'
 fair:aM C.P (execOp ev o)
 size:C.pad=true->w'.heap.size=w.heap.size
 drew:w'.drawn=w.drawn
section
variable{C:iV}{b:Frame}{k:List Item}{cs':List Frame}{fr':Frame}{R:Ending->World->Prop}
theorem Cl.mono{R':Ending->World->Prop}(h:Cl C f args w R)(hR:∀e w',R e w'->R' e w'):Cl C f args w R':=λL c cs h1 h2=>h L c cs (λv w' h=>h1 v w' (hR _ _ h)) λch w' h=>h2 ch w' (hR _ _ h)
theorem bj(h:Goal (dj fr cs) w):Rn C Goal fr cs w:=λ_ hG=>hG _ _ _ h
theorem vW(hs:∀main,Pt C.P main fr cs w fr' cs' w')(hz:C.pad=true->w'.heap.size=w.heap.size)(hd:w'.drawn=w.drawn)(h:Rn C Goal fr' cs' w'):Rn C Goal fr cs w:=λL hG=>L.step (hs _) hz hd (h L hG)
theorem vX(hs:∀main w,stepG C.P main (dj fr cs) w=.go (dj fr' cs') w #[])(h:Rn C Goal fr' cs' w):Rn C Goal fr cs w:=vW (λm=>EC (hs m)) (λ_=>rfl) rfl h
theorem mj(hm:fr.mode=.run)(hs:∀main w,stepG.exec C.P main true fr cs none w=.go (dj fr' cs') w #[])(h:Rn C Goal fr' cs' w):Rn C Goal fr cs w:=vX (λm w=>(dD hm m cs w).trans (hs m w)) h
theorem a9{t:List Item}(hp:fM (b.atR a k)=some t)(h:Rn C Goal (b.atR a t) cs w):Rn C Goal (b.atR a k) cs w:=mj rfl (λ_ _=>rQ hp) h
theorem dY{id:Nat}{L:List Nat}(hL:gU ops.size=L)(h:Rn C Goal (b.atR a (.inRegion ops L::k)) cs w):Rn C Goal (b.atR a (.code (.region id ops false)::k)) cs w:=a9 rfl (by rw[hL];exact h)
theorem ak{A B:Code}(q:Bool)(hq:a.eval x=.bool q)(h:Rn C Goal (b.atR a (.code (if q then A else B)::k)) cs w):Rn C Goal (b.atR a (.code (.cond x A B)::k)) cs w:=by
 refine a9 (t:=.code (if q then A else B)::k) ?_ h;have e:(b.atR a (.code (.cond x A B)::k)).eval x=.bool q:=by rw[a49];exact hq
 show(match (b.atR a (.code (.cond x A B)::k)).eval x with| .bool q=>some (aj0 (if q then A else B)::k)|_=>none)=_;rw[e]
theorem iE{α:Type}{s:Sem α}{v:α}(hf:dR C.P w s)(hr:s.run C.P w=.ok v w')(hs:∀main wR Tq es,s.runT C.P wR #[]=(.ok v Tq,es)->∃Ty,stepG C.P main (dj fr cs) wR=.go (dj fr' cs') Tq Ty/\∀e∈Ty,e∈es)(hz:C.pad=true->w'.heap.size=w.heap.size)(hd:w'.drawn=w.drawn)
 (h:Rn C Goal fr' cs' w'):Rn C Goal fr cs w:=vW (λm=>mZ hf hr rfl rfl (hs m)) hz hd h
theorem vm(ho:ops[n]?=some o)(hw:ug o (yielded ops a.tmps)=true)(T5:∀c,o.op≠ .defer c){nx:Next}(hn:Ln nx=true)(hg:kM P (b.atR a (.inRegion ops (n::rest)::k)) cs nx=dj fr' cs')(main:Bool)(wR Tq:World)(es:Array Event)(hr:(execOp a.eval o).runT P wR #[]=(.ok nx Tq,es)):
 ∃Ty,stepG P main (dj (b.atR a (.inRegion ops (n::rest)::k)) cs) wR=.go (dj fr' cs') Tq Ty/\∀e∈Ty,e∈es:=by
 have hc:kD (b.atR a (.inRegion ops (n::rest)::k)):=λd w r s k e=>by cases e
 have e:=(ki (main:=main) (listen:=true) (cs:=cs) rfl ho hw T5).trans (iN (cs:=cs) hc (by rw[a49];exact hr) hn);rw[hg]at e;refine⟨_,(dD rfl main cs wR).trans e,λe he=>?_⟩;have:=dh _ _ _ e he;split at this
 .simp at this
 .exact this
theorem qX(ho:ops[n]?=some o)(hw:ug o (yielded ops a.tmps)=true)(T5:∀c,o.op≠ .defer c){nx:Next}(hr:Rk C a.eval o w nx w')(hn:Ln nx=true)(hg:kM C.P (b.atR a (.inRegion ops (n::rest)::k)) cs nx=dj fr' cs')
 (h:Rn C Goal fr' cs' w'):Rn C Goal (b.atR a (.inRegion ops (n::rest)::k)) cs w:=
 iE hr.fair.wW hr.run (λm wR Tq es h=>vm ho hw T5 hn hg m wR Tq es h) hr.size hr.drew h
theorem mL(ho:ops[n]?=some o)(v:Value):(b.atR a (.inRegion ops (n::rest)::k)).finish v=b.atR (a.put o.dst v) (.inRegion ops rest::k):=by rw[a21,ho];rfl
theorem pn(ho:ops[n]?=some o)(hw:ug o (yielded ops a.tmps)=true)(T5:∀c,o.op≠ .defer c)(hr:Rk C a.eval o w (.value v) w')
 (h:Rn C Goal (b.atR (a.put o.dst v) (.inRegion ops rest::k)) cs w'):Rn C Goal (b.atR a (.inRegion ops (n::rest)::k)) cs w:=
 qX ho hw T5 hr rfl (fr':=b.atR (a.put o.dst v) (.inRegion ops rest::k)) (cs':=cs) (by rw[←mL ho];rfl) h
theorem AK(ho:ops[n]?=some o)(hw:ug o (yielded ops a.tmps)=true)(T5:∀c,o.op≠ .defer c)(hr:Rk C a.eval o w .skip w')
 (h:Rn C Goal (b.atR (a.put o.dst undef) (.inRegion ops rest::k)) cs w'):Rn C Goal (b.atR a (.inRegion ops (n::rest)::k)) cs w:=
 qX ho hw T5 hr rfl (fr':=b.atR (a.put o.dst undef) (.inRegion ops rest::k)) (cs':=cs) (by rw[←mL ho];rfl) h
theorem C7(ho:ops[n]?=some o)(hw:ug o (yielded ops a.tmps)=true)(T5:∀c,o.op≠ .defer c)(hf:dR C.P w (execOp a.eval o))(hr:(execOp a.eval o).run C.P w=.ok (.value v) w')(hz:C.pad=true->w'.heap.size=w.heap.size)(hd:w'.drawn=w.drawn)
 (h:Rn C Goal (b.atR (a.put o.dst v) (.inRegion ops rest::k)) cs w'):Rn C Goal (b.atR a (.inRegion ops (n::rest)::k)) cs w:=
 iE hf hr (λm wR Tq es h=>vm (fr':=b.atR (a.put o.dst v) (.inRegion ops rest::k)) (cs':=cs) ho hw T5 rfl (by rw[←mL ho];rfl) m wR Tq es h) hz hd h
theorem C6(ho:ops[n]?=some o)(hw:ug o (yielded ops a.tmps)=true)(T5:∀c,o.op≠ .defer c)(hf:aM C.P (execOp a.eval o))(hr:∀w1,tz C.pad w w1->∃v w',(execOp a.eval o).run C.P w1=.ok (.value v) w'/\Rn C Goal (b.atR (a.put o.dst v) (.inRegion ops rest::k)) cs w'):
 Rn C Goal (b.atR a (.inRegion ops (n::rest)::k)) cs w:=λL hG=>L.any λw1 hp=>by
 obtain⟨v,w',h1,h2⟩:=hr w1 hp;exact⟨_,_,w',mZ hf.wW h1 rfl rfl λwR Tq es h=>vm (fr':=b.atR (a.put o.dst v) (.inRegion ops rest::k)) (cs':=cs) ho hw T5 rfl (by rw[←mL ho];rfl) _ wR Tq es h,h2 L hG⟩
theorem yg(ho:ops[n]?=some o)(hw:ug o (yielded ops a.tmps)=true)(T5:∀c,o.op≠ .defer c)(hr:Rk C a.eval o w (.enter f args) w)
 (h:Rn C Goal (vd C.P f args .normal) (b.atR a (.inRegion ops (n::rest)::k)::cs) w):Rn C Goal (b.atR a (.inRegion ops (n::rest)::k)) cs w:=
 qX ho hw T5 hr rfl rfl h
theorem yj{c:Frame}(hC:Cl C f args w R)(h:∀v w',R (.returned v) w'->Rn C Goal (c.finish v) cs w')(hp:∀ch w',R (.panicked ch) w'->Rn C Goal (c.raise ch) cs w'):Rn C Goal (vd C.P f args .normal) (c::cs) w:=
 λL hG=>hC L c cs (λv w' h1=>h v w' h1 L hG) λch w' h1=>hp ch w' h1 L hG
theorem vZ(ho:ops[n]?=some o)(hw:ug o (yielded ops a.tmps)=true)(T5:∀c,o.op≠ .defer c)(hr:Rk C a.eval o w (.enter f args) w){R:Value->World->Prop}(hC:Cl C f args w λe w'=>∃v,e=.returned v/\R v w')
 (h:∀v w',R v w'->Rn C Goal (b.atR (a.put o.dst v) (.inRegion ops rest::k)) cs w'):Rn C Goal (b.atR a (.inRegion ops (n::rest)::k)) cs w:=
 yg ho hw T5 hr (yj hC (λv w' ⟨u,e,hR⟩=>by cases e;rw[mL ho];exact h v w' hR) λch w' ⟨u,e,_⟩=>by cases e)
theorem aS(hb:b.roundOf=none)(hk:k=[]\/∃k',k=.code .ret::k')(h:Rn C Goal {b.atR a k with mode:=.returning} cs w):Rn C Goal (b.atR a k) cs w:=mj rfl (λ_ _=>sD (fr:=b.atR a k) ⟨hb,hk⟩) h
theorem sR{c:Frame}(v:Value)(hm:fr.mode=.returning)(hk:fr.kind=.normal)(hd:fr.defers=[])(hf:C.P.funcs[fr.fn]?=some fn)(hr:(results fn fr.tmps).run C.P w=.ok v w)(J:aM C.P (results fn fr.tmps))
 (h:Rn C Goal (c.finish v) cs w):Rn C Goal fr (c::cs) w:=by
 refine iE (fr':=c.finish v) (cs':=cs) J.wW hr (λm wR Tq es h=>⟨_,?_,dh C.P fr.fn es⟩) (λ_=>rfl) rfl h;have hu:=tF (P:=C.P) (main:=m) (c:=c) (cs:=cs) hd hm (.inl hk) hf h;rw[show back fr.kind c v=c.finish v from by rw[hk];rfl]at hu;unfold stepG dj;simp only[hm];exact hu
theorem Cb{id:Nat}(h:∀t w',tz C.pad w w'->Rn C Goal (b.atR a (.inRegion ops (a93 (C.P.follows .mixedOrders) ops t)::k)) cs w'):Rn C Goal (b.atR a (.code (.region id ops true)::k)) cs w:=λL hG=>L.any λw1 hp=>by
 have hr:∀w:World,(choose (.order (b.atR a (.code (.region id ops true)::k)).fn id)).run C.P w=.ok (w.tape w.drawn (.order b.fn id)) {w with drawn:=w.drawn+1}:=λw=>by
  simp[choose,af9,aq1,as_,aj1]
 refine⟨_,_,_,mZ (fr':=b.atR a (.inRegion ops (a93 (C.P.follows .mixedOrders) ops (w1.tape w1.drawn (.order b.fn id)))::k)) (cs':=cs) (s:=choose (.order (b.atR a (.code (.region id ops true)::k)).fn id)) (aM.wW (.choose λn=>.pure n)) (hr w1) rfl rfl λwR Tq es h=>⟨#[],?_,λe he=>by simp at he⟩,h _ {w1 with drawn:=w1.drawn+1} ⟨hp.heap,hp.tape,hp.os,hp.output⟩ L hG⟩;rw[a12]at h;have:=congrArg Prod.fst h;exact(dD rfl _ cs wR).trans (uj rfl this)
end

section
variable{α:Type}
theorem o0:aM P program:=.program (.pure _)
theorem cY{c:Prop}[Decidable c]{s t:Sem α}(h:aM P s)(h':aM P t):aM P (if c then s else t):=by split<;>assumption
theorem xF{β:Type}{s:Sem β}(f:β->α)(h:aM P s):aM P (f<$>s):=h.bind λa=>.pure (f a)
theorem fU{s:Sem α}(h:aM P s:=by
 first
 |exact .pure _
 |exact .halt _
 |exact fK
 |refine cY ?_ ?_
 |(refine aM.bind ?_ λa=>?_<;>try dsimp only)
 |refine xF _ ?_
 |refine .choose λn=>?_
 |split
 all_goals first|contradiction|exact fU):aM P s:=h
theorem fK{s:Sem α}(h:aM P s:=by
 with_reducible first
 |assumption
 |exact o0
 |exact tm _
 |exact br _
 |exact je _
 |exact ft _
 |exact sA _
 |exact jf _ _
 |exact Dw _
 |exact qj _ _ _
 |exact gO _ _
 |exact kH _
 |exact pV _ _ _ _
 |exact ip _ _ _
 |exact oj _
 |exact eO _
 |exact A4 _
 |exact qo _ _ _
 |exact xH _
 |exact oi _
 |exact tr _ _ _ _ _ λq w=>by cases q<;>with_unfolding_all rfl):aM P s:=h
theorem tm(t:TypeId):aM P (typeInfo t):=by unfold typeInfo;exact fU
theorem br(t:TypeId):aM P (underlying t):=by unfold underlying;exact fU
theorem je(t:TypeId):aM P (zeroValue t):=by unfold zeroValue;exact fU
theorem ft(t:TypeId):aM P (sizeOf t):=by unfold sizeOf;exact fU
theorem sA(t:TypeId):aM P (isAgg t):=by unfold isAgg;exact fU
theorem xH(q:Question):aM P (choose q):=.choose λ_=>.pure _
theorem oi(n:Nat):aM P (askRoom n):=by unfold askRoom;exact cY (.mark rfl (.pure _)) (.pure _)
theorem gO(t:TypeId)(c:Array Value):aM P (newRow t c):=by unfold newRow;exact .new rfl λ_=>.pure _
theorem pU(t:TypeId):aM P (elemOf t):=by unfold elemOf;exact fU
theorem kH(e:RuntimeError):aM P (runtimePanic e:Sem α):=by
 unfold runtimePanic;refine .program ?_;cases e with
 |typeAssertion i c a m=>exact(pU _).bind λt=>(gO _ _).bind λ_=>.halt _
 |panicNil=>exact(pU _).bind λt=>(gO _ _).bind λ_=>.halt _
 |_=>exact .halt _
theorem pV(k:IntKind)(x y:Int)(c:BoundsCode):aM P (boundsPanic k x y c:Sem α):=by unfold boundsPanic;exact fU
theorem Dw(a:Addr):aM P (load a):=.load λ_=>.pure _
theorem jf(a:Addr)(n:Nat):aM P (loadCells a n):=by
 have:∀n i acc,aM P (loadCellsFrom a i n acc):=λn=>by
  induction n with
  |zero=>exact λ_ _=>.pure _
  |succ n ih=>exact λi acc=>.load λv=>ih _ _
 exact this _ _ _
theorem qj(a:Addr)(vs:List Value):∀i,aM P (storeCells a vs i):=by
 induction vs with
 |nil=>exact λ_=>.pure _
 |cons v vs ih=>exact λi=>.store (ih _)
theorem oa(t:TypeId)(a:Addr):aM P (loadVar t a):=by unfold loadVar;exact fU
theorem tn(t:TypeId)(a:Addr)(v:Value):aM P (storeVar t a v):=by unfold storeVar;exact fU
theorem ip(t:TypeId)(c:Array Value)(n:Nat):aM P (part t c n):=by unfold part;exact fU
theorem oj(v:Value):aM P (asIntOf v):=by unfold asIntOf;split<;>first|exact .pure _|exact .halt _
theorem eO(v:Value):aM P (a5_ v):=by unfold a5_;split<;>first|exact .pure _|exact .halt _
theorem xG(t:TypeId)(v:Value):aM P (a04 t v):=(eO v).bind λa=>oa t a
theorem vE(t:TypeId)(v u:Value):aM P (ab2 t v u):=(eO v).bind λa=>tn t a u
theorem GA(t:TypeId)(v:Value):aM P (ar7 t v):=(gO _ _).bind λ_=>.pure _
theorem Af(t:TypeId):aM P (a06 t true (.tuple #[])):=(je t).bind λ_=>(gO _ _).bind λ_=>.pure _
theorem qs(t:TypeId)(n:Nat)(ps:Array (Nat×Value)):aM P (sf t n ps):=by unfold sf;exact fU
theorem sx(t:TypeId)(n c:Value):aM P (a94 t n c):=by unfold a94 asInt;exact fU
theorem A4(v:Value):aM P (ah_ v):=by unfold ah_;split<;>first|exact .pure _|exact .halt _
theorem qo(a b:Nat)(v:Value):aM P (ac4 a b v):=by unfold ac4;exact fU
theorem Dy(ts:Array TypeId)(t:TypeId)(xs:Array Value):aM P (ab3 ts t xs):=by unfold ab3;exact fU
def tA(P:Program)(s:Sem α):Prop:=∀w h w',s.run P w=.halt h w'->xz h=false
theorem tA.bind{β:Type}{s:Sem β}{k:β->Sem α}(h:tA P s)(hk:∀a,tA P (k a)):tA P (s>>=k):=λw x w' e=>by
 rw[a80]at e;cases hs:s.run P w with
 |ok a w1=>rw[hs]at e;exact hk a w1 x w' e
 |halt y w1=>rw[hs]at e;cases e;exact h w _ _ hs
theorem te(a b c:Nat)(o:Option Addr)(x:Value):tA P (ag6 a b c o x):=by
 have hp:∀{α:Type} (a:α),tA P (pure a):=λa w h w' e=>by cases e
 have hh:∀a n,tA P (ai_ a n):=λa n=>by
  unfold ai_;refine tA.bind (s:=shape a.block) (λw h w' e=>by cases e) λs=>?_;cases s<;>exact hp _
 have hz:∀a,tA P (frozen a):=λa w h w' e=>by cases e
 have jp:∀q:Bool,tA P (if (!q)=true then pure true else match x with
  | .slice (some b) _ _=>do pure (!(←ai_ b (c*a))||o.any (·.block==b.block))
  |_=>pure false:Sem Bool):=λq=>by
  cases q
  .exact hp _
  .cases x with
   |slice p l c=>cases p with
    |none=>exact hp _
    |some p=>exact(hh _ _).bind λ_=>hp _
   |_=>exact hp _
 unfold ag6;cases o with
 |none=>exact(hp _).bind λq=>jp q
 |some p=>exact(hh _ _).bind λ_=>(hz _).bind λ_=>(hp _).bind λq=>jp q
theorem tr{k:Bool->Sem α}(a b c:Nat)(o:Option Addr)(x:Value)(h:∀q w,se ((k q).run P w)=false):aM P (ag6 a b c o x>>=k):=.dead λw=>by
 rw[a80];cases hs:(ag6 a b c o x).run P w with
 |ok q w1=>exact h q w1
 |halt y w1=>exact te _ _ _ _ _ w y w1 hs
theorem xI(ts:Array TypeId)(t:TypeId)(xs:Array Value):aM P (ab_ ts t xs):=by
 unfold ab_ asInt;exact fU
theorem ui{β γ:Type}(f:γ->Sem β)(h:∀x,aM P (f x)):∀xs:List γ,aM P (xs.mapM f)
 |[]=>by rw[List.mapM_nil];exact .pure _
 |x::xs=>by rw[List.mapM_cons];exact(h x).bind λ_=>(ui f h xs).bind λ_=>.pure _
theorem uh{β γ:Type}(f:γ->Sem β)(h:∀x,aM P (f x))(xs:Array γ):aM P (xs.mapM f):=by
 rw[Array.mapM_eq_mapM_toList];exact xF _ (ui f h _)
theorem Ac(t:TypeId)(ps:Array (Nat×Value)):aM P (uu t ps):=by
 unfold uu;refine(je t).bind λz=>(br t).bind λu=>?_;split
 .refine(uh _ (λf=>(ft _).bind λ_=>.pure _) _).bind λ_=>?_;split<;>first|exact .pure _|exact .halt _
 .refine(ft _).bind λ_=>?_;split<;>first|exact .pure _|exact .halt _
 .exact .halt _
theorem pW(v:Value):aM P (asAddr v):=by unfold asAddr;exact fU
theorem iZ(fn:Func)(tmps:Array Value):aM P (results fn tmps):=(uh _ (λx=>by
 cases x with
 |tmp t=>exact .pure _
 |cell a t=>exact(pW _).bind λ_=>oa _ _) _).bind λ_=>.pure _
end

theorem pT{α:Type}{k:Obj->Sem α}(r:Nat)(h:∀o,il o=true->aM P (k o)):aM P (getObj r>>=k):=.getObj h
theorem iM{α:Type}{k:Unit->Sem α}{o:Obj}(r:Nat)(ho:il o=true)(h:aM P (k ())):aM P (setObj r o>>=k):=.setObj ho h
theorem me{α:Type}{k:Loop->Sem α}(h:∀r,aM P (k r)):aM P (a8_ l>>=k):=by
 refine aM.bind ?_ h;unfold a8_;exact pT l λo _=>by cases o<;>first|exact .pure _|exact .halt _
theorem A0(args:Array Value):aM P (ac2 l args):=me λ_=>cY (.halt _) (.pure _)
theorem Ae:aM P (ab8 l):=me λr=>iM l rfl (by cases r.state<;>first|exact .pure _|exact kH _)
theorem mt(j:Option Code):aM P (aa4 l j):=me λ_=>iM l rfl (.pure _)
theorem oe:aM P (aa_ l):=me λ_=>cY ((kH _).bind λ_=>iM l rfl (.pure _)) (iM l rfl (.pure _))
theorem sB(fn:FuncId)(tmps:Array Value)(ps:Array Tmp)(a b:Code):aM P (a81 fn tmps ps a b none):=.new rfl λ_=>.new rfl λ_=>.pure _
theorem Du:aM P (aa5 l):=pT l λo _=>by
 cases o with
 |deferred ds=>cases ds with
  |none=>exact .halt _
  |some ds=>exact iM l rfl (.pure _)
 |_=>exact .halt _
section
variable(P:Program){r:Loop}
theorem CL(h:w.heap[l]?=some (.loop r))(hs:args.size=r.params.size):
 (ac2 l args).run P w=.ok (.round l r.fn ((r.params.zip args).foldl (λtmps (t,a)=>tmps.setIfInBounds t a) r.tmps) r.assign r.body) w:=by
 simp[ac2,a8_,getObj,bind,a30,af9,pure,h,hs]
theorem CP(h:w.heap[l]?=some (.loop r))(hs:r.state=.ready):(ab8 l).run P w=.ok () (aT w l {r with state:=.busy}):=by
 simp[ab8,a8_,getObj,setObj,bind,a30,af9,pure,h,hs,aT]
theorem nu(h:w.heap[l]?=some (.loop r))(j:Option Code):(aa4 l j).run P w=.ok (.bool j.isNone) (aT w l {r with state:=if j.isNone then .ready else .done,pending:=j}):=by
 simp[aa4,a8_,getObj,setObj,bind,a30,af9,pure,h,aT]
theorem wP(h:w.heap[l]?=some (.loop r))(hs:r.state=.ready):(aa_ l).run P w=.ok r.pending (aT w l {r with state:=.exhausted}):=by
 simp[aa_,a8_,getObj,setObj,bind,a30,af9,pure,h,hs,aT]
theorem ta(fn:FuncId)(tmps:Array Value)(ps:Array Tmp)(a b:Code):
 (a81 fn tmps ps a b none).run P w=.ok (w.heap.size+1,[{target:=.collected w.heap.size,args:=#[]}]) (cj w {state:=.ready,pending:=none,fn,tmps,params:=ps,assign:=a,body:=b,defers:=w.heap.size}):=by
 simp[a81,newObj,bind,a30,af9,pure,cj];rfl
theorem EG(h:w.heap[l]?=some (.deferred (some ds))):(aa5 l).run P w=.ok ds {w with heap:=w.heap.setIfInBounds l (.deferred none)}:=by
 simp[aa5,getObj,setObj,bind,a30,af9,pure,h]
end
section
variable{C:iV}{b:Frame}{k:List Item}{cs':List Frame}{fr' c:Frame}{r:Loop}
theorem iG(w:World)(l:Nat)(r:Loop):(aT w l r).heap.size=w.heap.size:=by simp[aT]
theorem tI{main:Bool}{ps:Array Tmp}{cb:Code}{cap:Array Value}(hb:b.roundOf=none)(hf:C.P.funcs[f]?=some fn)(Tc:(fn.name== "runtime.NumGoroutine")=false)(Yo:fn.body.isNone=false)(hx:a.eval x=.func (.func f) first cap):
 Pt C.P main (b.atR a (.code (.rangeFunc x ps ca cb)::k)) cs w (vd C.P f (first++#[.func (.yield (w.heap.size+1)) #[] #[]]++cap) .normal) (b.atR ⟨a.tmps,{target:=.collected w.heap.size,args:=#[]}::a.defers⟩ (.inRangeFunc (w.heap.size+1)::k)::cs)
  (cj w {state:=.ready,pending:=none,fn:=b.fn,tmps:=a.tmps,params:=ps,assign:=ca,body:=cb,defers:=w.heap.size}):=by
 refine mZ (s:=a81 (b.atR a (.code (.rangeFunc x ps ca cb)::k)).fn (b.atR a (.code (.rangeFunc x ps ca cb)::k)).tmps ps ca cb (b.atR a (.code (.rangeFunc x ps ca cb)::k)).roundOf) (r:=.ok (w.heap.size+1,[{target:=.collected w.heap.size,args:=#[]}]) (cj w {state:=.ready,pending:=none,fn:=b.fn,tmps:=a.tmps,params:=ps,assign:=ca,body:=cb,defers:=w.heap.size})) ?_ ?_ rfl rfl λwR _ es h=>?_
 .rw[show(b.atR a (.code (.rangeFunc x ps ca cb)::k)).roundOf=none from hb];exact(sB _ _ _ _ _).wW
 .rw[show(b.atR a (.code (.rangeFunc x ps ca cb)::k)).roundOf=none from hb];exact ta _ _ _ _ _ _
 .have TH:(iz (b.atR a (.code (.rangeFunc x ps ca cb)::k)) k (w.heap.size+1) [{target:=.collected w.heap.size,args:=#[]}]).eval x=.func (.func f) first cap:=by
   rw[←hx,←a49 b a (.code (.rangeFunc x ps ca cb)::k)];cases x<;>rfl
  have hc:kD (iz (b.atR a (.code (.rangeFunc x ps ca cb)::k)) k (w.heap.size+1) [{target:=.collected w.heap.size,args:=#[]}]):=λd w r s k e=>by cases e
  have e2:=sC (P:=C.P) (main:=main) (listen:=true) (cs:=cs) (fr:=b.atR a (.code (.rangeFunc x ps ca cb)::k)) rfl h;rw[iN (cs:=cs) hc (np hf Tc Yo TH _) rfl]at e2;refine⟨_,(dD rfl main cs wR).trans e2,λe he=>dh C.P b.fn es e ?_⟩;rcases a50.1 he with h|h
  .exact h
  .have:=dh _ _ _ e h;split at this<;>simp at this
theorem Hk{ps:Array Tmp}{cb:Code}{cap:Array Value}(hp:C.pad=false)(hb:b.roundOf=none)(hf:C.P.funcs[f]?=some fn)(Tc:(fn.name== "runtime.NumGoroutine")=false)(Yo:fn.body.isNone=false)(hx:a.eval x=.func (.func f) first cap)
 (h:Rn C Goal (vd C.P f (first++#[.func (.yield (w.heap.size+1)) #[] #[]]++cap) .normal) (b.atR ⟨a.tmps,{target:=.collected w.heap.size,args:=#[]}::a.defers⟩ (.inRangeFunc (w.heap.size+1)::k)::cs)
   (cj w {state:=.ready,pending:=none,fn:=b.fn,tmps:=a.tmps,params:=ps,assign:=ca,body:=cb,defers:=w.heap.size})):Rn C Goal (b.atR a (.code (.rangeFunc x ps ca cb)::k)) cs w:=
 vW (λ_=>tI hb hf Tc Yo hx) (λh=>by rw[hp]at h;cases h) rfl h
theorem mi(ho:ops[n]?=some o)(hw:ug o (yielded ops a.tmps)=true)(T5:∀c,o.op≠ .defer c)(hl:w.heap[l]?=some (.loop r))(hs:args.size=r.params.size)(hr:∀w es,(execOp a.eval o).runT C.P w es=(ac2 l args).runT C.P w es)
 (h:Rn C Goal (a9_ l r.fn ((r.params.zip args).foldl (λtmps (t,a)=>tmps.setIfInBounds t a) r.tmps) r.assign r.body .normal) (b.atR a (.inRegion ops (n::rest)::k)::cs) w):Rn C Goal (b.atR a (.inRegion ops (n::rest)::k)) cs w:=by
 refine qX (nx:=.round l r.fn ((r.params.zip args).foldl (λtmps (t,a)=>tmps.setIfInBounds t a) r.tmps) r.assign r.body) ho hw T5 ⟨?_,.eqv hr (A0 _),λ_=>rfl,rfl⟩ rfl rfl h;have:=congrArg Prod.fst (hr w #[]);rw[a98,a98]at this;exact this.trans (CL _ hl hs)
theorem j6(hl:b.roundOf=some l)(h0:w.heap[l]?=some (.loop r))(hs:r.state=.ready)(h:Rn C Goal (b.atR a k) cs (aT w l {r with state:=.busy})):Rn C Goal (b.atR a (.beginRound::k)) cs w:=by
 have TJ:(b.atR a (.beginRound::k)).roundOf=some l:=hl;have hc:kD (b.atR a (.beginRound::k)):=λd w r s k e=>by cases e
 refine iE (s:=mR (b.atR a (.beginRound::k))) (v:=.skip) (fr':=b.atR a k) (cs':=cs) ?_ ?_ (λm wR _ es h=>⟨_,(dD rfl m cs wR).trans ((sE (P:=C.P) (main:=m) (listen:=true) (cs:=cs) (w:=wR) (fr:=b.atR a (.beginRound::k)) rfl).trans (iN (cs:=cs) hc h rfl)),λe he=>?_⟩) (λ_=>iG _ _ _) rfl h
 .unfold mR;rw[TJ];exact(Ae.bind λ_=>.pure _).wW
 .unfold mR;rw[TJ];show(ab8 l>>=λ_=>pure av5).run C.P w=_;rw[a80,CP _ h0 hs];rfl
 .have:=dh _ _ _ e he;split at this
  .simp at this
  .exact this
theorem ir(hl:b.roundOf=some l)(hk:b.kind=.normal)(h0:w.heap[l]?=some (.loop r))(h:Rn C Goal (c.finish (.bool true)) cs (aT w l {r with state:=.ready,pending:=none})):Rn C Goal (b.atR a []) (c::cs) w:=
 iE (mt none).wW (nu _ h0 none) (λm wR _ es h=>⟨_,(dD rfl m _ wR).trans (mO (fr:=b.atR a []) (j:=none) (.done rfl) hl hk h),dh C.P b.fn es⟩) (λ_=>iG _ _ _) rfl h
theorem fV(h0:w.heap[l]?=some (.loop r))(hs:r.state=.ready)(hp:r.pending=none)(h:Rn C Goal (b.atR a k) cs (aT w l {r with state:=.exhausted})):Rn C Goal (b.atR a (.endRangeFunc l::k)) cs w:=by
 refine iE (v:=none) (fr':=b.atR a k) (cs':=cs) oe.wW (by rw[wP _ h0 hs,hp]) (λm wR _ es h=>⟨_,(dD rfl m _ wR).trans (kK (fr:=b.atR a (.endRangeFunc l::k)) rfl h),dh C.P b.fn es⟩) (λ_=>iG _ _ _) rfl h
theorem Cx{main:Bool}{x:Array Value}{rest:List Deferred}(hm:fr.mode=.returning)(hd:fr.defers={target:=.collected l,args:=x}::rest)(h:(aa5 l).runT P w #[]=(.ok ds w',es)):
 stepG P main (dj fr cs) w=.go (dj {fr with defers:=ds++rest} cs) w' (seen P fr.fn es):=by
 unfold stepG;simp only[hm,unwind,hd,h,a54,a3_]
theorem jA(hd:a.defers={target:=.collected l,args:=#[]}::ds)(hl:w.heap[l]?=some (.deferred (some [])))(h:Rn C Goal {b.atR ⟨a.tmps,ds⟩ k with mode:=.returning} cs {w with heap:=w.heap.setIfInBounds l (.deferred none)}):Rn C Goal {b.atR a k with mode:=.returning} cs w:=
 iE (v:=[]) (fr':={b.atR ⟨a.tmps,ds⟩ k with mode:=.returning}) (cs':=cs) Du.wW (EG _ hl) (λm wR Tq es h=>⟨_,Cx (fr:={b.atR a k with mode:=.returning}) (w':=Tq) rfl hd h,dh C.P b.fn es⟩) (λ_=>by simp) rfl h
end

def iL:Value->Bool
 | .pointer _| .agg _| .iface _ _| .float _ _| .complex _ _ _=>false
 |_=>true
section
variable{α:Type}
theorem kI{β γ:Type}(f:γ->β->Sem (ForInStep β))(h:∀x b,aM P (f x b)):∀(xs:List γ) (b:β),aM P (forIn xs b f)
 |[],b=>by rw[List.forIn_nil];exact .pure _
 |x::xs,b=>by
  rw[List.forIn_cons];refine(h x b).bind λs=>?_;cases s
  .exact .pure _
  .exact kI f h xs _
theorem mM{β γ:Type}(xs:Array γ)(b:β)(f:γ->β->Sem (ForInStep β))(h:∀x b,aM P (f x b)):aM P (forIn xs b f):=by
 rw[←Array.forIn_toList];exact kI f h _ b
theorem mN(t:TypeId){x y:Value}(h:(iL x=true/\iL y=true)\/∃a,x=.pointer a/\y=.pointer none)(d:Nat):aM P (Op.equalIn d t x y):=by
 cases d with
 |zero=>exact .halt _
 |succ d=>
  unfold Op.equalIn;refine(br t).bind λu=>?_;rcases h with⟨hx,hy⟩|⟨a,rfl,rfl⟩
  .split<;>first|exact .pure _|exact .halt _|exact cY (.pure _) (.halt _)|(simp[iL]at hx hy;done)
  .cases u<;>cases a<;>first|exact .pure _|exact .halt _
theorem GB(op:BinOp)(t:TypeId){x y:Value}(hx:iL x=true)(hy:iL y=true):aM P (binOp op t x y):=by
 unfold binOp;split<;>first|(simp[iL]at hx hy;done)|exact(mN t (.inl ⟨hx,hy⟩) _).bind λ_=>.pure _|exact .halt _|skip
 .unfold Op.shift;exact cY (kH _) (.pure _)
 .unfold Op.shift;exact cY (kH _) (.pure _)
 .refine cY (.halt _) ?_;unfold as8 ar8 Op.intBits Op.intCmp;cases op<;>first|exact .pure _|exact cY (kH _) (.pure _)|exact .halt _
 .unfold Op.stringOp;cases op<;>first|exact .pure _|exact .halt _|exact cY (.halt _) (.pure _)
theorem A9{op:BinOp}(ho:op=.eql\/op=.neq)(t:TypeId)(a:Option Addr):aM P (binOp op t (.pointer a) (.pointer none)):=by
 rcases ho with rfl|rfl<;>exact(mN t (.inr ⟨a,rfl,rfl⟩) _).bind λ_=>.pure _
theorem od{op:BinOp}{t:TypeId}{a b:Value}(h:(iL a=true/\iL b=true)\/∃c,a=.pointer c/\b=.pointer none):aM P (eqGuard op t x y a b):=by
 unfold eqGuard;refine cY (.pure _) ?_;rcases h with⟨hx,hy⟩|⟨c,rfl,rfl⟩
 .have:∀d,aM P (as0 d t .nilIface .nilIface):=λd=>by
   cases d with
   |zero=>exact .halt _
   |succ d=>
    unfold as0;refine(br t).bind λu=>?_;cases u<;>exact .pure _
  cases a<;>first|exact .pure _|(simp[iL]at hx;done)|skip
  cases b<;>first|exact .pure _|(simp[iL]at hy;done)|skip
  apply cY
  .exact .pure _
  .refine(this _).bind λq=>?_;cases q<;>first|exact .pure _|exact .halt _
 .exact .pure _
theorem qn(x:Value)(y:Nat)(c:BoundsCode):aM P (a03 x y c):=by unfold a03;exact fU
theorem oY(q:Bool)(l c:Nat)(x y z:Option Value):aM P (a0_ q l c x y z):=by
 unfold a0_;cases x<;>cases y<;>cases z<;>dsimp only<;>first
  |exact .halt _
  |(repeat' (first|exact .pure _|exact .halt _|exact qn _ _ _|refine aM.bind ?_ λ_=>?_))
theorem A3(t:TypeId)(x:Value)(a b c:Option Value):aM P (a10 t x a b c):=by
 unfold a10 a53
 repeat' (first|exact .pure _|exact .halt _|exact br _|exact ft _|exact eO _|exact pW _|exact oY _ _ _ _ _ _|refine cY ?_ ?_|refine aM.bind ?_ λ_=>?_|split)
theorem A5(t:TypeId)(x i:Value):aM P (af6 t x i):=by unfold af6;exact fU
theorem vI(t:TypeId)(x i:Value):aM P (ae7 t x i):=by
 unfold ae7
 repeat' (first|exact .pure _|exact .halt _|exact br _|exact ft _|exact eO _|exact oj _|exact pV _ _ _ _|refine cY ?_ ?_|refine aM.bind ?_ λ_=>?_|split)
theorem A8(t:TypeId)(x:Value)(i:Nat):aM P (as9 t x i):=by
 unfold as9 asAgg
 repeat' (first|exact .pure _|exact .halt _|exact br _|exact ip _ _ _|refine aM.bind ?_ λ_=>?_|split)
theorem vK(x:Value)(i:Nat):aM P (an4 x i):=by unfold an4;exact fU
theorem A2(op:UnOp)(x:Value):aM P (as5 op x):=by
 unfold as5 as8 Op.intBits;split<;>first|exact .pure _|exact .halt _
theorem Gv(ts:Array TypeId)(t:TypeId)(xs:Array Value):aM P (ad7 ts t xs):=by
 unfold ad7
 repeat' (first|exact .pure _|exact .halt _|exact br _|refine .getObj λ_ _=>?_|refine aM.bind ?_ λ_=>?_|split)
theorem Gz(ts:Array TypeId)(t:TypeId)(xs:Array Value):aM P (ao2 ts t xs):=by
 unfold ao2
 repeat' (first|exact .pure _|exact .halt _|exact br _|refine .getObj λ_ _=>?_|refine aM.bind ?_ λ_=>?_|split)
def mB(P:Program)(t:TypeId)(i:Nat):Bool:=
 match P.underlying t with
 |some (.struct fs)=>match fs[i]? with
  |some f=>match P.info? f.type with
   |some d=>d.size !=0
   |none=>true
  |none=>true
 |_=>true
theorem qp(a:Addr)(f:Field)(h:∀d,P.info? f.type=some d->d.size≠0):aM P (fieldPlace a f):=by
 unfold fieldPlace sizeOf typeInfo;refine .program ?_;simp only[a30];cases hi:P.info? f.type with
 |none=>exact .halt _
 |some d=>
  show aM P (if d.size=0 then _ else _);rw[if_neg (h d hi)];exact .pure _
theorem vJ(t:TypeId)(x:Value)(i:Nat)(h:mB P t i=true):aM P (eq t x i):=by
 unfold mB at h;unfold eq underlying;refine .program ?_;show aM P (((match P.underlying t with|some d=>pure d|none=>stuck "no such type"):Sem TypeDesc)>>=_);cases hu:P.underlying t with
 |none=>exact .halt _
 |some d=>
  simp only[pure_bind];cases d with
  |struct fs=>
   rw[hu]at h;dsimp only at h⊢;cases hf:fs[i]? with
   |none=>exact .halt _
   |some f=>
    rw[hf]at h;dsimp only at h;refine(eO x).bind λa=>(qp a f λd hd e=>?_).bind λ_=>.pure _;rw[hd]at h;simp[e]at h
  |_=>exact .halt _
theorem A6(c:Array Value)(e:TypeId){k:Addr->Sem α}(h:∀a,aM P (k a)):aM P (newRow e c>>=λa=>markStringish a>>=λ_=>k a):=by
 refine .eqv (s':=.new (.cells c e (c.size,c.size+1)) λb=>k ⟨b,0,none⟩) (λw es=>?_) (.new rfl λ_=>h _);have hm:∀(l:Array Obj) (o:Obj) (f:Obj->Obj),(l.push o).modify l.size f=l.push (f o):=λl o f=>by
  apply aj_
  .simp
  .intro i h1 h2;rw[al8];split
   .rename_i e;subst e;simp
   .rename_i e;have:i<l.size:=(by simp at h2;omega);simp[Array.getElem_push_lt this]
 simp[-a12,newRow,newObj,markStringish,shape,freeze,bind,a30,a44,pure,ah9,ad6];show(k _).runT P {w with heap:=(w.heap.push (.cells c e)).modify w.heap.size _} es=_;rw[hm];rfl
theorem vD(e:TypeId)(s:ByteArray):aM P (Conv.stringToBytes e s):=.choose λ_=>A6 _ _ λ_=>.pure _
theorem vG(x:Value):aM P (an6 x):=by
 unfold an6;split
 .exact .pure _
 .refine(jf _ _).bind λcs=>aM.bind (mM _ _ _ λv b=>?_) λ_=>.pure _;split<;>first|exact .pure _|exact .halt _
 .exact .halt _
theorem vF(x:Value):aM P (an7 x):=by
 unfold an7;split
 .exact .pure _
 .refine(jf _ _).bind λcs=>aM.bind (mM _ _ _ λv b=>?_) λ_=>.pure _;split<;>first|exact .pure _|exact .halt _
 .exact .halt _
def zp(P:Program)(s d:TypeId):Bool:=
 match P.underlying s,P.underlying d with
 |some (.int _),some (.int _)=>true
 |some .string,some .string=>true
 |some .string,some (.slice _)|some (.slice _),some .string=>true
 |_,_=>false
theorem vL{s d:TypeId}(h:zp P s d=true)(x:Value)(hx:iL x=true):aM P (convert s d x):=by
 unfold zp at h;unfold convert underlying;refine .program ?_;simp only[a30];cases hs:P.underlying s with
 |none=>exact .halt _
 |some a=>
  refine .program ?_;simp only[a30];cases hd:P.underlying d with
  |none=>exact .halt _
  |some b=>
   rw[hs,hd]at h;cases a<;>cases b<;>first|(simp at h;done)|skip
   .cases x<;>first|exact .pure _|exact .halt _|(simp[iL]at hx;done)
   .cases x<;>first|exact .pure _|exact .halt _|(simp[iL]at hx;done)
   .cases x<;>first|exact .halt _|(simp[iL]at hx;done)|(rename_i a l c;cases a<;>exact .halt _)|skip
    refine(br _).bind λu=>?_;split<;>first|exact vD _ _|exact .choose λ_=>.new rfl λ_=>.pure _|exact .halt _
   .cases x<;>first|exact .pure _|(simp[iL]at hx;done)|skip
    all_goals
     refine(br _).bind λu=>?_;split<;>first|exact vG _|exact vF _|exact .halt _
def kU(P:Program)(ev:Operand->Value):Op->Prop
 | .move _| .assign _| .pick _ _ _| .alloc _| .box _ _| .build _ _| .buildSlice _ _ _| .load _ _| .store _ _ _| .unOp _ _ _| .makeInterface _ _| .makeFunc _ _ _| .makeSlice _ _ _| .slice _ _ _ _ _| .field _ _ _| .indexAddr _ _ _| .index _ _ _| .extract _ _=>True
 | .fieldAddr t _ i=>mB P t i=true
 | .nilCheck x=>∃a,ev x=.pointer (some a)
 | .convert s d x=>zp P s d=true/\iL (ev x)=true
 | .binOp op _ x y _=>(iL (ev x)=true/\iL (ev y)=true)\/((op=.eql\/op=.neq)/\∃a,ev x=.pointer a/\ev y=.pointer none)
 | .call c=>match c.callee with
   | .builtin .append| .builtin .cap| .builtin .copy| .builtin .len=>True
   |_=>False
 |_=>False
theorem i3(h:kU P ev o.op):aM P (execOp ev o):=by
 unfold execOp;have v:∀{s:Sem Value},aM P s->aM P (do pure (af3 (←s))):=λh=>h.bind λ_=>.pure _;have u:∀{s:Sem Unit},aM P s->aM P (do s;pure av5):=λh=>h.bind λ_=>.pure _;cases ho:o.op<;>rw[ho]at h<;>first|exact h.elim|exact .pure _|(obtain⟨a,ha⟩:=h;simp only[ha];exact .pure _)|skip
 .exact(by unfold asBool;split<;>first|exact .pure _|exact .halt _:aM P (asBool _)).bind λ_=>.pure _
 .exact v (Af _)
 .exact v (GA _ _)
 .exact v (Ac _ _)
 .exact v (qs _ _ _)
 .exact v (xG _ _)
 .exact u (vE _ _ _)
 .refine v ?_;rcases h with h|⟨h1,a,h2,h3⟩
  .exact(od (.inl h)).bind λ_=>GB _ _ h.1 h.2
  .rw[h2,h3];exact(od (.inr ⟨a,rfl,rfl⟩)).bind λ_=>A9 h1 _ _
 .exact v (A2 _ _)
 .exact v (vL h.1 _ h.2)
 .exact v (by unfold Instr.makeInterface;exact fU)
 .exact v (sx _ _ _)
 .exact v (A3 _ _ _ _ _)
 .exact v (vJ _ _ _ h)
 .exact v (A8 _ _ _)
 .exact v (vI _ _ _)
 .exact v (A5 _ _ _)
 .exact v (vK _ _)
 .rename_i c;obtain⟨cl,a01,ts⟩:=c;unfold kU at h;cases cl with
  |builtin b=>cases b<;>first|exact h.elim|exact v (xI _ _ _)|exact v (Gz _ _ _)|exact v (Dy _ _ _)|exact v (Gv _ _ _)
  |_=>exact h.elim
end

end Go.Proofs.YtkmoglhgkcnalaaGreatDoor
namespace Go.Proofs.YtkmoglhgkcnalaaGreatDoor
open Go Go.Conc Go.RowKit
theorem Dz{main:Bool}{k:List Item}
 (ht:fr.todo=.inRegion ops (i::rest)::k) (hw:((ops[i]?).map (ug · (yielded ops fr.tmps))).getD false=false):
 stepG.exec P main listen fr cs none w=.go {frame:=fr.finish undef,callers:=cs,status:=.running,dying:=none} w:=by
 unfold stepG.exec;simp only[ht,hw,a85,↓reduceIte]
def jB(listed:Array Bool):Nat:=listed.toList.count false
theorem rp{listed:Array Bool}(h:jB listed=0)(k:Nat)(hk:k<listed.size):listed[k]?=some true:=by
 have h1:false∉listed.toList:=List.count_eq_zero.1 h;rw[hF hk];cases e:listed[k]with
 |true=>rfl
 |false=>exact absurd (by rw[←e];exact al9.2 (af8 hk)) h1
theorem pD{listed:Array Bool}{f:Nat}(h:jB listed=f+1):∃k,k<listed.size/\listed[k]?=some false/\∀j,j<k->listed[j]?=some true:=by
 have h1:false∈listed.toList:=by
  apply List.count_pos_iff.1;unfold jB at h;omega
 have h2:∃k:Nat,listed[k]?=some false:=by
  obtain⟨k,hk,e⟩:=Array.getElem_of_mem (al9.1 h1);exact⟨k,by rw[hF hk,e]⟩
 obtain⟨k,hk⟩:=h2;induction k using Nat.strongRecOn with
 |ind k ih=>
  have SX:k<listed.size:=(ap.1 hk).1;by_cases hj:∃j:Nat,j<k/\listed[j]?=some false
  .obtain⟨j,h3,h4⟩:=hj;exact ih j h3 h4
  .refine⟨k,SX,hk,λj hj1=>?_⟩;have hn:¬listed[j]?=some false:=λe=>hj ⟨j,hj1,e⟩;rw[hF o_]at hn⊢;cases e:listed[j]' o_ with
   |true=>rfl
   |false=>rw[e]at hn;exact absurd rfl hn
theorem rn{listed:Array Bool}{f:Nat}(h:jB listed=f+1)(hn:listed[n]?=some false):jB (listed.setIfInBounds n true)=f:=by
 obtain⟨SX,e⟩:=ap.1 hn;unfold jB at h⊢;rw[ai0];have hl:n<listed.toList.length:=by simpa using SX
 have:=List.count_set (l:=listed.toList) (i:=n) (a:=true) (b:=false) hl;have e':listed.toList[n]=false:=by simpa using e
 rw[this,e',h];rfl
def needs(ops:Array Oper)(n k:Nat):Bool:=((ops[n]?).map λo=>o.after.any λe=>e.on==k&&a88 .any e).getD false
theorem di{listed:Array Bool}(h:needs ops n k=true)(ho:ops[n]?=some o)(hd:∀e∈o.after,a88 .any e=true->listed[e.on]?=some true):listed[k]?=some true:=by
 unfold needs at h;rw[ho]at h;simp only[No,a14]at h;obtain⟨j,hj,he⟩:=Array.any_eq_true.1 h;simp only[a27,beq_iff_eq]at he;rw[←he.1];exact hd _ (af8 hj) he.2
theorem eI{d:Option Tmp}(ho:ops[n]?=some o)(h:(ops[n]?).map (λo=>(o.dst,o.op,o.guard))=some (d,p,none)):o.dst=d/\o.op=p/\∀y,ug o y=true:=by
 rw[ho]at h;simp only[No,Option.some.injEq,Prod.mk.injEq]at h;refine⟨h.1,h.2.1,λy=>?_⟩;unfold ug;rw[h.2.2]
theorem lz{d:Option Tmp}{g:Option (Nat×Bool)}(h:(ops[n]?).map (λo=>(o.dst,o.op,o.guard))=some (d,p,g)):∃o,ops[n]?=some o/\o.dst=d/\o.op=p/\o.guard=g:=by
 cases ho:ops[n]? with
 |none=>rw[ho]at h;cases h
 |some o=>
  rw[ho]at h;simp only[No,Option.some.injEq,Prod.mk.injEq]at h;exact⟨o,rfl,h⟩
theorem kS{d:Option Tmp}(h:(ops[n]?).map (λo=>(o.dst,o.op,o.guard))=some (d,p,none)):∃o,ops[n]?=some o/\o.dst=d/\o.op=p/\∀y,ug o y=true:=
 let ⟨o,ho,_⟩:=lz h
 ⟨o,ho,eI ho h⟩
theorem oQ{d:Option Tmp}(ho:ops[n]?=some o)(h:(ops[n]?).map (λo=>(o.dst,o.op,o.guard))=some (d,p,none):=by rfl):o.dst=d/\o.op=p/\∀y,Region.wanted o y=true:=eI ho h
theorem aW{d:Nat}(h:a.tmps[d]?=some v):a.eval (.tmp d)=v:=by
 show a.tmps.getD d undef=v;rw[a11,h];rfl
structure aB (F:List (Nat×Value)) (N:Nat) (ds:List Deferred) (a:Act):Prop where
 defers:a.defers=ds
 size:N<=a.tmps.size
 slot:∀d v,F.lookup d=some v->a.tmps[d]?=some v
theorem aB.get(h:aB F N ds a){d:Nat}(hd:F.lookup d=some v):a.eval (.tmp d)=v:=aW (h.slot d v hd)
theorem aB.Q(h:aB F N ds a)(d:Nat)(e:F.lookup d=some v:=by rfl):a.eval (.tmp d)=v:=h.get e
theorem aB.put(h:aB F N ds a){d:Nat}(hd:d<N)(v:Value):aB ((d,v)::F) N ds (a.put (some d) v):=by
 refine⟨h.defers,by simpa[a84]using h.size,λe u he=>?_⟩;show(a.tmps.setIfInBounds d v)[e]?=some u;by_cases hed:e=d
 .subst hed;simp only[IN,beq_self_eq_true,Option.some.injEq]at he;subst he;exact uc (fi hd h.size)
 .rw[cd (a19 hed)];have hb:(e==d)=false:=by simpa using hed
  simp only[IN,hb]at he;exact h.slot e u he
theorem aB.sub{F':List (Nat×Value)}(h:aB F N ds a)(hs:∀d v,F'.lookup d=some v->F.lookup d=some v):aB F' N ds a:=⟨h.defers,h.size,λd v hd=>h.slot d v (hs d v hd)⟩
def eJ(k:Nat):List Value->List (Nat×Value)
 |[]=>[]
 |v::L=>(k,v)::eJ (k+1) L
theorem pO:∀(L:List Value) (k d:Nat) (v:Value),(eJ k L).lookup d=some v->k<=d/\L[d- k]?=some v
 |[],_,_,_,h=>by simp[eJ]at h
 |u::L,k,d,v,h=>by
  by_cases hd:d=k
  .subst hd;simp only[eJ,IN,beq_self_eq_true,Option.some.injEq]at h;subst h;simp
  .have hb:(d==k)=false:=(by simpa using hd);simp only[eJ,IN,hb]at h;obtain⟨h1,h2⟩:=pO L (k+1) d v h;refine⟨by omega,?_⟩;rw[show d- k=(d-(k+1))+1 from by omega];simpa using h2
theorem dF(L:List Value)(N:Nat)(h:L.length<=N):aB (eJ 0 L) N [] ⟨L.toArray++ve (N- L.toArray.size) undef,[]⟩:=by
 refine⟨rfl,by simp;omega,λd v hd=>?_⟩;obtain⟨_,h2⟩:=pO L 0 d v hd;rw[Nat.sub_zero]at h2;have SX:d<L.length:=(gt.1 h2).1;show(L.toArray++_)[d]?=_;rw[a48 (by simpa using SX)];simpa using h2
def xZ:List (Nat×Value)->List (Nat×Value)->Prop
 |[],_=>True
 |p::r,F=>F.lookup p.1=some p.2/\xZ r F
theorem xZ.get:∀{G:List (Nat×Value)},xZ G F->∀d v,G.lookup d=some v->F.lookup d=some v
 |[],_,_,_,h=>by cases h
 |p::r,h,d,v,hd=>by
  by_cases e:d=p.1
  .subst e;have e2:(p::r).lookup p.1=some p.2:=(by simp[IN]);rw[e2]at hd;cases hd;exact h.1
  .have e2:(p::r).lookup d=r.lookup d:=(by simp[IN,show(d==p.1)=false from by simpa using e]);rw[e2]at hd;exact xZ.get h.2 d v hd
theorem aB.only{G:List (Nat×Value)}(J:aB F N ds a)(h:xZ G F):aB G N ds a:=J.sub λd v hd=>h.get d v hd
theorem i0(w:World)(r:Loop):(cj w r).heap.size=w.heap.size+2:=by
 show((w.heap.push _).push _).size=_;rw[a92,a92]
theorem aJ(w:World)(o:Obj):Bw w (w.alloc o):=⟨rfl,rfl,rfl,by show _<=(w.heap.push o).size;simp,λk hk=>by show(w.heap.push o)[k]?=_;rw[a31,if_neg o_]⟩
theorem dc(w:World)(a:Addr)(v:Value)(h:N<=a.block):Below N w (w.setCell a v):=⟨rfl,rfl,rfl,by simp[IT],λk hk=>by simp only[IT];exact oS o_⟩
theorem AA(w:World):Below N w {w with drawn:=w.drawn+1}:=⟨rfl,rfl,rfl,dv _,λ_ _=>rfl⟩
theorem dK(w:World)(l:Nat)(r:Loop)(h:N<=l):Below N w (aT w l r):=⟨rfl,rfl,rfl,by simp[aT],λk hk=>cd o_⟩
theorem fT(w:World)(r:Loop):Bw w (cj w r):=⟨rfl,rfl,rfl,by rw[i0];omega,λk hk=>bf w r hk⟩
theorem fC(w:World)(l:Nat)(h:N<=l):Below N w {w with heap:=w.heap.setIfInBounds l (.deferred none)}:=⟨rfl,rfl,rfl,by simp,λk hk=>cd o_⟩
theorem ae(h:Below N w w')(hN:N<=w'.heap.size)(h':Bw w' Tm):Below N w Tm:=h.trans (h'.mono hN)
def hZ(id:Nat):Code->Option (Array Oper)
 | .region i ops _=>if i=id then some ops else none
 | .seq x y=>(hZ id x).or (hZ id y)
 | .block _ x=>hZ id x
 | .loop x=>hZ id x
 | .cond _ x y=>(hZ id x).or (hZ id y)
 | .rangeFunc _ _ x y=>(hZ id x).or (hZ id y)
 |_=>none
def bM(f:Func)(id:Nat):Array Oper:=(hZ id (f.body.getD .skip)).getD #[]
abbrev rG(f:Func)(n:Nat):Code:=.region n (bM f n) false
abbrev rD(f:Func)(n:Nat):Code:=.region n (bM f n) true
theorem gC{c:Code}(L:List Value)(hf:P.funcs[f]?=some fn)(hb:fn.body=some c)(hN:fn.ntmps=N):vd P f L.toArray .normal=(base f).atR ⟨L.toArray++ve (N- L.toArray.size) undef,[]⟩ [.code c]:=by
 subst hN;exact enter_at L.toArray hf hb
theorem gG(b k c:Nat):(⟨b,k,none⟩:Addr).add c=⟨b,k+c,none⟩:=by
 unfold a71;split
 .rename_i h;rw[h];rfl
 .rfl
theorem aR(w:World)(o:Obj):(w.alloc o).heap[w.heap.size]?=some o:=by
 show(w.heap.push o)[w.heap.size]?=_;rw[a31,if_pos rfl]
theorem bD(w:World)(o:Obj)(h:b<w.heap.size):(w.alloc o).heap[b]?=w.heap[b]?:=by
 show(w.heap.push o)[b]?=_;rw[a31,if_neg o_]
theorem ay(w:World)(o:Obj):(w.alloc o).heap.size=w.heap.size+1:=by
 show(w.heap.push o).size=_;rw[a92]
theorem gH{r r':Loop}(h:w.heap[l]?=some (.loop r)):(aT w l r').heap[l]?=some (.loop r'):=uc (ap.1 h).1
theorem aL(w:World)(r:Loop)(h:b≠l):(aT w l r).heap[b]?=w.heap[b]?:=cd (a19 h)
theorem jE{v0:Value}{t:TypeId}(h:w.heap[b]?=some (.cells #[v0] t)):(w.setCell ⟨b,0,none⟩ v).heap[b]?=some (.cells #[v] t):=by
 simp only[IT];rw[By,h];simp
theorem bF(w:World){a:Addr}(v:Value)(h:b≠a.block):(w.setCell a v).heap[b]?=w.heap[b]?:=by
 simp only[IT];exact oS h
def rb(f:FuncId)(l:Nat):Frame:={(default:Frame)with fn:=f,kind:=.normal,roundOf:=some l}
theorem RI{Z:Act->List Nat->World->Prop}{md:am_}(Inv:Nat->Array Bool->Act->World->Prop)
 (U1:∀listed a w,Inv 0 listed a w->Z a [] w)
 (TC:∀fuel listed a w,Inv (fuel+1) listed a w->a17 md ops listed=[]->Z a [] w)
 (Tu:∀fuel listed a w n rest,Inv (fuel+1) listed a w->n∈a17 md ops listed->(∀a' w',Inv fuel (listed.setIfInBounds n true) a' w'->Z a' rest w')->
   Z a (n::rest) w):
 ∀(fuel t:Nat) (listed:Array Bool) (a:Act) (w:World),Inv fuel listed a w->Z a (a15.go md ops fuel t listed []) w:=by
 intro fuel;induction fuel with
 |zero=>intro t listed a w h;simpa[a15.go]using U1 listed a w h
 |succ fuel ih=>
  intro t listed a w h;have hgo:a15.go md ops (fuel+1) t listed []=(match (a17 md ops listed)[t%(a17 md ops listed).length]? with
   |some i=>a15.go md ops fuel (t/(a17 md ops listed).length) (listed.setIfInBounds i true) [i]
   |none=>[].reverse):=by
   simp only[a15.go];rfl
  rw[hgo];cases hi:(a17 md ops listed)[t%(a17 md ops listed).length]? with
  |none=>
   have ZK:a17 md ops listed=[]:=by
    cases hr:a17 md ops listed with
    |nil=>rfl
    |cons x xs=>
     rw[hr]at hi;have SX:t%(x::xs).length<(x::xs).length:=ak0 _ s_;simp at hi;simp at SX;omega
   exact TC fuel listed a w h ZK
  |some n=>
   show Z a (a15.go md ops fuel (t/(a17 md ops listed).length) (listed.setIfInBounds n true) [n]) w;rw[linearise_go_acc,ak1,al3];exact Tu fuel listed a w n _ h (gv hi) λa' w' h'=>ih _ _ a' w' h'
theorem FH{Z:Act->List Nat->World->Prop}{md:am_}(Tz:∀(n:Nat) (o:Oper),ops[n]?=some o->∀e∈o.after,a88 md e=true->e.on<n)(Inv:Array Bool->Act->World->Prop)
 (TE:∀listed a w,(∀n,n<ops.size->listed[n]?=some true)->Inv listed a w->Z a [] w)
 (Tu:∀listed a w n o rest,listed.size=ops.size->ops[n]?=some o->listed[n]?=some false->(∀e∈o.after,a88 md e=true->listed[e.on]?=some true)->Inv listed a w->
   (∀a' w',Inv (listed.setIfInBounds n true) a' w'->Z a' rest w')->Z a (n::rest) w)
 (t:Nat) (a:Act) (w:World) (h0:Inv (ve ops.size false) a w):Z a (a15 md ops t) w:=by
 unfold a15;refine RI (md:=md) (λfuel listed a w=>listed.size=ops.size/\jB listed=fuel/\Inv listed a w) (λlisted a w h=>?_) (λfuel listed a w h hr=>?_) (λfuel listed a w n rest h hn Tv=>?_) ops.size t _ a w ⟨by simp,?_,h0⟩
 .exact TE listed a w (λn hn=>rp h.2.1 n (by rw[h.1];exact hn)) h.2.2
 .exfalso;obtain⟨n,h1,h2,h3⟩:=pD h.2.1;have SX:n<ops.size:=by rw[←h.1];exact h1
  have hm:n∈a17 md ops listed:=by
   unfold a17;rw[ah3];refine⟨a60.2 SX,?_⟩;rw[hF SX];have e1:listed.getD n true=false:=(by simp[a11,h2]);rw[e1];simp only[aq8,No,a14,ae8];rw[a76];intro e he;cases hb:a88 md e with
   |false=>rfl
   |true=>
    have:=Tz n _ (hF SX) e he hb;simp[a11,h3 _ this]
  rw[hr]at hm;simp at hm
 .unfold a17 at hn;rw[ah3]at hn;obtain⟨Um,TZ⟩:=hn;have SX:=a60.1 Um;rw[hF SX]at TZ;simp only[No,a14,a27,ao3]at TZ;have hl:n<listed.size:=by rw[h.1];exact SX
  have hf:listed[n]?=some false:=by
   have:=TZ.1;rw[a11,hF hl]at this;rw[hF hl];simpa using this
  refine Tu listed a w n _ rest h.1 (hF SX) hf (λe he hb=>?_) h.2.2 λa' w' h'=>Tv a' w' ⟨by simp[h.1],rn h.2.1 hf,h'⟩;have:=a76.1 TZ.2 e he;rw[hb]at this;simp only[an3,ah0]at this;rw[a11]at this;cases e3:listed[e.on]? with
  |none=>rw[e3]at this;simp at this
  |some q=>rw[e3]at this;simp at this;rw[this]
 .simp[jB]
structure HB (df:List Deferred) (fx:List (Nat×Value)) (ds:List Nat) (G:Nat->Value->World->Prop) (N:Nat) (w0:World) (a:Act) (w:World) (L:Nat->Prop):Prop where
 defers:a.defers=df
 size:N<=a.tmps.size
 fixed:∀p∈fx,a.tmps[p.1]?=some p.2
 old:Bw w0 w
 come:∀n d,ds[n]?=some d->L n->∃v,a.tmps[d]?=some v/\G n v w
def xp:Op->Bool
 | .defer _=>false
 |_=>true
def reach(ops:Array Oper):Nat->Nat->Nat->Bool
 |0,_,_=>false
 |fuel+1,n,k=>needs ops n k||(gU n).any λm=>needs ops n m&&reach ops fuel m k
def mS(ops:Array Oper)(listed:Array Bool):Prop:=∀(n:Nat) (o:Oper),ops[n]?=some o->listed[n]?=some true->∀e∈o.after,a88 .any e=true->listed[e.on]?=some true
theorem mS.reach{listed:Array Bool}(h:mS ops listed):∀(fuel n k:Nat) (o:Oper),ops[n]?=some o->(∀e∈o.after,a88 .any e=true->listed[e.on]?=some true)->reach ops fuel n k=true->listed[k]?=some true
 |0,_,_,_,_,_,hr=>by cases hr
 |fuel+1,n,k,o,ho,Tz,hr=>by
  simp only[Go.Proofs.YtkmoglhgkcnalaaGreatDoor.reach,al1,List.any_eq_true,a60,a27]at hr;rcases hr with h1|⟨m,hm,h1,h2⟩
  .exact di h1 ho Tz
  .have hl:=di h1 ho Tz;cases hm2:ops[m]? with
   |none=>
    exfalso;cases fuel with
    |zero=>cases h2
    |succ f=>
     have hz:∀k,needs ops m k=false:=λk=>by unfold needs;rw[hm2];rfl
     simp[Go.Proofs.YtkmoglhgkcnalaaGreatDoor.reach,hz]at h2
   |some om=>exact h.reach fuel m k om hm2 (h m om hm2 hl) h2
theorem mS.set{listed:Array Bool}(h:mS ops listed)(ho:ops[m]?=some o)(Tz:∀e∈o.after,a88 .any e=true->listed[e.on]?=some true):mS ops (listed.setIfInBounds m true):=by
 have up:∀k,listed[k]?=some true->(listed.setIfInBounds m true)[k]?=some true:=λk hk=>by
  by_cases e:m=k
  .subst e;exact uc (ap.1 hk).1
  .rw[cd e];exact hk
 intro n on hn hl e he hb;by_cases q:m=n
 .subst q;rw[ho]at hn;cases hn;exact up _ (Tz e he hb)
 .rw[cd q]at hl;exact up _ (h n on hn hl e he hb)
def Ak(ops:Array Oper):Bool:=(gU ops.size).all λn=>((ops[n]?).map λo=>o.after.all λe=> !Region.binds .any e||decide (e.on<n)).getD true
theorem pc(h:Ak ops=true)(n:Nat)(o:Oper)(ho:ops[n]?=some o):∀e∈o.after,a88 .any e=true->e.on<n:=by
 intro e he hb;have hn:n<ops.size:=(ap.1 ho).1;have:=a22.1 h n (a60.2 hn);rw[ho]at this;simp only[No,a14]at this;have:=a76.1 this e he;rw[hb]at this;simpa using this
def fQ(ops:Array Oper)(ds:List Nat)(fx:List Nat)(N:Nat):Bool:=
 Ak ops&&decide (ds.length<=ops.size)&&((gU ds.length).all λn=>((ops[n]?).map λo=>o.dst==ds[n]?&&xp o.op).getD false)&&decide ds.Nodup&&(ds.all λd=>decide (d<N)&& !fx.contains d)&&
 ((gU ops.size).all λn=>decide (n<ds.length)||((gU n).all λk=>reach ops ops.size n k))
theorem tO{t:Nat}(TQ:P.follows .mixedOrders=true):a93 (P.follows .mixedOrders) ops t=a15 .any ops t:=by
 unfold a93;rw[TQ];simp
theorem Qy{Z:Act->List Nat->World->Prop}{X:Nat->Oper->Act->World->(Value->World->Prop)->Prop}{ds:List Nat}{G:Nat->Value->World->Prop}(hdo:∀n o a w' rest R,n<ds.length->ops[n]?=some o->(∀c,o.op≠ .defer c)->X n o a w' R->(∀v Tm,R v Tm->Z (a.put o.dst v) rest Tm)->Z a (n::rest) w')(TD:fQ ops ds (fx.map (·.1)) N=true)(U9:∀n v w w',G n v w->Bw w w'->G n v w')
 (SS:∀n o a w',n<ds.length->ops[n]?=some o->Bw w w'->N<=a.tmps.size->(∀p∈fx,a.tmps[p.1]?=some p.2)->(∀m d,ds[m]?=some d->needs ops n m=true->∃v,a.tmps[d]?=some v/\G m v w')->X n o a w' λv Tm=>G n v Tm/\Bw w' Tm)
 (TA:Nat->Act->World->Prop) (hs0:∀a w',HB df fx ds G N w a w' (λ_=>True)->TA ds.length a w')
 (Tg:∀n o a w' rest,ds.length<=n->ops[n]?=some o->TA n a w'->(∀a' Tm,TA (n+1) a' Tm->Z a' rest Tm)->Z a (n::rest) w')
 (TE:∀a w',TA ops.size a w'->Z a [] w') (ZZ:a.defers=df) (hN:N<=a.tmps.size) (Wm:∀p∈fx,a.tmps[p.1]?=some p.2) (YE:Bw w w1) (t:Nat):Z a (a15 .any ops t) w1:=by
 simp only[fQ,a27,decide_eq_true_eq,a22,a60,al1]at TD;obtain⟨⟨⟨⟨⟨c1,c3⟩,c4⟩,c5⟩,c6⟩,c7⟩:=TD;have tail:∀{listed:Array Bool} {m:Nat} {o:Oper},mS ops listed->ds.length<=m->ops[m]?=some o->(∀e∈o.after,a88 .any e=true->listed[e.on]?=some true)->∀n,n<m->listed[n]?=some true:=λ{listed m o} TN hm ho Tz n hn=>by
  have SX:m<ops.size:=(ap.1 ho).1;exact TN.reach ops.size m n o ho Tz (((c7 m SX).resolve_left o_) n hn)
 refine FH (pc c1) (λlisted a w'=>mS ops listed/\(((∀n,ds.length<=n->n<ops.size->listed[n]?=some false)/\HB df fx ds G N w a w' λn=>listed[n]?=some true)\/∃j,ds.length<j/\j<=ops.size/\(∀n,n<j->listed[n]?=some true)/\(∀n,j<=n->n<ops.size->listed[n]?=some false)/\TA j a w'))
  (λlisted a w' TC h=>?_) (λlisted a w' m o rest Tf ho hm Tz h hgo=>?_) t a _ ⟨λn o _ hl=>?_,.inl ⟨λn _ hn=>by simp[hn],ZZ,hN,Wm,YE,λn d hd hl=>?_⟩⟩
 .refine TE a w' ?_;obtain⟨TN,h⟩:=h;rcases h with⟨h1,h2⟩|⟨j,h1,h2,h3,h4,h5⟩
  .have hK:ds.length=ops.size:=by
    refine ah4 c3 (aa2 λSX=>?_);have:=h1 ds.length (dv _) SX;rw[TC _ SX]at this;cases this
   rw[←hK];exact hs0 a w' ⟨h2.defers,h2.size,h2.fixed,h2.old,λn d hd _=>h2.come n d hd (TC n (by have:=(gt.1 hd).1;omega))⟩
  .have hj:j=ops.size:=by
    refine ah4 h2 (aa2 λSX=>?_);have:=h4 j (dv _) SX;rw[TC _ SX]at this;cases this
   rw[←hj];exact h5
 .have hmlt:m<ops.size:=(ap.1 ho).1;obtain⟨TN,h⟩:=h;have hgo:=λa' Tm x=>hgo a' Tm ⟨TN.set ho Tz,x⟩;by_cases YT:m<ds.length
  .rcases h with⟨h1,h2⟩|⟨j,h1,h2,h3,h4,h5⟩
   .have hc:=c4 m YT;rw[ho]at hc;simp only[No,a14,a27,beq_iff_eq]at hc;obtain⟨e1,e3⟩:=hc;have hdm:ds[m]?=some ds[m]:=fj YT;refine hdo m o a w' rest _ YT ho (λc e=>by rw[e]at e3;cases e3) (SS m o a w' YT ho h2.old h2.size h2.fixed λn d hd hn=>h2.come n d hd (di hn ho Tz)) λv Tm hv=>?_;rw[e1,hdm];have Lv:=c6 ds[m] (List.getElem_mem YT);refine hgo _ _ (.inl ⟨λn hn SX=>?_,h2.defers,by simpa[a84]using h2.size,λp hp=>?_,ae h2.old h2.old.size hv.2,λn d hd hl=>?_⟩)
    .rw[cd o_];exact h1 n hn SX
    .show(a.tmps.setIfInBounds ds[m] v)[p.1]?=_;rw[cd (λe=>by
      have h6:ds[m]∉fx.map (·.1):=(by simpa using Lv.2);exact h6 (by rw[e];exact List.mem_map_of_mem hp))]
     exact h2.fixed p hp
    .by_cases W4:n=m
     .subst W4;rw[hdm]at hd;cases hd;refine⟨v,?_,hv.1⟩;show(a.tmps.setIfInBounds ds[n] v)[ds[n]]?=_;exact uc (fi Lv.1 h2.size)
     .rw[cd (a19 W4)]at hl;obtain⟨u,Xa,hu2⟩:=h2.come n d hd hl;refine⟨u,?_,U9 n u w' Tm hu2 hv.2⟩;show(a.tmps.setIfInBounds ds[m] v)[d]?=_;rw[cd (λe=>by
       obtain⟨hn,rfl⟩:=gt.1 hd;exact W4 ((List.getElem_inj c5).1 e).symm)]
      exact Xa
   .have:=h3 m o_;rw[hm]at this;cases this
  .have Wu:=tail TN o_ ho Tz;have WJ:∀n,n<m+1->(listed.setIfInBounds m true)[n]?=some true:=λn hn=>by
    by_cases e:m=n
    .subst e;exact uc o_
    .rw[cd e];exact Wu n o_
   rcases h with⟨h1,h2⟩|⟨j,h1,h2,h3,h4,h5⟩
   .have hmK2:m=ds.length:=by
     refine ah4 (aa2 λSX=>?_) o_;have:=h1 ds.length (dv _) o_;rw[Wu _ SX]at this;cases this
    have hS:TA m a w':=by
     rw[hmK2];exact hs0 a w' ⟨h2.defers,h2.size,h2.fixed,h2.old,λn d hd _=>h2.come n d hd (Wu n (by have:=(gt.1 hd).1;omega))⟩
    refine Tg m o a w' rest o_ ho hS λa' Tm hS'=>hgo a' Tm (.inr ⟨m+1,by omega,by omega,WJ,λn hn SX=>?_,hS'⟩);rw[cd o_];exact h1 n o_ SX
   .have hmj:m=j:=by
     refine ah4 (aa2 λSX=>?_) (aa2 λSX=>?_)
     .have:=h4 j (dv _) o_;rw[Wu _ SX]at this;cases this
     .have:=h3 m SX;rw[hm]at this;cases this
    subst hmj;refine Tg m o a w' rest o_ ho h5 λa' Tm hS'=>hgo a' Tm (.inr ⟨m+1,by omega,by omega,WJ,λn hn SX=>?_,hS'⟩);rw[cd o_];exact h4 n o_ SX
 .rw[a72]at hl;split at hl
  .cases hl
  .cases hl
 .rw[a72]at hl;split at hl
  .cases hl
  .cases hl
theorem tz.below{q:Bool}(h:tz q w w1):Bw w w1:=by
 obtain⟨⟨n,_,e⟩,h2,h3,h4⟩:=h;refine⟨h3,h2,h4,by rw[e];simp,λk hk=>?_⟩;rw[e,a48 hk]
section
variable{C:iV}{b:Frame}{k:List Item}
def L6(C:iV)(a:Act)(o:Oper)(w:World)(R:Value->World->Prop):Prop:=
 (aM C.P (execOp a.eval o)/\∀w1,tz C.pad w w1->∃v w',(execOp a.eval o).run C.P w1=.ok (.value v) w'/\R v w')\/∃f args,Rk C a.eval o w (.enter f args) w/\Cl C f args w λe w'=>∃v,e=.returned v/\R v w'
def yp(C:iV)(ops:Array Oper)(a:Act)(o:Oper)(w:World)(R:Value->World->Prop):Prop:=(ug o (yielded ops a.tmps)=true/\L6 C a o w R)\/(ug o (yielded ops a.tmps)=false/\R undef w)
theorem oy(ho:ops[n]?=some o)(hw:ug o (yielded ops a.tmps)=false)(h:Rn C Goal (b.atR (a.put o.dst undef) (.inRegion ops rest::k)) cs w):Rn C Goal (b.atR a (.inRegion ops (n::rest)::k)) cs w:=by
 refine mj rfl (λ_ _=>Dz (fr:=b.atR a (.inRegion ops (n::rest)::k)) rfl (by rw[ho];exact hw)) ?_;rw[mL ho];exact h
theorem Hr(ho:ops[n]?=some o)(T5:∀c,o.op≠ .defer c)(h:yp C ops a o w R)(next:∀v w',R v w'->Rn C Goal (b.atR (a.put o.dst v) (.inRegion ops rest::k)) cs w'):Rn C Goal (b.atR a (.inRegion ops (n::rest)::k)) cs w:=by
 rcases h with⟨hw,⟨h1,h2⟩|⟨f,args,h1,h2⟩⟩|⟨hw,h⟩
 .exact C6 ho hw T5 h1 λw1 hp=>let ⟨v,w',q1,q2⟩:=h2 w1 hp;⟨v,w',q1,next v w' q2⟩
 .exact vZ ho hw T5 h1 h2 next
 .exact oy ho hw (next undef w h)
theorem uq{id:Nat}{ds:List Nat}{G:Nat->Value->World->Prop}(TQ:C.P.follows .mixedOrders=true)(TD:fQ ops ds (fx.map (·.1)) N=true)(U9:∀n v w w',G n v w->Bw w w'->G n v w')
 (SS:∀n o a w',n<ds.length->ops[n]?=some o->Bw w w'->N<=a.tmps.size->(∀p∈fx,a.tmps[p.1]?=some p.2)->(∀m d,ds[m]?=some d->needs ops n m=true->∃v,a.tmps[d]?=some v/\G m v w')->yp C ops a o w' λv Tm=>G n v Tm/\Bw w' Tm)
 (TA:Nat->Act->World->Prop) (hs0:∀a w',HB df fx ds G N w a w' (λ_=>True)->TA ds.length a w')
 (Tg:∀n o a w' rest,ds.length<=n->ops[n]?=some o->TA n a w'->(∀a' Tm,TA (n+1) a' Tm->Rn C Goal (b.atR a' (.inRegion ops rest::k)) cs Tm)->Rn C Goal (b.atR a (.inRegion ops (n::rest)::k)) cs w')
 (TE:∀a w',TA ops.size a w'->Rn C Goal (b.atR a k) cs w') (ZZ:a.defers=df) (hN:N<=a.tmps.size) (Wm:∀p∈fx,a.tmps[p.1]?=some p.2):Rn C Goal (b.atR a (.code (.region id ops true)::k)) cs w:=by
 refine Cb λt w1 hp=>?_;rw[tO TQ];exact Qy (Z:=λa L w=>Rn C Goal (b.atR a (.inRegion ops L::k)) cs w) (X:=λ_ o a w R=>yp C ops a o w R) (λn o a w' rest R _ ho T5 h next=>Hr ho T5 h next) TD U9 SS TA hs0 Tg (λa w' h=>a9 rfl (TE a w' h)) ZZ hN Wm hp.below t
end
section
variable{C:iV}{c:Code}{t u:Tmp}{L:List Value}{R:Ending->World->Prop}{d:TypeDesc}
theorem bv(hf:C.P.funcs[f]?=some fn)(hb:fn.body=some c)(h:∀a,aB (eJ 0 L) N [] a->Rn C Goal ((base f).atR a [.code c]) cs w)(hN:fn.ntmps=N:=by rfl)(hL:L.length<=N:=by exact Nat.le_of_ble_eq_true rfl):Rn C Goal (Frame.enter C.P f L.toArray .normal) cs w:=by
 rw[gC L hf hb hN];exact h _ (dF L N hL)
theorem fB(hf:C.P.funcs[f]?=some fn)(h:∀cs,Rn C (λg w'=>∃(a:Act) (k:List Item) (v:Value),g=dj {(base f).atR a k with mode:=.returning} cs/\a.defers=[]/\(results fn a.tmps).run C.P w'= .ok v w'/\R (.returned v) w') (vd C.P f args .normal) cs w):Cl C f args w R:=λL c cs h1 _=>h (c::cs) L λfr cs' w' ⟨a,k,v,e,hd,hr,hR⟩=>by
 injection e with e1 e2;subst e1 e2;exact sR (Goal:=λg w1=>g=dj (c.finish v) cs/\w1=w') (fr:={(base f).atR a k with mode:=.returning}) v rfl rfl hd hf hr (iZ _ _) (bj ⟨rfl,rfl⟩) L λfr1 DJ w1 ⟨e,ew⟩=>by
  injection e with e1 e2;subst e1 e2 ew;exact h1 v _ hR
theorem jz(hf:C.P.funcs[f]?=some fn)(TB:fn.results=#[.tmp t])
 (h:∀cs,Rn C (λg w'=>∃(a:Act) (k:List Item) (v:Value),g=dj {(base f).atR a k with mode:=.returning} cs/\a.defers=[]/\a.tmps[t]?=some v/\R (.returned v) w') (vd C.P f args .normal) cs w):Cl C f args w R:=by
 refine fB hf (λcs L hG=>h cs L λfr cs' w' ⟨a,k,v,e,h1,h2,h3⟩=>hG _ _ _ ⟨a,k,v,e,h1,?_,h3⟩);rw[results_tmp TB,a11,h2];rfl
theorem az(hf:C.P.funcs[f]?=some fn)(hb:fn.body=some c)(h:∀cs a,aB (eJ 0 L) N [] a->Rn C (λg w'=>∃(a:Act) (k:List Item) (v:Value),g=dj {(base f).atR a k with mode:=.returning} cs/\a.defers=[]/\a.tmps[t]?=some v/\R (.returned v) w') ((base f).atR a [.code c]) cs w)(hN:fn.ntmps=N:=by rfl)(hL:L.length<=N:=by exact Nat.le_of_ble_eq_true rfl)(TB:fn.results=#[.tmp t]:=by rfl):Cl C f L.toArray w R:=
 jz hf TB λcs=>bv hf hb (h cs) hN hL
theorem s9{bk:Nat}{cells:Array Value}(h4:w'.heap[bk]?=some (.cells cells tt))(h5:cells.size=n)(hu:P.underlying ty=some d)(hd:d.isRow=true)(hi:(P.info? ty).map (·.size)=some n):(loadVar ty ⟨bk,0,none⟩).run P w'= .ok (.agg cells) w':=by
 have hr:w'.rangeAt bk 0 cells.toList:=λj x hx=>by
  rw[gT];have:w'.cell? ⟨bk,j,none⟩=cells[j]?:=by simp[uw,h4]
  rw[this,←hx,Array.getElem?_toList]
 have hl:=run_loadVar_mid (P:=P) w' bk 0 ty cells.toList d hr hu hd (by rw[hi];simp[h5]);simpa using hl
theorem fS(hf:C.P.funcs[f]?=some fn)(TB:fn.results=#[.cell t ty,.tmp u])(hu:C.P.underlying ty=some d)(hd:d.isRow=true)(hi:(C.P.info? ty).map (·.size)=some n)
 (h:∀cs,Rn C (λg w'=>∃(a:Act) (k:List Item) (bk:Nat) (cells:Array Value) (tt:TypeId) (v:Value),g=dj {(base f).atR a k with mode:=.returning} cs/\a.defers=[]/\a.tmps[t]?=some (.pk bk 0)/\w'.heap[bk]?=some (.cells cells tt)/\cells.size=n/\a.tmps[u]?=some v/\R (.returned (.tuple #[.agg cells,v])) w') (vd C.P f args .normal) cs w):Cl C f args w R:=by
 refine fB hf λcs L hG=>h cs L λfr cs' w' ⟨a,k,bk,cells,tt,v,e,h2,h3,h4,h5,h6,h7⟩=>hG _ _ _ ⟨a,k,_,e,h2,?_,h7⟩;have hp:a.tmps[t]?.getD undef=.pk bk 0:=by rw[h3];rfl
 have hv:a.tmps[u]?.getD undef=v:=by rw[h6];rfl
 simp[results,TB,hp,hv,asAddr,s9 h4 h5 hu hd hi]
theorem cJ(hf:C.P.funcs[f]?=some fn)(TB:fn.results=#[.cell t ty])(hu:C.P.underlying ty=some d)(hd:d.isRow=true)(hi:(C.P.info? ty).map (·.size)=some n)
 (h:∀cs,Rn C (λg w'=>∃(a:Act) (k:List Item) (bk:Nat) (cells:Array Value) (tt:TypeId),g=dj {(base f).atR a k with mode:=.returning} cs/\a.defers=[]/\a.tmps[t]?=some (.pk bk 0)/\w'.heap[bk]?=some (.cells cells tt)/\cells.size=n/\R (.returned (.agg cells)) w') (vd C.P f args .normal) cs w):Cl C f args w R:=by
 refine fB hf λcs L hG=>h cs L λfr cs' w' ⟨a,k,bk,cells,tt,e,h2,h3,h4,h5,h7⟩=>hG _ _ _ ⟨a,k,_,e,h2,?_,h7⟩;have hp:a.tmps[t]?.getD undef=.pk bk 0:=by rw[h3];rfl
 simp[results,TB,hp,asAddr,s9 h4 h5 hu hd hi]
end

end Go.Proofs.YtkmoglhgkcnalaaGreatDoor
namespace Go.Proofs.YtkmoglhgkcnalaaGreatDoor
open Go Go.Conc
open Go.ConcN (sumTo upd sumTo_upd upd_ne upd_same CT Apart PermW WgLive)
def dS(P:Program)(T9:Value->World->Prop)(m:Machine)(t:Trace):Prop:=
 ∃N last o w' t',runNT P (N+1) m t=(.ended o w',t')/\runN P N m=.next last/\step P last=.ended o w'/\as1 P T9 last o w' t'
section
variable{PL:Program}
theorem dS.next{m m':Machine}{t ops:Trace}(h:stepT P m=(.next m',ops))(h':dS P T9 m' (t++ops)):dS P T9 m t:=by
 obtain⟨N,last,o,w',t',h1,h2,h3,h4⟩:=h';exact⟨N+1,last,o,w',t',by rw[runNT];simp only[h];exact h1,by rw[runN];simp only[step,h];exact h2,h3,h4⟩
theorem dS.now{m:Machine}{t ops:Trace}{o:Outcome}(h:stepT P m=(.ended o w,ops))(h':as1 P T9 m o w (t++ops)):dS P T9 m t:=
 ⟨0,m,o,w,t++ops,by simp[runNT,h],rfl,by simp[step,h],h'⟩
def dI(S:Nat->Prop):Loc->Prop
 | .cell a=>S a.block
 | .obj r=>S r
 |_=>False
def f_(S:Nat->Prop)(l:Loc):Prop:=dI S l\/l.isMemory=false
theorem bI{fn:FuncId}{pos:String}:∀op∈a25 g fn pos es,op.g=g:=λop SS=>by
 obtain⟨e,_,rfl⟩:=a18 SS;rfl
theorem r_{t:Trace}{gs:Array Goroutine}{q:Nat->Nat}(h:Leavers P t gs q)(a a':Goroutine)(w':World)(fn:FuncId)(pos:String)(es:Array Event)(ZH:0<gs.size):
 Leavers P (t++a25 0 fn pos es) ((gs.map (woken P a a' w')).setIfInBounds 0 a') q:=by
 refine⟨λi g hi hg=>?_,λj hj=>?_⟩
 .rw[cd o_,ac5]at hg;obtain⟨y,hy,rfl⟩:=IS.1 hg;have hq:=h.old i y hi hy;rw[woken_quitsD hq,Deaf_other t (g':=0) o_ _ bI];exact hq
 .have Ux:gs.size<=j:=by simpa using hj
  rw[Deaf_other t (g':=0) o_ _ bI];exact h.above j Ux
theorem FX{t:Trace}{gs:Array Goroutine}{q:Nat->Nat}(h:Leavers P t gs q){g:Goroutine}(SX:i<gs.size)(w':World)(es:Array Event)(hq:QuitsD P k (deafBehind (Deaf t i) es) g'):
 Leavers P (t++a25 i g.frame.fn g.frame.place es) ((gs.map (woken P g g' w')).setIfInBounds i g') (upd q i k):=by
 refine⟨λj x hj hx=>?_,λj hj=>?_⟩
 .by_cases hji:i=j
  .subst hji;rw[uc (by simpa using SX)]at hx;cases hx;rw[upd_same,Deaf_own];exact hq
  .rw[cd hji,ac5]at hx;obtain⟨y,hy,rfl⟩:=IS.1 hx;have XK:=h.old j y hj hy;rw[woken_quitsD XK,upd_ne q k (a19 hji),Deaf_other t hji _ bI];exact XK
 .have Ux:gs.size<=j:=by simpa using hj
  rw[Deaf_other t (g':=i) o_ _ bI];exact h.above j Ux
theorem xt{t:Trace}{gs:Array Goroutine}{q:Nat->Nat}(h:Leavers P t gs q){a:Goroutine}(h0:gs[0]?=some a)(hr:a.status=.running):∀g∈gs,Conc.awake g:=by
 intro g hg;obtain⟨i,hi,rfl⟩:=Array.mem_iff_getElem.1 hg;by_cases h1:i=0
 .subst h1;rw[hF hi]at h0;cases h0;exact awake_of (.inl hr)
 .exact awake_of ((h.old i _ o_ (hF hi)).status.elim .inl λx=>.inr (.inr x))
theorem ze{Sh:Loc->Prop}{t:Trace}(h:Quiet Sh t){fn:FuncId}{pos:String}(hm:∀e∈es,e.mute=true):Quiet Sh (t++a25 g fn pos es):=
 h.app λop SS x hx _=>by
  obtain⟨e,he,rfl⟩:=a18 SS;have:=touch_mute (hm e he);simp only at hx;rw[this]at hx;cases hx
theorem H_{a:Goroutine}(hr:a.status=.running)(w:World):
 ∀(M:Nat) (gs:Array Goroutine) (d0:Nat) (sl:Option (Nat×Nat)) (t:Trace) (q:Nat->Nat),sumTo gs.size q<=M->gs[0]?=some a->Leavers P t gs q->Past (f_ S) B t->Quiet (f_ S) t->(∀op∈t,op.g<gs.size)->
  (∀Vr d0 sl0 d U4 t' q',Vr[0]?=some a->Leavers P t' Vr q'->Past (f_ S) B t'->Quiet (f_ S) t'->(∀op∈t',op.g<Vr.size)->stepT P (crowd Vr (w.at d0) sl0)=runT P (crowd Vr (w.at d) U4) 0->dS P T9 (crowd Vr (w.at d0) sl0) t')->
  dS P T9 (crowd gs (w.at d0) sl) t:=by
 intro M;induction M with
 |zero=>
  intro gs d0 sl t q hM h0 hL hP hQ hW hk;obtain⟨i,g,d,U4,hi,hg,Tg⟩:=crowd_pick (P:=P) (w:=w.at d0) (sl:=sl) (xt hL h0 hr) ⟨0,a,h0,hr⟩;by_cases ZU:i=0
  .subst ZU;exact hk gs d0 sl d U4 t q h0 hL hP hQ hW Tg
  .exfalso;have hq:=hL.old i g o_ hi;have SX:i<gs.size:=(ap.1 hi).1;have VS:q i=0:=by
    have h1:sumTo gs.size (upd q i 0)+q i=sumTo gs.size q+0:=sumTo_upd q 0 id SX;omega
   rw[VS]at hq;rw[hq.1]at hg;cases hg
 |succ M ih=>
  intro gs d0 sl t q hM h0 hL hP hQ hW hk;obtain⟨i,g,d,U4,hi,hg,Tg⟩:=crowd_pick (P:=P) (w:=w.at d0) (sl:=sl) (xt hL h0 hr) ⟨0,a,h0,hr⟩;by_cases ZU:i=0
  .subst ZU;exact hk gs d0 sl d U4 t q h0 hL hP hQ hW Tg
  .have ZH:0<i:=(by omega);have hq:=hL.old i g ZH hi;have SX:i<gs.size:=(ap.1 hi).1;have hib:(i==0)=false:=(by simpa using ZU);cases VS:q i with
   |zero=>rw[VS]at hq;rw[hq.1]at hg;cases hg
   |succ k=>
    rw[VS]at hq;rcases hq with⟨hf,_⟩|⟨_,g',es,hm,ZC,Xb⟩
    .rw[hf]at hg;cases hg
    .have Ti:=runT_crowd_go (P:=P) (sl:=U4) (i:=i) hi (by rw[hib];exact ZC ((w.at d0).at d));have hsum:sumTo gs.size (upd q i k)+(k+1)=sumTo gs.size q+k:=by
      have h1:sumTo gs.size (upd q i k)+q i=sumTo gs.size q+k:=sumTo_upd q k id SX;omega
     refine dS.next (Tg.trans Ti) ?_;refine ih _ d U4 _ (upd q i k) (by simp only[a73,ac_];omega) ?_ (FX hL SX _ es Xb) (hP.mute o_ hm) (ze hQ hm) (λop SS=>?_) hk
     .rw[cd o_,ac5,h0];simp[woken_run hr]
     .rw[a73,ac_];rcases a50.1 SS with SS|SS
      .exact hW op SS
      .rw[bI op SS];exact SX
theorem Gs{gs:Array Goroutine}{wM:World}{t:Trace}{gM:Goroutine}{q:Nat->Nat}(Ti:gM.status=.running)(at0:gs[0]?=some gM)(leave:Leavers P t gs q)(past:Past (f_ S) wM.heap.size t)(quiet:Quiet (f_ S) t)(who:∀op∈t,op.g<gs.size)
 (h:∀d,∃v es,stepG P true gM (wM.at d)=.ended (.done v) (wM.at d) es/\(∀e∈es,EvL (f_ S) wM.heap.size e)/\T9 v (wM.at d)) (sl:Option (Nat×Nat)):dS P T9 (crowd gs wM sl) t:=by
 refine H_ Ti wM _ gs wM.drawn sl t q (dv _) at0 leave past quiet who ?_;intro Vr d0 sl0 d U4 t' q' h0 hL hP hQ hWho Tg;obtain⟨v,es,he,Xe,hpost⟩:=h d;have Uk:=runT_many_ended (P:=P) (sl:=U4) (i:=0) h0 (show stepG P (0==0) gM (wM.at d)=_ from he);have Zk:=hP.own (fn:=gM.frame.fn) (pos:=gM.frame.place) Xe;refine dS.now (Tg.trans Uk) ⟨v,rfl,hpost,Zk.clean,Zk.over,⟨λx hx=>?_,rfl⟩,λj x hx hj=>?_⟩
 .obtain⟨j,hj⟩:=List.mem_iff_getElem?.1 hx;rw[List.getElem?_drop]at hj;exact⟨_,(hL.old (1+j) x o_ (by simpa[crowd]using hj)).leaves⟩
 .refine⟨q' j,?_⟩;have hd:(t'++a25 0 gM.frame.fn gM.frame.place es).deaf j (t'++a25 0 gM.frame.fn gM.frame.place es).size=Deaf t' j:=Deaf_other t' (g:=j) (g':=0) o_ _ bI;rw[hd];exact(hL.old j x o_ hx).hears _
end
section
variable{α:Type}{r:α->α->Prop}
def BD(r:α->α->Prop)(n:Nat)(f' f:Nat->α):Prop:=∃i x,i<n/\r x (f i)/\f'=upd f i x
theorem pj:∀(n:Nat) (f:Nat->α),(∀i,i<n->Acc r (f i))->Acc (BD r n) f
 |0,f,_=>⟨_,λf' ⟨i,_,hi,_⟩=>absurd hi (a35 _)⟩
 |n+1,f,h=>by
  have key:∀x,Acc r x->∀f,Acc (BD r n) f->f n=x->(∀i,i<n->Acc r (f i))->Acc (BD r (n+1)) f:=by
   intro x hx;induction hx with
   |intro x _ ihx=>
    intro f hf;induction hf with
    |intro f hf' ihf=>
     intro hn ha;refine⟨_,λf' ⟨i,y,hi,hy,e⟩=>?_⟩;subst e;by_cases h1:i=n
     .subst h1;rw[hn]at hy;have ha':∀k,k<i->Acc r (upd f i y k):=λk hk=>by rw[upd_ne f y o_];exact ha k hk
      exact ihx y hy (upd f i y) (pj i _ ha') (upd_same f i y) ha'
     .have SX:i<n:=(by omega);refine ihf (upd f i y) ⟨i,y,SX,hy,rfl⟩ (by rw[upd_ne f y o_];exact hn) λk hk=>?_;by_cases YV:k=i
      .subst YV;rw[upd_same];exact(ha k hk).inv hy
      .rw[upd_ne f y YV];exact ha k hk
  exact key (f n) (h n (Nat.lt_succ_self n)) f (pj n f λi hi=>h i o_) rfl λi hi=>h i o_
end
structure bB (V RO:Nat->Prop) (w w':World) (es:Array Event):Prop where
 keep:∀b,b<w.heap.size->¬V b->w'.heap[b]?=w.heap[b]?
 size:w.heap.size<=w'.heap.size
 os:w'.os=w.os
 output:w'.output=w.output
 tape:w'.tape=w.tape
 ev:∀e∈es,e_ (grown V w w') RO e
theorem bB.mono(h:bB V RO w w' es)(hv:∀b,V b->V' b):bB V' RO w w' es:=
 ⟨λb hb hn=>h.keep b hb λx=>hn (hv b x),h.size,h.os,h.output,h.tape,λe he=>(h.ev e he).mono λb hb=>hb.imp (hv b) id⟩
structure dP (V:Nat->Prop) (w SU:World):Prop where
 keep:∀b,V b->SU.heap[b]?=w.heap[b]?
 size:w.heap.size<=SU.heap.size
 os:SU.os=w.os
 output:SU.output=w.output
 tape:SU.tape=w.tape
theorem dP.refl(V:Nat->Prop)(w:World):dP V w w:=⟨λ_ _=>rfl,dv _,rfl,rfl,rfl⟩
theorem dP.trans{TP:World}(h:dP V w SU)(h':dP V SU TP):dP V w TP:=
 ⟨λb hb=>(h'.keep b hb).trans (h.keep b hb),a05 h.size h'.size,h'.os.trans h.os,h'.output.trans h.output,h'.tape.trans h.tape⟩
theorem dP.at(V:Nat->Prop)(w:World)(d:Nat):dP V w (w.at d):=⟨λ_ _=>rfl,dv _,rfl,rfl,rfl⟩
theorem dP.mono(h:dP V w SU)(hv:∀b,V' b->V b):dP V' w SU:=⟨λb hb=>h.keep b (hv b hb),h.size,h.os,h.output,h.tape⟩
section
variable{Sh:Loc->Prop}{Own Ye Rd Rd':Nat->Loc->Prop}{t:Trace}
theorem Kq(h:CT Sh Own Rd t j)(ho:∀i a,touchAt t i=some a->∀k,Ye k a.loc↔Own k a.loc)(hr:∀i a,touchAt t i=some a->∀k,Rd' k a.loc↔Rd k a.loc):CT Sh Ye Rd' t j:=
 {quiet:=h.quiet
  own:=λk k1 kj l hl i a ha e=>h.own k k1 kj l (by rw[←e];exact(ho i a ha k).1 (by rw[e];exact hl)) i a ha e
  rd:=λk k1 kj l hl i a ha e hw=>h.rd k k1 kj l (by rw[←e];exact(hr i a ha k).1 (by rw[e];exact hl)) i a ha e hw
  free:=λl hs hl i a ha e=>h.free l hs (λk k1 kj=>⟨λx=>(hl k k1 kj).1 (by rw[←e];exact(ho i a ha k).2 (by rw[e];exact x)),λx=>(hl k k1 kj).2 (by rw[←e];exact(hr i a ha k).2 (by rw[e];exact x))⟩) i a ha e
  mine:=λl hs hl i a ha e hw=>h.mine l hs (λk k1 kj x=>hl k k1 kj (by rw[←e];exact(ho i a ha k).2 (by rw[e];exact x))) i a ha e hw
  nr:=h.nr
  gs:=h.gs}
end

end Go.Proofs.YtkmoglhgkcnalaaGreatDoor
namespace Go.Proofs.YtkmoglhgkcnalaaGreatDoor
open Go Go.Conc
open Go.ConcN (sumTo upd sumTo_upd upd_ne upd_same CT Apart PermW WgLive)
open Go.ConcR (KK WgAt stA smA rd wr mk DC0)
abbrev dH:ac0:=⟨0⟩
def Pi(P:Program)(ty:TypeId)(Wg:Nat):Goroutine->World->Prop:= @Go.ConcN.AtK1 dH P ty Wg 0 0 0 1
def ux(ty:TypeId)(Wg:Nat):World->World->Prop:= @at1 dH ty Wg 0 0 0 0
structure aG where
 P:Program
 ty:TypeId
 /-- the group's block;the Zx;the type of the Zx cells;how many there are;what each is to hold-/
 Wg:Nat
 C:Nat
 ety:TypeId
 n:Nat
 val:Nat->Value
 /-- what nobody writes-/
 RO:Nat->Prop
 /-- whose cell is whose-/
 mine:Nat->Nat->Prop
def aG.list(X:aG)(w:World):Prop:=∃cs,w.heap[X.C]?=some (.cells cs X.ety)/\cs.size=X.n
def aG.at(X:aG)(c:Nat):Addr:=⟨X.C,c,none⟩
structure bc (X:aG) (i:Nat) (V:Nat->Prop) (w SU:World):Prop where
 own:dP (λb=>V b\/X.RO b) w SU
 live:WgLive X.ty X.Wg w->WgLive X.ty X.Wg SU
 list:X.list w->X.list SU
 cells:∀c,X.mine i c->SU.cell? (X.at c)=w.cell? (X.at c)
theorem bc.refl(X:aG)(i:Nat)(V:Nat->Prop)(w:World):bc X i V w w:=⟨dP.refl _ w,id,id,λ_ _=>rfl⟩
theorem bc.trans{X:aG}{TP:World}(h:bc X i V w SU)(h':bc X i V SU TP):bc X i V w TP:=
 ⟨h.own.trans h'.own,h'.live∘h.live,h'.list∘h.list,λc hc=>(h'.cells c hc).trans (h.cells c hc)⟩
structure eW where
 V:Nat->Prop
 g:Goroutine
 w:World
def uA(X:aG)(i:Nat)(x:eW):Prop:=
 x.g.status=.running/\∀SU,bc X i x.V x.w SU->(∀c,X.mine i c->SU.cell? (X.at c)=some (X.val c))/\
  ∃g',stepG X.P false x.g SU=.go g' SU #[mk (.releaseMerge (stA X.Wg))]/\∃m,Goes X.P false (ux X.ty X.Wg) DC0 (Pi X.P X.ty X.Wg) m g' SU
def jh(X:aG)(i:Nat)(V:Nat->Prop)(w w':World)(es:Array Event):Prop:=
 bB V X.RO w w' es\/∃c v,X.mine i c/\w'=w.setCell (X.at c) v/\es=#[⟨.cell (X.at c),true,false⟩]
def eW.next(x:eW)(SU:World)(g':Goroutine)(w':World):eW:=⟨grown x.V SU w',g',w'⟩
def aK(X:aG)(i:Nat)(x:eW):Prop:=
 ∀Q:eW->Prop,(∀x,uA X i x->Q x)->
  (∀x:eW,x.g.status=.running->(∀SU,bc X i x.V x.w SU->∃g' w' es,stepG X.P false x.g SU=.go g' w' es/\jh X i x.V SU w' es/\Q (x.next SU g' w'))->Q x)->Q x
section
variable{X:aG}{x:eW}
theorem aK.stop(h:uA X i x):aK X i x:=λ_ hs _=>hs x h
theorem aK.step(hr:x.g.status=.running)(h:∀SU,bc X i x.V x.w SU->∃g' w' es,stepG X.P false x.g SU=.go g' w' es/\jh X i x.V SU w' es/\aK X i (x.next SU g' w')):aK X i x:=
 λQ hs hn=>hn x hr λSU SV=>let ⟨g',w',es,h1,h2,h3⟩:=h SU SV;⟨g',w',es,h1,h2,h3 Q hs hn⟩
theorem aK.cases(h:aK X i x):uA X i x\/(x.g.status=.running/\∀SU,bc X i x.V x.w SU->∃g' w' es,stepG X.P false x.g SU=.go g' w' es/\jh X i x.V SU w' es/\aK X i (x.next SU g' w')):=by
 have key:=h (λx=>aK X i x/\(uA X i x\/(x.g.status=.running/\∀SU,bc X i x.V x.w SU->∃g' w' es,stepG X.P false x.g SU=.go g' w' es/\jh X i x.V SU w' es/\aK X i (x.next SU g' w'))))
  (λx hs=>⟨aK.stop hs,.inl hs⟩) (λx hr hn=>?_)
 .exact key.2
 .have h':∀SU,bc X i x.V x.w SU->∃g' w' es,stepG X.P false x.g SU=.go g' w' es/\jh X i x.V SU w' es/\aK X i (x.next SU g' w'):=λSU SV=>
   let ⟨g',w',es,h1,h2,h3⟩:=hn SU SV
   ⟨g',w',es,h1,h2,h3.1⟩
  exact⟨aK.step hr h',.inr ⟨hr,h'⟩⟩
theorem aK.running(h:aK X i x):x.g.status=.running:=by
 rcases h.cases with h|h
 .exact h.1
 .exact h.1
def jM(X:aG)(i:Nat)(y x:eW):Prop:=¬uA X i x/\∃SU g' w' es,bc X i x.V x.w SU/\stepG X.P false x.g SU=.go g' w' es/\y=x.next SU g' w'
theorem aK.acc(h:aK X i x):Acc (jM X i) x:=by
 refine h (λx=>Acc (jM X i) x) (λx hs=>⟨_,λy hy=>absurd hs hy.1⟩) λx _ hn=>⟨_,λy hy=>?_⟩;obtain⟨_,SU,g',w',es,h1,h2,rfl⟩:=hy;obtain⟨g2,w2,es2,h3,_,h4⟩:=hn SU h1;rw[h3]at h2;cases h2;exact h4
end
structure bl (X:aG) (V:Nat->Prop) (w SU:World):Prop where
 own:dP (λb=>V b\/X.RO b) w SU
 live:WgLive X.ty X.Wg w->WgLive X.ty X.Wg SU
theorem bl.refl(X:aG)(V:Nat->Prop)(w:World):bl X V w w:=⟨dP.refl _ w,id⟩
theorem bl.trans{X:aG}{TP:World}(h:bl X V w SU)(h':bl X V SU TP):bl X V w TP:=⟨h.own.trans h'.own,h'.live∘h.live⟩
def bE(X:aG)(Next:(Nat->Prop)->Goroutine->World->Prop):Nat->(Nat->Prop)->Goroutine->World->Prop
 |0,V,g,w=>∀SU,bl X V w SU->Next V g SU
 |m+1,V,g,w=>(∀SU,bl X V w SU->Next V g SU)\/(g.status=.running/\∀SU,bl X V w SU->∃g' w' es,stepG X.P true g SU=.go g' w' es/\bB V X.RO SU w' es/\bE X Next m (grown V SU w') g' w')
section
variable{X:aG}{Next Zn:(Nat->Prop)->Goroutine->World->Prop}{g:Goroutine}
theorem bE.stop(h:∀SU,bl X V w SU->Next V g SU):bE X Next m V g w:=by
 cases m with
 |zero=>exact h
 |succ m=>exact .inl h
theorem bE.step(hr:g.status=.running)(h:∀SU,bl X V w SU->∃g' w' es,stepG X.P true g SU=.go g' w' es/\bB V X.RO SU w' es/\bE X Next m (grown V SU w') g' w'):bE X Next (m+1) V g w:=.inr ⟨hr,h⟩
theorem bE.rely:∀{m:Nat} {V:Nat->Prop} {g:Goroutine} {w SU:World},bE X Next m V g w->bl X V w SU->bE X Next m V g SU
 |0,_,_,_,_,h,hr=>λTP UC=>h TP (hr.trans UC)
 |_+1,_,_,_,_,h,hr=>h.elim (λh=>.inl λTP UC=>h TP (hr.trans UC)) λ⟨hs,h⟩=>.inr ⟨hs,λTP UC=>h TP (hr.trans UC)⟩
theorem bE.mono(hN:∀V g w,Next V g w->Zn V g w):∀{m:Nat} {V:Nat->Prop} {g:Goroutine} {w:World},bE X Next m V g w->bE X Zn m V g w
 |0,_,_,_,h=>λSU SV=>hN _ _ _ (h SU SV)
 |_+1,_,_,_,h=>h.elim (λh=>.inl λSU SV=>hN _ _ _ (h SU SV)) λ⟨hs,h⟩=>.inr ⟨hs,λSU SV=>let ⟨g',w',es,h1,h2,h3⟩:=h SU SV;⟨g',w',es,h1,h2,bE.mono hN h3⟩⟩
theorem bE.running(hN:∀V g w,Next V g w->g.status=.running)(h:bE X Next m V g w):g.status=.running:=by
 cases m with
 |zero=>exact hN _ _ _ (h w (bl.refl X V w))
 |succ m=>exact h.elim (λh=>hN _ _ _ (h w (bl.refl X V w))) λh=>h.1
theorem bE.trans{Si:(Nat->Prop)->Goroutine->World->Prop}:∀{m:Nat} {V:Nat->Prop} {g:Goroutine} {w:World},bE X Si m V g w->(∀V g w,Si V g w->bE X Next k V g w)->bE X Next (m+k) V g w
 |0,V,g,w,h,hM=>by
  have h0:=hM V g w (h w (bl.refl X V w));rw[gT];exact h0
 |m+1,V,g,w,h,hM=>by
  rw[show m+1+k=(m+k)+1 from by omega];rcases h with h|⟨hs,h⟩
  .have h0:=hM V g w (h w (bl.refl X V w));have up:∀{k:Nat} {V:Nat->Prop} {g:Goroutine} {w:World},bE X Next k V g w->∀e,bE X Next (e+k) V g w:=by
    intro k;induction k with
    |zero=>exact λh e=>bE.stop h
    |succ k ih=>
     intro V g w h e;rw[show e+(k+1)=(e+k)+1 from by omega];exact h.elim .inl λ⟨hs,h⟩=>.inr ⟨hs,λSU SV=>let ⟨g',w',es,h1,h2,h3⟩:=h SU SV;⟨g',w',es,h1,h2,ih h3 e⟩⟩
   rw[show m+k+1=(m+1)+k from by omega];exact up h0 (m+1)
  .exact .inr ⟨hs,λSU SV=>let ⟨g',w',es,h1,h2,h3⟩:=h SU SV;⟨g',w',es,h1,h2,bE.trans h3 hM⟩⟩
theorem dE(V RO:Nat->Prop)(w:World):bB V RO w w #[]:=⟨λ_ _ _=>rfl,dv _,rfl,rfl,rfl,λe he=>by simp at he⟩
theorem bS(V:Nat->Prop)(w:World):grown V w w=V:=by
 funext b
 apply propext;exact⟨λh=>h.elim id λh=>absurd h.2 (Nat.not_lt.2 h.1),.inl⟩
theorem oC{Stop:Goroutine->World->Prop}:∀{m:Nat} {g:Goroutine} {w:World},Goes X.P true (bl X V) DC0 Stop m g w->bE X (λV' g w=>V'=V/\Stop g w) m V g w
 |0,_,_,h=>λSU SV=>⟨rfl,h SU SV⟩
 |m+1,g,w,h=>by
  rcases h with h|⟨hs,h⟩
  .exact .inl λSU SV=>⟨rfl,h SU SV⟩
  .refine .inr ⟨hs,λSU SV=>?_⟩;have hg:=h SU SV;cases Tg:stepG X.P true g SU with
   |go g' w' es=>
    rw[Tg,goes_go]at hg;obtain⟨⟨h1,h2⟩,h3⟩:=hg;subst h1 h2;refine⟨g',w',#[],rfl,dE _ _ _,?_⟩;rw[bS];exact oC h3
   |_=>rw[Tg]at hg;exact hg.elim
end

end Go.Proofs.YtkmoglhgkcnalaaGreatDoor
namespace Go.Proofs.YtkmoglhgkcnalaaGreatDoor
open Go Go.Conc
open Go.ConcR (DC0)
section
variable{X:aG}{Stop:Goroutine->World->Prop}
theorem nL(h:∀e∈es,e_ V RO e):bB V RO w w es:=⟨λ_ _ _=>rfl,dv _,rfl,rfl,rfl,λe he=>(h e he).mono λ_ hb=>.inl hb⟩
theorem m5(V RO:Nat->Prop)(w:World)(o:Obj):bB V RO w (w.alloc o) #[]:=
 ⟨λb hb _=>by show(w.heap.push o)[b]?=_;rw[a31,if_neg (Nat.ne_of_lt hb)],by show _<=(w.heap.push o).size;rw[a92];omega,rfl,rfl,rfl,λe he=>by simp at he⟩
theorem Bv{a:Addr}(ha:V a.block)(v:Value):bB V RO w (w.setCell a v) #[⟨.cell a,true,false⟩]:=
 ⟨λb _ hb=>by simp only[IT];exact oS λe=>hb (e▸ha),by simp[IT],rfl,rfl,rfl,λe he=>by simp only[a46,a61]at he;subst he;exact⟨rfl,.inl (.inl ha)⟩⟩
theorem aK.own{g:Goroutine}(hr:g.status=.running)(h:∀SU,bc X i V w SU->∃g' w' es,stepG X.P false g SU=.go g' w' es/\bB V X.RO SU w' es/\aK X i ⟨grown V SU w',g',w'⟩):aK X i ⟨V,g,w⟩:=
 aK.step hr λSU SV=>let ⟨g',w',es,h1,h2,h3⟩:=h SU SV;⟨g',w',es,h1,.inl h2,h3⟩
theorem aK.put{g:Goroutine}(hr:g.status=.running)(h:∀SU,bc X i V w SU->∃g' c v,X.mine i c/\stepG X.P false g SU=.go g' (SU.setCell (X.at c) v) #[⟨.cell (X.at c),true,false⟩]/\aK X i ⟨V,g',SU.setCell (X.at c) v⟩):aK X i ⟨V,g,w⟩:=by
 refine aK.step hr λSU SV=>?_;obtain⟨g',c,v,h1,h2,h3⟩:=h SU SV;refine⟨g',_,_,h2,.inr ⟨c,v,h1,rfl,rfl⟩,?_⟩;have e:grown V SU (SU.setCell (X.at c) v)=V:=by
  funext b
  apply propext;exact⟨λh=>h.elim id λh=>absurd h.2 (by simpa[IT]using h.1),.inl⟩
 show aK X i ⟨grown V SU (SU.setCell (X.at c) v),g',_⟩;rw[e];exact h3
end

end Go.Proofs.YtkmoglhgkcnalaaGreatDoor
namespace Go.Proofs.YtkmoglhgkcnalaaGreatDoor
open Go Go.Conc
open Go.ConcN (WgLive)
open Go.ConcR (KK WgAt stA smA rd wr DC0)
section
variable{main:Bool}{R R':World->World->Prop}{D':World->World->Array Event->Prop}{Stop:Goroutine->World->Prop}{rel:Mark}
def LN(P:Program)(main:Bool)(g:Goroutine)(w:World):Prop:=∃g',stepG P main g w=.go g' w #[Go.ConcR.mk .disable]
def AR(P:Program)(main:Bool)(R:World->World->Prop)(rel:Mark)(g:Goroutine)(w:World):Prop:=
 g.status=.running/\∃g',stepG P main g w=.go g' w #[Go.ConcR.mk rel]/\∃m,Goes P main R DC0 (LN P main) m g' w
theorem FR{a b:Mark}(h:(#[Go.ConcR.mk a]:Array Event)=#[Go.ConcR.mk b]):a=b:=by
 simpa[Go.ConcR.mk]using h
theorem Jy(VR:rel≠ .disable)(hR:∀w,R w w)(Yp:∀w,R' w w)(hS:∀g w,Stop g w->∃g',stepG P main g w=.go g' w #[Go.ConcR.mk rel])(hD:∀w w',¬D' w w' #[Go.ConcR.mk .disable]):
 ∀(m n:Nat) (g:Goroutine) (w:World),Goes P main R DC0 (LN P main) m g w->Goes P main R' D' Stop n g w->False:=by
 have VB:∀n g w,Goes P main R' D' Stop n g w->∀g' es,stepG P main g w=.go g' w es->es≠#[Go.ConcR.mk rel]->D' w w es/\∃n',n=n'+1/\Goes P main R' D' Stop n' g' w:=by
  intro n g w h g' es Tg T2;rcases ad2 h with hs|⟨n',rfl,hs⟩
  .obtain⟨g1,h1⟩:=hS g w (hs w (Yp w));rw[Tg]at h1;cases h1;exact absurd rfl T2
  .obtain⟨g1,w1,Yv,h1,h2,h3⟩:=hs w (Yp w);rw[Tg]at h1;cases h1;exact⟨h2,n',rfl,h3⟩
 intro m;induction m with
 |zero=>
  intro n g w h h';obtain⟨g',Tg⟩:=h w (hR w);exact hD _ _ (VB n g w h' g' _ Tg λe=>VR (FR e).symm).1
 |succ m ih=>
  intro n g w h h';rcases ad2 h with hs|⟨m',e,hs⟩
  .obtain⟨g',Tg⟩:=hs w (hR w);exact hD _ _ (VB n g w h' g' _ Tg λe=>VR (FR e).symm).1
  .cases e;obtain⟨g',w',es,Tg,⟨rfl,rfl⟩,h2⟩:=hs w (hR w);obtain⟨_,n',rfl,h3⟩:=VB n g w' h' g' _ Tg s_;exact ih n' g' w' h2 h3
theorem As(VR:rel≠ .disable)(hR:∀w,R w w)(Yp:∀w,R' w w)(U6:∀w w',R w w'->R' w w')(htr:∀a b c,R' a b->R' b c->R' a c)(hS:∀g w,Stop g w->∃g',stepG P main g w=.go g' w #[Go.ConcR.mk rel])(hD:∀w w',¬D' w w' #[Go.ConcR.mk .disable]):
 ∀(m n:Nat) (g:Goroutine) (w:World),Goes P main R DC0 (AR P main R rel) m g w->Goes P main R' D' Stop n g w->Goes P main R DC0 Stop m g w:=by
 have cand:∀n g w,AR P main R rel g w->Goes P main R' D' Stop n g w->Stop g w:=by
  intro n g w ⟨_,g',Tg,m,hm⟩ h;rcases ad2 h with hs|⟨n',rfl,hs⟩
  .exact hs w (Yp w)
  .exfalso;obtain⟨g1,w1,Yv,h1,h2,h3⟩:=hs w (Yp w);rw[Tg]at h1;cases h1;exact Jy VR hR Yp hS hD m n' _ _ hm h3
 intro m;induction m with
 |zero=>exact λn g w h h' SU SV=>cand n g SU (h SU SV) (ar9 htr h' (U6 _ _ SV))
 |succ m ih=>
  intro n g w h h';rcases h with h|⟨hs,h⟩
  .exact .inl λSU SV=>cand n g SU (h SU SV) (ar9 htr h' (U6 _ _ SV))
  .refine .inr ⟨hs,λSU SV=>?_⟩;have hg:=h SU SV;cases Tg:stepG P main g SU with
   |go g' w' es=>
    rw[Tg,goes_go]at hg;rw[goes_go];obtain⟨⟨h1,h2⟩,h3⟩:=hg;subst h1 h2;refine⟨⟨rfl,rfl⟩,?_⟩;have h'':=ar9 htr h' (U6 _ _ SV);rcases ad2 h'' with hq|⟨n',rfl,hq⟩
    .obtain⟨g1,e1⟩:=hS g _ (hq _ (Yp _));rw[Tg]at e1;simp at e1
    .obtain⟨g1,w1,Yv,e1,_,e3⟩:=hq _ (Yp _);rw[Tg]at e1;cases e1;exact ih n' _ _ h3 e3
   |_=>rw[Tg]at hg;exact hg.elim
end

end Go.Proofs.YtkmoglhgkcnalaaGreatDoor
namespace Go.Proofs.YtkmoglhgkcnalaaGreatDoor
open Go Go.Conc
open Go.ConcN (sumTo upd sumTo_upd upd_ne upd_same CT Apart PermW WgLive)
open Go.ConcR (KK WgAt stA smA rd wr mk DC0)
section
variable(X:aG)(Fin Anch:(Nat->Prop)->Goroutine->World->Prop)
def AJ(m:Mark)(Next:(Nat->Prop)->Goroutine->World->Prop)(V:Nat->Prop)(g:Goroutine)(w:World):Prop:=
 g.status=.running/\∃g',stepG X.P true g w=.go g' w #[mk m]/\∃k,bE X Next k V g' w
def LO:=AJ X (.acquire (stA X.Wg)) Fin
def Pj:=AJ X .enable (LO X Fin)
def Rj(V:Nat->Prop)(g:Goroutine)(w:World):Prop:=
 g.status=.running/\(WgAt X.ty X.Wg w 0 0->∃g',stepG X.P true g w=.go g' w #[rd (stA X.Wg)]/\∃k,bE X (Pj X Fin) k V g' w)
def Ph(V:Nat->Prop)(g:Goroutine)(w:World):Prop:=
 g.status=.running/\g.offers=none/\((∃st,WgAt X.ty X.Wg w st 0)->stepG X.P true g w=.go {g with status:=.blocked} w #[])/\
  (WgAt X.ty X.Wg w 0 1->∃g',stepG X.P true g w=.go g' (w.setCell (smA X.Wg) (.int .u32 0)) (semEvents (smA X.Wg))/\∃k,bE X (Rj X Fin) k V g' (w.setCell (smA X.Wg) (.int .u32 0)))
def Ri:=AJ X (.write (smA X.Wg)) (Ph X Fin)
def Rl(vs:Nat)(V:Nat->Prop)(g:Goroutine)(w:World):Prop:=
 g.status=.running/\∀v:Nat,v<2147483648->WgAt X.ty X.Wg w (v*KK) 0->
  (v=vs->∃g',stepG X.P true g w=.go g' (w.setCell (stA X.Wg) (.int .u64 (v*KK+1))) #[rd (stA X.Wg),wr (stA X.Wg)]/\∃k,bE X (Ri X Fin) k V g' (w.setCell (stA X.Wg) (.int .u64 (v*KK+1))))/\
  (v≠vs->∃g',stepG X.P true g w=.go g' w #[rd (stA X.Wg)]/\∃k,bE X Anch k V g' w)
def qH(V:Nat->Prop)(g:Goroutine)(w:World):Prop:=
 g.status=.running/\∀v:Nat,v<2147483648->WgAt X.ty X.Wg w (v*KK) 0->∃g',stepG X.P true g w=.go g' w #[rd (stA X.Wg)]/\
  (v=0->∃k,bE X (Pj X Fin) k V g' w)/\(v≠0->∃k,bE X (Rl X Fin Anch v) k V g' w)
def HH:=AJ X .disable Anch
def Pk(i:Nat)(Next:(Nat->Prop)->Goroutine->World->Prop)(V:Nat->Prop)(g:Goroutine)(w:World):Prop:=
 g.status=.running/\∃g' child Vc,stepG X.P true g w=.spawn g' child w #[]/\(∀b,Vc b->V b)/\(X.list w->(∀b,Vc b->b<w.heap.size)->aK X i ⟨Vc,child,w⟩)/\Next (λb=>V b/\¬Vc b) g' w
def HG(i:Nat)(Next:(Nat->Prop)->Goroutine->World->Prop):=AJ X .enable (Pk X i Next)
def Rm(i:Nat)(Next:(Nat->Prop)->Goroutine->World->Prop):=AJ X (.read (smA X.Wg)) (HG X i Next)
def Ro(i:Nat)(Next:(Nat->Prop)->Goroutine->World->Prop)(V:Nat->Prop)(g:Goroutine)(w:World):Prop:=
 g.status=.running/\∀v:Nat,v<2147483647->WgAt X.ty X.Wg w (v*KK) 0->
  ∃g',stepG X.P true g w=.go g' (w.setCell (stA X.Wg) (.int .u64 ((v+1)*KK))) #[rd (stA X.Wg),wr (stA X.Wg)]/\
   (v=0->∃k,bE X (Rm X i Next) k V g' (w.setCell (stA X.Wg) (.int .u64 ((v+1)*KK))))/\(v≠0->∃k,bE X (HG X i Next) k V g' (w.setCell (stA X.Wg) (.int .u64 ((v+1)*KK))))
def yt(i:Nat)(Next:(Nat->Prop)->Goroutine->World->Prop):=AJ X .disable (Ro X i Next)
def jL(n:Nat):Nat->(Nat->Prop)->Goroutine->World->Prop
 |0,V,g,w=>∃k,bE X (HH X Anch) k V g w
 |r+1,V,g,w=>∃k,bE X (yt X (n-(r+1)) (jL n r)) k V g w
end

end Go.Proofs.YtkmoglhgkcnalaaGreatDoor
namespace Go.Proofs.YtkmoglhgkcnalaaGreatDoor
open Go Go.Conc
open Go.ConcN (sumTo upd sumTo_upd upd_ne upd_same CT Apart PermW WgLive RelBy WD ShN OkW Ok0)
open Go.ConcR (KK WgAt stA smA rd wr mk DC0)
abbrev yl(X:aG):Nat->Nat->Nat->Goroutine->World->Prop:= @Go.ConcN.WSit dH X.P X.ty X.Wg 0 0 (λ_ _=>False) (λ_ _=>False) 0 1 .nilFunc
def ia(S:Nat->Prop)(Wg:Nat)(l:Loc):Prop:=f_ (λb=>S b\/b=Wg) l
def nN(X:aG)(m j:Nat)(Nd:Nat->eW)(k:Nat)(l:Loc):Prop:=∃i,i<j/\k=1+m+i/\(dI (Nd i).V l\/∃c,X.mine i c/\l=.cell (X.at c))
def vc(X:aG)(m:Nat)(k:Nat)(l:Loc):Prop:=m<k/\dI X.RO l
structure i_ (X:aG) (S:Nat->Prop) (j:Nat) (Nd:Nat->eW) (V0:Nat->Prop) (w:World):Prop where
 mine:∀i i' c,X.mine i c->X.mine i' c->i=i'
 wgc:X.Wg≠X.C
 wgl:X.Wg<w.heap.size/\X.C<w.heap.size
 ro:∀b,X.RO b->b<w.heap.size/\b≠X.Wg/\b≠X.C
 sh:∀b,S b->b<w.heap.size/\¬X.RO b/\b≠X.C
 v0:∀b,V0 b->b<w.heap.size/\¬X.RO b/\b≠X.Wg/\b≠X.C/\¬S b
 priv:∀i,i<j->∀b,(Nd i).V b->b<w.heap.size/\¬X.RO b/\b≠X.Wg/\b≠X.C/\¬S b/\¬V0 b
 two:∀i i',i<j->i'<j->∀b,(Nd i).V b->(Nd i').V b->i=i'
section
variable{X:aG}{Nd:Nat->eW}
theorem fP{B:Nat->Prop}{l:Loc}(ha:dI A l)(hb:dI B l):∃b,A b/\B b:=by
 cases l with
 |cell a=>exact⟨_,ha,hb⟩
 |obj r=>exact⟨_,ha,hb⟩
 |_=>exact ha.elim
theorem uJ{B:Nat->Prop}{l:Loc}(ha:dI A l)(hb:f_ B l):∃b,A b/\B b:=by
 rcases hb with hb|hb
 .exact fP ha hb
 .cases l with
  |cell a=>cases hb
  |obj r=>cases hb
  |_=>exact ha.elim
theorem i_.apart(h:i_ X S j Nd V0 w):Apart (ia S X.Wg) (nN X m j Nd) (vc X m):=by
 refine⟨λk k' l ⟨i,hi,hk,ho⟩ ⟨i',Tj,VW,YN⟩=>?_,λk k' l ⟨i,hi,hk,ho⟩ ⟨_,hr⟩=>?_,λk l ⟨i,hi,hk,ho⟩ hs=>?_,λk l ⟨_,hr⟩ hs=>?_⟩
 .have:i=i':=by
   rcases ho with ho|⟨c,hc,rfl⟩<;>rcases YN with YN|⟨c',VG,e⟩
   .obtain⟨b,h1,h2⟩:=fP ho YN;exact h.two i i' hi Tj b h1 h2
   .subst e;exact absurd rfl (h.priv i hi _ ho).2.2.2.1
   .exact absurd rfl (h.priv i' Tj _ YN).2.2.2.1
   .simp only[aG.at,Loc.cell.injEq,Addr.mk.injEq,true_and,and_true]at e;subst e;exact h.mine i i' c hc VG
  omega
 .rcases ho with ho|⟨c,hc,rfl⟩
  .obtain⟨b,h1,h2⟩:=fP ho hr;exact(h.priv i hi b h1).2.1 h2
  .exact absurd rfl (h.ro _ hr).2.2
 .rcases ho with ho|⟨c,hc,rfl⟩
  .obtain⟨b,h1,h2⟩:=uJ ho hs;exact h2.elim (h.priv i hi b h1).2.2.2.2.1 (h.priv i hi b h1).2.2.1
  .have Uu:S X.C\/X.C=X.Wg:=hs.elim id λh=>by cases h
   exact Uu.elim (λhs=>absurd rfl (h.sh _ hs).2.2) λe=>h.wgc e.symm
 .obtain⟨b,h1,h2⟩:=uJ hr hs;exact h2.elim (λh2=>(h.sh b h2).2.1 h1) (h.ro b h1).2.1
theorem i_.grow(h:i_ X S j Nd V0 w)(hs:w.heap.size<=w'.heap.size):i_ X S j Nd V0 w':=
 ⟨h.mine,h.wgc,⟨by have:=h.wgl.1;omega,by have:=h.wgl.2;omega⟩,λb hb=>⟨by have:=(h.ro b hb).1;omega,(h.ro b hb).2⟩,λb hb=>⟨by have:=(h.sh b hb).1;omega,(h.sh b hb).2⟩,λb hb=>⟨by have:=(h.v0 b hb).1;omega,(h.v0 b hb).2⟩,λi hi b hb=>⟨by have:=(h.priv i hi b hb).1;omega,(h.priv i hi b hb).2⟩,h.two⟩
theorem i_.work(h:i_ X S j Nd V0 w)(hi:i<j){wl:World}(hs:w.heap.size<=w'.heap.size):i_ X S j (upd Nd i ⟨grown (Nd i).V w w',g',wl⟩) V0 w':=by
 have hg:=h.grow hs;have Uo:∀b,w.heap.size<=b/\b<w'.heap.size->b<w'.heap.size/\¬X.RO b/\b≠X.Wg/\b≠X.C/\¬S b/\¬V0 b:=λb hb=>
  ⟨hb.2,λhr=>by have:=(h.ro b hr).1;omega,by have:=h.wgl.1;omega,by have:=h.wgl.2;omega,λhr=>by have:=(h.sh b hr).1;omega,λhr=>by have:=(h.v0 b hr).1;omega⟩
 refine⟨hg.mine,hg.wgc,hg.wgl,hg.ro,hg.sh,hg.v0,λk hk b hb=>?_,λk k' hk VW b hb Ud=>?_⟩
 .by_cases e:k=i
  .subst e;rw[upd_same]at hb;rcases hb with hb|hb
   .exact hg.priv k hk b hb
   .exact Uo b hb
  .rw[upd_ne Nd _ e]at hb;exact hg.priv k hk b hb
 .by_cases e:k=i<;>by_cases e':k'=i
  .omega
  .subst e;rw[upd_same]at hb;rw[upd_ne Nd _ e']at Ud;rcases hb with hb|hb
   .exact h.two k k' hk VW b hb Ud
   .have:=(h.priv k' VW b Ud).1;omega
  .subst e';rw[upd_same]at Ud;rw[upd_ne Nd _ e]at hb;rcases Ud with Ud|Ud
   .exact h.two k k' hk VW b hb Ud
   .have:=(h.priv k hk b hb).1;omega
  .rw[upd_ne Nd _ e]at hb;rw[upd_ne Nd _ e']at Ud;exact h.two k k' hk VW b hb Ud
theorem i_.main(h:i_ X S j Nd V0 w)(hs:w.heap.size<=w'.heap.size):i_ X S j Nd (grown V0 w w') w':=by
 have hg:=h.grow hs;refine⟨hg.mine,hg.wgc,hg.wgl,hg.ro,hg.sh,λb hb=>?_,λk hk b hb=>?_,hg.two⟩
 .rcases hb with hb|hb
  .exact hg.v0 b hb
  .exact⟨hb.2,λhr=>by have:=(h.ro b hr).1;omega,by have:=h.wgl.1;omega,by have:=h.wgl.2;omega,λhr=>by have:=(h.sh b hr).1;omega⟩
 .obtain⟨h1,h2,h3,h4,h5,h6⟩:=hg.priv k hk b hb;refine⟨h1,h2,h3,h4,h5,λhv=>hv.elim h6 λhv=>?_⟩;have:=(h.priv k hk b hb).1;omega
end

end Go.Proofs.YtkmoglhgkcnalaaGreatDoor
namespace Go.Proofs.YtkmoglhgkcnalaaGreatDoor
open Go Go.Conc
open Go.ConcN (sumTo upd sumTo_upd upd_ne upd_same CT Apart PermW WgLive RelBy WD ShN OkW Ok0 norel_of)
open Go.ConcR (KK WgAt stA smA rd wr mk DC0)
structure j0 (X:aG) (S:Nat->Prop) (m j:Nat) (gs:Array Goroutine) (w:World) (t:Trace) (D:Nat->WD) (Nd:Nat->eW) (V0:Nat->Prop) (d0:Nat) (q:Nat->Nat):Prop where
 size:gs.size=1+m+j
 old:∀i,0<i->i<=m->∃g,gs[i]?=some g/\QuitsD X.P (q i) (Deaf t i) g
 wk:∀i,i<j->∃g,gs[1+m+i]?=some g/\(((D i).stage=7/\(D i).fuel=0/\(D i).deaf=0/\g=(Nd i).g/\aK X i (Nd i)/\bc X i (Nd i).V (Nd i).w w)\/((D i).stage<=6/\yl X (D i).stage (D i).fuel (D i).deaf g w))
 lies:i_ X S j Nd V0 w
 tabRO:X.RO 0
 ct:CT (ia S X.Wg) (nN X m j Nd) (vc X m) t (m+j)
 norel:NoRelease (stA X.Wg) t
 deaf0:Deaf t 0=d0
 deafW:∀i,i<j->Deaf t (1+m+i)=(D i).deaf
 rel:∀i,i<j->(D i).stage<=6->∃r,RelBy (stA X.Wg) t (1+m+i) r
 has:∀i,i<j->(D i).stage<=6->∀c,X.mine i c->w.cell? (X.at c)=some (X.val c)
 list:X.list w
 seen:∀op∈t,op.act.low w.heap.size
 over:∀(i g:Nat),t.g? i=some g->g≠0->g<=m->t.counts i->∃k,t.g? k=some 0/\HappensBefore t i k
 known:∀(i:Nat) (a:Touch) (g:Nat),touchAt t i=some a->t.g? i=some g->g<=m->a.loc.isMemory=true->Knows t 0 i\/(ia S X.Wg a.loc/\a.kind=.atomic)
 atom:∀(i:Nat) (a:Touch) (g:Nat),touchAt t i=some a->t.g? i=some g->m<g->a.kind=.atomic->ia S X.Wg a.loc
section
variable{X:aG}{gs:Array Goroutine}{t:Trace}{D:Nat->WD}{Nd:Nat->eW}{d0:Nat}{q:Nat->Nat}
theorem Jv{Sh:Loc->Prop}{Own Rd:Nat->Loc->Prop}(hv:∀l,dI V l->Own k l)(hr:∀l,dI RO l->Rd k l){e:Event}(he:e_ V RO e)(fn:FuncId)(pos:String):OkW Sh Own Rd k {g:=k,fn,pos,act:=.ofEvent e}:=by
 refine⟨rfl,λx hx=>?_⟩;obtain⟨loc,wr,sy⟩:=e;cases loc with
 |cell a=>
  obtain⟨rfl,h⟩:=he;have TH:(ab4 ⟨.cell a,wr,false⟩).touch?=some x:=hx;simp only[a33,Option.some.injEq]at TH;subst TH;rcases h with h|⟨h,h2⟩
  .exact .inr (.inl (hv (.cell a) h))
  .exact .inr (.inr ⟨hr (.cell a) h,h2⟩)
 |obj r=>
  obtain⟨rfl,h⟩:=he;have TH:(a2_ ⟨.obj r,wr,false⟩).touch?=some x:=hx;simp only[a2_,a33,Option.some.injEq]at TH;subst TH;exact .inr (.inl (hv (.obj r) h))
 |mark mm=>
  have hm:i1 mm=true:=he;cases mm with
  |extern f=>cases hx
  |noRoom=>cases hx
  |_=>simp[i1]at hm
 |output=>exact he.elim
 |goroutines=>exact he.elim
theorem D3{e:Event}(he:e_ V RO e){x:Touch}(hx:(a2_ e).touch?=some x):x.kind=.plain:=by
 obtain⟨loc,wr,sy⟩:=e;cases loc with
 |cell a=>
  obtain⟨rfl,h⟩:=he;have TH:(ab4 ⟨.cell a,wr,false⟩).touch?=some x:=hx;simp only[a33,Option.some.injEq]at TH;subst TH;rfl
 |obj r=>
  obtain⟨rfl,h⟩:=he;simp only[a2_,a33,Option.some.injEq]at hx;subst hx;rfl
 |mark mm=>
  have hm:i1 mm=true:=he;cases mm with
  |extern f=>cases hx
  |noRoom=>cases hx
  |_=>simp[i1]at hm
 |output=>exact he.elim
 |goroutines=>exact he.elim
theorem vk(hv:∀b,V b->b<B)(hr:∀b,RO b->b<B){e:Event}(he:e_ V RO e):(a2_ e).low B:=by
 obtain⟨loc,wr,sy⟩:=e;cases loc with
 |cell a=>
  obtain⟨rfl,h⟩:=he;show a.block<B;rcases h with h|⟨h,_⟩
  .exact hv _ h
  .exact hr _ h
 |obj r=>
  obtain⟨rfl,h⟩:=he;simp only[a2_,MemAct.low,Loc.low];exact hv _ h
 |mark mm=>
  have hm:i1 mm=true:=he;cases mm with
  |extern f=>trivial
  |noRoom=>trivial
  |_=>simp[i1]at hm
 |output=>exact he.elim
 |goroutines=>exact he.elim
theorem j4{e:Event}(he:e_ V RO e):e.loc≠ .mark .disable/\e.loc≠ .mark .enable/\∀a,e.loc≠ .mark (.release a):=by
 obtain⟨loc,wr,sy⟩:=e;cases loc with
 |mark mm=>
  have hm:i1 mm=true:=he;cases mm with
  |extern f=>exact⟨(by intro h;cases h),(by intro h;cases h),λa h=>(by cases h)⟩
  |noRoom=>exact⟨(by intro h;cases h),(by intro h;cases h),λa h=>(by cases h)⟩
  |_=>simp[i1]at hm
 |_=>exact⟨(by intro h;cases h),(by intro h;cases h),λa h=>(by cases h)⟩
theorem pC(h:∀op∈t,op.act.low B){a:Touch}(ha:touchAt t i=some a):a.loc.low B:=by
 obtain⟨x,hx,VC⟩:=touch_of ha;have hl:=h x (Array.mem_of_getElem? hx);cases hact:x.act with
 |access e=>rw[hact]at hl VC;simp only[a33,Option.some.injEq]at VC;subst VC;exact hl
 |mark mm=>
  rw[hact]at hl VC;cases mm<;>simp only[a33]at VC<;>first|(cases VC;done)|(simp only[Option.some.injEq]at VC;subst VC;exact hl)
 |_=>rw[hact]at VC;simp[a33]at VC
end

section
variable{X:aG}{gs:Array Goroutine}{t:Trace}{D:Nat->WD}{Nd:Nat->eW}{d0:Nat}{q:Nat->Nat}
structure ji (A:Nat->Prop) (w w':World):Prop where
 keep:∀b,b<w.heap.size->¬A b->w'.heap[b]?=w.heap[b]?
 size:w.heap.size<=w'.heap.size
 os:w'.os=w.os
 output:w'.output=w.output
 tape:w'.tape=w.tape
theorem bB.turns(h:bB V RO w w' es):ji V w w':=⟨h.keep,h.size,h.os,h.output,h.tape⟩
theorem tL(w:World)(a:Addr)(v:Value):ji (· =a.block) w (w.setCell a v):=
 ⟨λb _ hb=>by simp only[IT];exact oS hb,by simp[IT],rfl,rfl,rfl⟩
theorem ji.live(h:ji A w w')(hw:¬A Wg)(hl:Wg<w.heap.size):WgLive ty Wg w->WgLive ty Wg w':=λ⟨st,sm,h1⟩=>⟨st,sm,(h.keep Wg hl hw).trans h1⟩
theorem ji.cell(h:ji A w w'){a:Addr}(hw:¬A a.block)(hl:a.block<w.heap.size):w'.cell? a=w.cell? a:=by
 unfold uw;rw[h.keep _ hl hw]
theorem ji.list(h:ji A w w')(hw:¬A X.C)(hl:X.C<w.heap.size):X.list w->X.list w':=λ⟨cs,h1,h2⟩=>⟨cs,(h.keep _ hl hw).trans h1,h2⟩
theorem ji.kept(h:ji A w w')(hv:∀b,V b->¬A b/\b<w.heap.size):dP V w w':=⟨λb hb=>h.keep b (hv b hb).2 (hv b hb).1,h.size,h.os,h.output,h.tape⟩
theorem jO(c:Nat)(v:Value)(h:X.list w):X.list (w.setCell (X.at c) v):=by
 obtain⟨cs,h1,h2⟩:=h;refine⟨cs.setIfInBounds c v,?_,by simpa using h2⟩;simp[IT,aG.at,By,h1]
theorem CI{c c':Nat}(hc:c'≠c)(v:Value)(h:X.list w):(w.setCell (X.at c) v).cell? (X.at c')=w.cell? (X.at c'):=by
 obtain⟨cs,h1,h2⟩:=h;unfold uw;simp[IT,aG.at,By,h1,cd (a19 hc)]
theorem rh(hL:i_ X S j Nd V0 w)(hl:X.list w)(hi:i<j)(h:jh X i (Nd i).V w w' es):
 bl X V0 w w'/\(∀i',i'<j->i'≠i->bc X i' (Nd i').V w w')/\(X.RO 0->ux X.ty X.Wg w w')/\X.list w'/\(∀i',i'≠i->∀c,X.mine i' c->w'.cell? (X.at c)=w.cell? (X.at c))/\w.heap.size<=w'.heap.size/\w'.heap[X.Wg]?=w.heap[X.Wg]?:=by
 have key:∀A:Nat->Prop,ji A w w'->(∀b,A b->((Nd i).V b\/b=X.C))->X.list w'->(∀i',i'≠i->∀c,X.mine i' c->w'.cell? (X.at c)=w.cell? (X.at c))->
  bl X V0 w w'/\(∀i',i'<j->i'≠i->bc X i' (Nd i').V w w')/\(X.RO 0->ux X.ty X.Wg w w')/\X.list w'/\(∀i',i'≠i->∀c,X.mine i' c->w'.cell? (X.at c)=w.cell? (X.at c))/\w.heap.size<=w'.heap.size/\w'.heap[X.Wg]?=w.heap[X.Wg]?:=by
  intro A hA U6 Wl Ta;have Tw:¬A X.Wg:=λh=>(U6 _ h).elim (λh=>(hL.priv i hi _ h).2.2.1 rfl) hL.wgc;have TJ:∀b,X.RO b->¬A b/\b<w.heap.size:=λb hb=>⟨λh=>(U6 b h).elim (λh=>(hL.priv i hi b h).2.1 hb) (hL.ro b hb).2.2,(hL.ro b hb).1⟩;have U2:=hA.live (ty:=X.ty) Tw hL.wgl.1;refine⟨⟨hA.kept λb hb=>?_,U2⟩,λi' Tj T2=>⟨hA.kept λb hb=>?_,U2,λ_=>Wl,Ta i' T2⟩,λh0=> @Go.ConcN.RW.mk dH _ _ _ _ _ _ _ _ (λb hb=>absurd hb (a35 _)) U2 (λ⟨cs,h1,h2⟩=>⟨cs,(hA.keep 0 (TJ 0 h0).2 (TJ 0 h0).1).trans h1,h2⟩) (hA.cell (TJ 0 h0).1 (TJ 0 h0).2),Wl,Ta,hA.size,hA.keep _ hL.wgl.1 Tw⟩
  .rcases hb with hb|hb
   .exact⟨λh=>(U6 b h).elim (λh=>(hL.priv i hi b h).2.2.2.2.2 hb) (hL.v0 b hb).2.2.2.1,(hL.v0 b hb).1⟩
   .exact TJ b hb
  .rcases hb with hb|hb
   .exact⟨λh=>(U6 b h).elim (λh=>T2 (hL.two i' i Tj hi b hb h)) (hL.priv i' Tj b hb).2.2.2.1,(hL.priv i' Tj b hb).1⟩
   .exact TJ b hb
 rcases h with h|⟨c,v,hc,rfl,_⟩
 .have hC:¬(Nd i).V X.C:=λh=>(hL.priv i hi _ h).2.2.2.1 rfl;exact key _ h.turns (λb hb=>.inl hb) (h.turns.list hC hL.wgl.2 hl) λi' _ c _=>h.turns.cell (a:=X.at c) hC hL.wgl.2
 .exact key _ (tL w (X.at c) v) (λb hb=>.inr hb) (jO c v hl) λi' T2 c' VG=>CI (λe=>T2 (hL.mine i' i c' VG (by rw[e];exact hc))) v hl
end

end Go.Proofs.YtkmoglhgkcnalaaGreatDoor
namespace Go.Proofs.YtkmoglhgkcnalaaGreatDoor
open Go Go.Conc
open Go.ConcN (WgLive)
theorem Vw.kept(h:Vw V RO wL wR)(hk:dP (λb=>V b\/RO b) wR Tq):Vw V RO wL Tq:=
 ⟨a05 h.size hk.size,h.low,λb hb=>(h.mine b hb).trans (hk.keep b (.inl hb)).symm,h.calm,λb h1 h2 h3=>let ⟨c,e,z,q1,q2⟩:=h.ro b h1 h2 h3;⟨c,e,z,(hk.keep b (.inr h1)).trans q1,q2⟩,h.dead,h.tape.trans hk.tape.symm⟩
theorem Vw.pad(h:Vw V RO wL wR)(hr:∀b,RO b->b<wL.heap.size):∃w1,tz true wL w1/\Vw V RO w1 wR/\w1.heap.size=wR.heap.size/\w1.drawn=wR.drawn:=by
 refine⟨{wL with heap:=wL.heap++ve (wR.heap.size- wL.heap.size) (.cells #[] 0),drawn:=wR.drawn},⟨⟨_,(λh=>by cases h),rfl⟩,rfl,rfl,rfl⟩,?_,by have:=h.size;simp;omega,rfl⟩;have old:∀b,b<wL.heap.size->(wL.heap++ve (wR.heap.size- wL.heap.size) (Obj.cells #[] 0))[b]?=wL.heap[b]?:=λb hb=>a48 hb;refine⟨by have:=h.size;simp;omega,λb hb=>by have:=h.low b hb;simp;omega,λb hb=>(old b (h.low b hb)).trans (h.mine b hb),λb o hb ho=>h.calm b o hb ((old b (h.low b hb)).symm.trans ho),λb h1 h2 _=>?_,λb h1 h2 h3=>?_,h.tape⟩
 .obtain⟨c,e,z,q1,q2⟩:=h.ro b h1 h2 (hr b h1);exact⟨c,e,z,q1,(old b (hr b h1)).trans q2⟩
 .by_cases hb:b<wL.heap.size
  .obtain⟨e,z,q⟩:=h.dead b hb h2 h3;exact⟨e,z,(old b hb).trans q⟩
  .refine⟨0,(0,0),?_⟩;show(wL.heap++ve (wR.heap.size- wL.heap.size) (Obj.cells #[] 0))[b]?=_;rw[Array.getElem?_append_right o_,a72];rw[if_pos (by simp at h1;omega)]
section
variable{X:aG}
def Jz:FuncId->Array Value->World->(Value->World->Prop)->Prop:=λ_ _ _ _=>False
theorem wq{wv Ut:World}(Tt:(∀b,V0 b\/X.RO b->b<w0.heap.size)/\X.Wg<w0.heap.size/\X.C<w0.heap.size)(TJ:∀b,RO b->X.RO b)(hV:∀b,V b->w0.heap.size<=b)(hr:bc X i V0 w0 w)(hle:wv.heap.size<=w.heap.size)(Tf:wv.heap.size=w.heap.size\/Ut.heap.size=wv.heap.size)(h:qg V RO wv Ut w w' #[] es):
 bB (λb=>V0 b\/V b) X.RO w w' es/\bc X i V0 w0 w'/\(λb=>V0 b\/grown V wv Ut b)=grown (λb=>V0 b\/V b) w w'/\∀b,grown V wv Ut b->w0.heap.size<=b:=by
 have hm:=h.more;have U9:=h.mono.1;have hs0:=hr.own.size;have hg:∀b,grown V wv Ut b->grown (λb=>V0 b\/V b) w w' b:=λb hb=>hb.imp .inr λhb=>⟨by omega,by omega⟩;have hfar:∀b,b<w0.heap.size->¬V b:=λb hb hv=>by have:=hV b hv;omega
 have Wy:∀b,b<w0.heap.size->w'.heap[b]?=w.heap[b]?:=λb hb=>h.keep b o_ (hfar b hb);refine⟨⟨λb hb hn=>h.keep b hb λhv=>hn (.inr hv),by omega,h.os,h.output,h.tape,λe he=>?_⟩,?_,?_,λb hb=>hb.elim (hV b) λhb=>by omega⟩
 .rcases h.ev e he with x|x
  .simp at x
  .obtain⟨loc,wr,sy⟩:=e;cases loc with
   |cell a=>exact⟨x.1,x.2.imp (hg _) λy=>⟨TJ _ y.1,y.2⟩⟩
   |obj b=>exact⟨x.1,hg _ x.2⟩
   |mark m=>exact x
   |output=>exact x.elim
   |goroutines=>exact x.elim
 .refine hr.trans ⟨⟨λb hb=>Wy b (Tt.1 b hb),by omega,h.os,h.output,h.tape⟩,λhl=>?_,λhl=>?_,λc _=>?_⟩
  .obtain⟨a,b,q⟩:=hl;exact⟨a,b,(Wy _ Tt.2.1).trans q⟩
  .obtain⟨cs,q,z⟩:=hl;exact⟨cs,(Wy _ Tt.2.2).trans q,z⟩
  .unfold uw;rw[show(X.at c).block=X.C from rfl,Wy _ Tt.2.2]
 .funext b
  apply propext;constructor
  .rintro(hb|hb)
   .exact .inl (.inl hb)
   .exact hg b hb
  .rintro((hb|hb)|hb)
   .exact .inl hb
   .exact .inr (.inl hb)
   .exact .inr (.inr ⟨by omega,by omega⟩)
def Py(X:aG)(i:Nat)(V0:Nat->Prop)(w0:World)(RO:Nat->Prop)(Tt:(∀b,V0 b\/X.RO b->b<w0.heap.size)/\X.Wg<w0.heap.size/\X.C<w0.heap.size)(TJ:∀b,RO b->X.RO b):Lg ⟨X.P,true,Jz⟩ where
 main:=false
 ok fr cs wv:=w0.heap.size<=wv.heap.size->∀V w,Vw V RO wv w->(∀b,V b->w0.heap.size<=b)->bc X i V0 w0 w->aK X i ⟨λb=>V0 b\/V b,dj fr cs,w⟩
 step {fr cs wv fr' cs' Ut} hs hz hd h:=λh0 V w hv hV hr=>by
  have hz:=hz rfl;refine aK.step rfl λSU SV=>?_;have TS:=hv.kept (SV.own.mono λb hb=>hb.imp .inr λhb=>TJ b hb);have hr1:bc X i V0 w0 SU:=hr.trans ⟨SV.own.mono λb hb=>hb.imp .inl id,SV.live,SV.list,SV.cells⟩;obtain⟨w',es,q1,q2⟩:=hs V RO SU TS (.inr hz) (.inr hd);obtain⟨p1,p2,p3,p4⟩:=wq Tt TJ hV hr1 TS.size (.inr hz) q2;refine⟨_,w',es,q1,.inl p1,?_⟩;show aK X i ⟨grown (λb=>V0 b\/V b) SU w',dj fr' cs',w'⟩;rw[←p3];exact h o_ _ w' q2.vw p4 p2
 any {fr cs wv} h:=λh0 V w hv hV hr=>by
  refine aK.step rfl λSU SV=>?_;have TS:=hv.kept (SV.own.mono λb hb=>hb.imp .inr λhb=>TJ b hb);have hr1:bc X i V0 w0 SU:=hr.trans ⟨SV.own.mono λb hb=>hb.imp .inl id,SV.live,SV.list,SV.cells⟩;obtain⟨w1,g1,g2,g3,g4⟩:=TS.pad λb hb=>by have:=Tt.1 b (.inr (TJ b hb));omega
  obtain⟨fr',cs',Ut,hs,hn⟩:=h w1 g1;obtain⟨w',es,q1,q2⟩:=hs V RO SU g2 (.inl g3) (.inl g4);obtain⟨p1,p2,p3,p4⟩:=wq Tt TJ hV hr1 g2.size (.inl g3) q2;refine⟨_,w',es,q1,.inl p1,?_⟩;show aK X i ⟨grown (λb=>V0 b\/V b) SU w',dj fr' cs',w'⟩;rw[←p3];refine hn ?_ _ w' q2.vw p4 p2;have:=q2.mono.1;have:=g1.below.size;omega
 call h:=h.elim
noncomputable def pG(RO:Nat->Prop)(w:World):World:={w with heap:=w.heap.mapIdx λb o=> @ite Obj (RO b) (aj4 _) (match o with| .cells c e _=>.cells c e (0,c.size)|o=>o) (.cells #[] 0)}
theorem uL(w:World)(b:Nat):(pG RO w).heap[b]?=w.heap[b]?.map λo=> @ite Obj (RO b) (aj4 _) (match o with| .cells c e _=>.cells c e (0,c.size)|o=>o) (.cells #[] 0):=by simp[pG]
theorem I4(h:∀b,RO b->∃c e z,w.heap[b]?=some (.cells c e z)):Vw (λ_=>False) RO (pG RO w) w:=by
 refine⟨by simp[pG],λb hb=>hb.elim,λb hb=>hb.elim,λb o hb=>hb.elim,λb h1 _ _=>?_,λb h1 _ h3=>?_,rfl⟩
 .obtain⟨c,e,z,q⟩:=h b h1;exact⟨c,e,z,q,by rw[uL,q];simp[h1]⟩
 .refine⟨0,(0,0),?_⟩;rw[uL,hF (by simpa[pG]using h1)];simp[h3]
theorem yC{Val:Value->Prop}{c:Frame}(Tt:(∀b,V0 b\/X.RO b->b<w0.heap.size)/\X.Wg<w0.heap.size/\X.C<w0.heap.size)(TJ:∀b,RO b->X.RO b)(hT:∀b,RO b->∃c e z,w0.heap[b]?=some (.cells c e z))
 (hC:∀wv:World,wv.heap.size=w0.heap.size->(∀b c e z,RO b->w0.heap[b]?=some (.cells c e z)->wv.heap[b]?=some (.cells c e (0,c.size)))->Cl ⟨X.P,true,Jz⟩ f args wv λe _=>∃v,e=.returned v/\Val v)
 (Tv:∀v V w,Val v->(∀b,V0 b->V b)->bc X i V0 w0 w->aK X i ⟨V,dj (c.finish v) cs,w⟩):aK X i ⟨V0,dj (vd X.P f args .normal) (c::cs),w0⟩:=by
 have h:=hC (pG RO w0) (by simp[pG]) (λb c e z h1 h2=>by rw[uL,h2];simp[h1]) (Py X i V0 w0 RO Tt TJ) c cs (λv w' ⟨u,e,hv⟩=>by cases e;exact λ_ V w _ _ hr=>Tv v _ w hv (λ_=>.inl) hr) (λ_ _ ⟨_,e,_⟩=>by cases e)
 have:=h (by simp[pG]) (λ_=>False) w0 (I4 hT) (λ_ hb=>hb.elim) (bc.refl X i V0 w0)
 rwa [show(λb=>V0 b\/False)=V0 from funext λb=>by simp]at this
end

end Go.Proofs.YtkmoglhgkcnalaaGreatDoor
namespace Go.Proofs.YtkmoglhgkcnalaaGreatDoor
open Go Go.Conc
theorem pQ{c:Frame}(hk:fr.kind=.normal)(hd:fr.defers=[])(hm:fr.mode=.returning)(hf:P.funcs[fr.fn]?=some fn)(hr:(results fn fr.tmps).run P w=.ok v w)(he:(results fn fr.tmps).events P w #[]=#[])
 (main:Bool) {g:Goroutine} (hg:g.frame=fr/\g.callers=c::cs/\g.status=.running/\g.dying=none):stepG P main g w=.go {frame:=c.finish v,callers:=cs,status:=.running,dying:=none} w:=by
 obtain⟨fr0,cs0,st,dy,off⟩:=g;obtain⟨rfl,rfl,rfl,rfl⟩:=hg;simp only at hk hd hm hf hr he;simp[stepG,unwind,doReturn,hk,hd,hm,hf,hr,he,seen,a54]

section
variable{X:aG}
theorem aK.exec(hm:fr.mode=.run)(h:∀SU,bc X i V w SU->∃g' w' es,stepG.exec X.P false true fr cs none SU=.go g' w' es/\bB V X.RO SU w' es/\aK X i ⟨grown V SU w',g',w'⟩):
 aK X i ⟨V,{frame:=fr,callers:=cs,status:=.running,dying:=none},w⟩:=
 aK.own rfl λSU SV=>let ⟨g',w',es,h1,h2,h3⟩:=h SU SV;⟨g',w',es,(dD hm false cs SU).trans h1,h2,h3⟩
theorem aK.plain{t:List Item}(hm:fr.mode=.run)(hp:fM fr=some t)(h:∀SU,bc X i V w SU->aK X i ⟨V,{frame:={fr with todo:=t},callers:=cs,status:=.running,dying:=none},SU⟩):
 aK X i ⟨V,{frame:=fr,callers:=cs,status:=.running,dying:=none},w⟩:=by
 refine aK.exec hm λSU SV=>⟨_,SU,#[],rQ hp,dE _ _ _,?_⟩;rw[bS];exact h SU SV
theorem bB.sub{Ty:Array Event}(h:bB V RO w w' es)(hs:∀e∈Ty,e∈es):bB V RO w w' Ty:=⟨h.keep,h.size,h.os,h.output,h.tape,λe he=>h.ev e (hs e he)⟩
theorem kG(P:Program)(fr:Frame)(es:Array Event):∀e∈seen P fr.fn (if fr.kind== .early then #[]else es),e∈es:=λe he=>by
 have h1:=dh _ _ _ e he;split at h1
 .simp at h1
 .exact h1
theorem aK.oper{k:List Item}(hm:fr.mode=.run)(ht:fr.todo=.inRegion ops (n::rest)::k)(ho:ops[n]?=some o)(hw:ug o (yielded ops fr.tmps)=true)(T5:∀c,o.op≠ .defer c)
 (h:∀SU,bc X i V w SU->∃nx w' es,(execOp fr.eval o).runT X.P SU #[]=(.ok nx w',es)/\Ln nx=true/\bB V X.RO SU w' es/\aK X i ⟨grown V SU w',kM X.P fr cs nx,w'⟩):
 aK X i ⟨V,{frame:=fr,callers:=cs,status:=.running,dying:=none},w⟩:=by
 refine aK.exec hm λSU SV=>?_;obtain⟨nx,w',es,h1,h2,h3,h4⟩:=h SU SV;have hc:kD fr:=λd w r s k e=>by rw[ht]at e;cases e
 exact⟨_,w',_,(ki ht ho hw T5).trans (iN (cs:=cs) hc h1 h2),h3.sub (kG _ _ _),h4⟩
end

section
variable{X:aG}{c:Frame}{k:List Item}
theorem aK.range{f:Operand}{ps:Array Tmp}{a b:Code}(hm:fr.mode=.run)(ht:fr.todo=.code (.rangeFunc f ps a b)::k)
 (h:∀SU,bc X i V w SU->∃l mark w1 es0 nx w' Yv,(a81 fr.fn fr.tmps ps a b fr.roundOf).runT X.P SU #[]=(.ok (l,mark) w1,es0)/\(lm (iz fr k l mark) f l).runT X.P w1 #[]=(.ok nx w',Yv)/\Ln nx=true/\
   bB V X.RO SU w' (es0++Yv)/\aK X i ⟨grown V SU w',kM X.P (iz fr k l mark) cs nx,w'⟩):
 aK X i ⟨V,{frame:=fr,callers:=cs,status:=.running,dying:=none},w⟩:=by
 refine aK.exec hm λSU SV=>?_;obtain⟨l,mark,w1,es0,nx,w',Yv,h1,h2,h3,h4,h5⟩:=h SU SV;have hc:kD (iz fr k l mark):=λd w r s k e=>by cases e
 refine⟨_,w',seen X.P fr.fn es0++seen X.P (iz fr k l mark).fn (if (iz fr k l mark).kind== .early then #[]else Yv),?_,h4.sub λe he=>?_,h5⟩
 .rw[sC ht h1,iN (cs:=cs) hc h2 h3];rfl
 .rcases a50.1 he with he|he
  .exact a50.2 (.inl (dh _ _ _ e he))
  .exact a50.2 (.inr (kG _ _ _ e he))
theorem aK.round(hm:fr.mode=.run)(ht:fr.todo=.beginRound::k)
 (h:∀SU,bc X i V w SU->∃nx w' es,(mR fr).runT X.P SU #[]=(.ok nx w',es)/\Ln nx=true/\bB V X.RO SU w' es/\aK X i ⟨grown V SU w',kM X.P fr cs nx,w'⟩):
 aK X i ⟨V,{frame:=fr,callers:=cs,status:=.running,dying:=none},w⟩:=by
 refine aK.exec hm λSU SV=>?_;obtain⟨nx,w',es,h1,h2,h3,h4⟩:=h SU SV;have hc:kD fr:=λd w r s k e=>by rw[ht]at e;cases e
 exact⟨_,w',_,(sE ht).trans (iN (cs:=cs) hc h1 h2),h3.sub (kG _ _ _),h4⟩
theorem qC{j:Option Code}(hm:fr.mode=.run)(hj:pp fr j)(hl:fr.roundOf=some l)(hk:fr.kind=.normal)
 (h:∀SU,bc X i V w SU->∃v w' es,(aa4 l j).runT X.P SU #[]=(.ok v w',es)/\bB V X.RO SU w' es/\aK X i ⟨grown V SU w',{frame:=c.finish v,callers:=cs,status:=.running,dying:=none},w'⟩):
 aK X i ⟨V,{frame:=fr,callers:=c::cs,status:=.running,dying:=none},w⟩:=by
 refine aK.exec hm λSU SV=>?_;obtain⟨v,w',es,h1,h2,h3⟩:=h SU SV;exact⟨_,w',_,mO hj hl hk h1,h2.sub (dh _ _ _),h3⟩
theorem qD(hm:fr.mode=.run)(ht:fr.todo=.endRangeFunc l::k)
 (h:∀SU,bc X i V w SU->∃jump w' es,(aa_ l).runT X.P SU #[]=(.ok jump w',es)/\bB V X.RO SU w' es/\aK X i ⟨grown V SU w',{frame:={fr with todo:=(jump.map aj0).toList++k},callers:=cs,status:=.running,dying:=none},w'⟩):
 aK X i ⟨V,{frame:=fr,callers:=cs,status:=.running,dying:=none},w⟩:=by
 refine aK.exec hm λSU SV=>?_;obtain⟨jump,w',es,h1,h2,h3⟩:=h SU SV;exact⟨_,w',_,kK ht h1,h2.sub (dh _ _ _),h3⟩
theorem aK.store(hm:fr.mode=.run)(ht:fr.todo=.inRegion ops (n::rest)::k)(ho:ops[n]?=some o)(hw:ug o (yielded ops fr.tmps)=true)(T5:∀c,o.op≠ .defer c)(hk:fr.kind=.normal)
 (hs:∀e:Event,(∃a,e.loc=.cell a)->seen X.P fr.fn #[e]=#[e])
 (h:∀SU,bc X i V w SU->∃c v,X.mine i c/\(execOp fr.eval o).runT X.P SU #[]=(.ok .skip (SU.setCell (X.at c) v),#[⟨.cell (X.at c),true,false⟩])/\aK X i ⟨V,{frame:=fr.finish undef,callers:=cs,status:=.running,dying:=none},SU.setCell (X.at c) v⟩):
 aK X i ⟨V,{frame:=fr,callers:=cs,status:=.running,dying:=none},w⟩:=by
 refine aK.put rfl λSU SV=>?_;obtain⟨c,v,h1,h2,h3⟩:=h SU SV;have hc:kD fr:=λd w r s k e=>by rw[ht]at e;cases e
 refine⟨{frame:=fr.finish undef,callers:=cs,status:=.running,dying:=none},c,v,h1,?_,h3⟩;rw[dD hm,ki ht ho hw T5,iN (cs:=cs) hc h2 rfl];have VW:(fr.kind==CallKind.early)=false:=by rw[hk];rfl
 simp only[VW,a85,↓reduceIte];rw[hs _ ⟨_,rfl⟩];rfl
end

section
variable(P:Program){r:Loop}
theorem Fy(h:w.heap[l]?=some (.loop r))(hs:args.size=r.params.size):
 (ac2 l args).runT P w #[]=(.ok (.round l r.fn ((r.params.zip args).foldl (λtmps (t,a)=>tmps.setIfInBounds t a) r.tmps) r.assign r.body) w,#[⟨.obj l,false,false⟩]):=by
 simp[-a12,ac2,a8_,getObj,bind,a30,a44,pure,ak2,h,hs]
theorem xa(h:w.heap[l]?=some (.loop r))(j:Option Code):
 (aa4 l j).runT P w #[]=(.ok (.bool j.isNone) {w with heap:=w.heap.setIfInBounds l (.loop {r with state:=if j.isNone then .ready else .done,pending:=j})},#[⟨.obj l,false,false⟩,⟨.obj l,true,false⟩]):=by
 simp[-a12,aa4,a8_,getObj,setObj,bind,a30,a44,pure,ak2,h]
theorem zd(h:w.heap[l]?=some (.loop r))(hs:r.state=.ready):
 (aa_ l).runT P w #[]=(.ok r.pending {w with heap:=w.heap.setIfInBounds l (.loop {r with state:=.exhausted})},#[⟨.obj l,false,false⟩,⟨.obj l,true,false⟩]):=by
 simp[-a12,aa_,a8_,getObj,setObj,bind,a30,a44,pure,ak2,h,hs]
end

section
variable(P:Program)
theorem vi(fn:FuncId)(tmps:Array Value)(ps:Array Tmp)(a b:Code):
 (a81 fn tmps ps a b none).runT P w #[]=(.ok (w.heap.size+1,[{target:=.collected w.heap.size,args:=#[]}])
   ((w.alloc (.deferred (some []))).alloc (.loop {state:=.ready,pending:=none,fn,tmps,params:=ps,assign:=a,body:=b,defers:=w.heap.size})),#[]):=by
 simp[-a12,a81,newObj,bind,a30,a44,pure];rfl
theorem Jo(h:w.heap[l]?=some (.deferred (some ds))):
 (aa5 l).runT P w #[]=(.ok ds {w with heap:=w.heap.setIfInBounds l (.deferred none)},#[⟨.obj l,false,false⟩,⟨.obj l,true,false⟩]):=by
 simp[-a12,aa5,getObj,setObj,bind,a30,a44,pure,ak2,h]
end
section
variable{X:aG}
theorem aK.take{a:Array Value}{rest:List Deferred}(hm:fr.mode=.returning)(hd:fr.defers={target:=.collected l,args:=a}::rest)(hV:V l)(hl:w.heap[l]?=some (.deferred (some ds)))
 (h:∀SU,bc X i V w SU->aK X i ⟨V,{frame:={fr with defers:=ds++rest},callers:=cs,status:=.running,dying:=none},{SU with heap:=SU.heap.setIfInBounds l (.deferred none)}⟩):
 aK X i ⟨V,{frame:=fr,callers:=cs,status:=.running,dying:=none},w⟩:=by
 refine aK.own rfl λSU SV=>?_;have Wl:SU.heap[l]?=some (.deferred (some ds)):=(SV.own.keep l (.inl hV)).trans hl;refine⟨{frame:={fr with defers:=ds++rest},callers:=cs,status:=.running,dying:=none},{SU with heap:=SU.heap.setIfInBounds l (.deferred none)},seen X.P fr.fn #[⟨.obj l,false,false⟩,⟨.obj l,true,false⟩],?_,?_,?_⟩
 .unfold stepG;simp only[hm,unwind,hd,Jo X.P Wl,a54,a3_]
 .refine bB.sub (es:=#[⟨.obj l,false,false⟩,⟨.obj l,true,false⟩]) ⟨λb _ hb=>?_,by simp,rfl,rfl,rfl,λe he=>?_⟩ (dh _ _ _)
  .have T2:l≠b:=λe=>hb (e▸hV);exact cd T2
  .simp only[a46,a42,a47,or_false]at he;rcases he with rfl|rfl<;>exact⟨rfl,.inl hV⟩
 .have e:grown V SU {SU with heap:=SU.heap.setIfInBounds l (.deferred none)}=V:=by
   funext b
   apply propext;exact⟨λh=>h.elim id λh=>absurd h.2 (by simpa using h.1),.inl⟩
  rw[e];exact h SU SV
end

section
variable{X:aG}
theorem zW(h:∀b,V b->V' b)(w w':World)(b:Nat):grown V w w' b->grown V' w w' b:=λhb=>hb.imp (h b) id
theorem bc.less(h:∀b,V b->V' b)(r:bc X i V' w SU):bc X i V w SU:=⟨r.own.mono λb hb=>hb.imp (h b) id,r.live,r.list,r.cells⟩
theorem aK.more{x:eW}(hx:aK X i x):∀V',(∀b,x.V b->V' b)->aK X i ⟨V',x.g,x.w⟩:=by
 refine hx (λx=>∀V',(∀b,x.V b->V' b)->aK X i ⟨V',x.g,x.w⟩) (λx hs V' hV=>?_) λx hr hn V' hV=>?_
 .exact aK.stop ⟨hs.1,λSU SV=>hs.2 SU (SV.less hV)⟩
 .refine aK.step hr λSU SV=>?_;obtain⟨g',w',es,h1,h2,h3⟩:=hn SU (SV.less hV);exact⟨g',w',es,h1,h2.imp (λh=>h.mono hV) id,h3 _ (zW hV _ _)⟩
def Wk(X:aG)(i:Nat)(V:Nat->Prop)(fr:Frame)(cs:List Frame)(w0:World):Prop:=∀w,bc X i V w0 w->aK X i ⟨V,dj fr cs,w⟩
theorem Wk.now(h:Wk X i V fr cs w):aK X i ⟨V,dj fr cs,w⟩:=h w (bc.refl X i V w)
variable{b:Frame}{k:List Item}
theorem Wk.plain{t:List Item}(hp:fM (b.atR a k)=some t)(h:Wk X i V (b.atR a t) cs w0):Wk X i V (b.atR a k) cs w0:=λ_ hw=>aK.plain rfl hp λSU SV=>h SU (hw.trans SV)
theorem Wk.value(v:Value)(ho:ops[n]?=some o)(hw:ug o (yielded ops a.tmps)=true)(T5:∀c,o.op≠ .defer c)
 (hr:∀w,bc X i V w0 w->(execOp a.eval o).run X.P w=.ok (.value v) w/\∀e∈(execOp a.eval o).events X.P w #[],e_ V X.RO e)
 (h:Wk X i V (b.atR (a.put o.dst v) (.inRegion ops rest::k)) cs w0):Wk X i V (b.atR a (.inRegion ops (n::rest)::k)) cs w0:=λw TM=>by
 refine aK.oper rfl rfl ho hw T5 λSU SV=>?_;obtain⟨h2,h3⟩:=hr SU (TM.trans SV);refine⟨.value v,SU,(execOp a.eval o).events X.P SU #[],?_,rfl,nL h3,?_⟩
 .rw[a49,a12,h2]
 .rw[bS];show aK X i ⟨V,dj ((b.atR a (.inRegion ops (n::rest)::k)).finish v) cs,SU⟩;rw[a21,ho];exact h SU (TM.trans SV)
theorem KZ(ho:ops[n]?=some o)(hw:ug o (yielded ops a.tmps)=true)(T5:∀c,o.op≠ .defer c)
 (hr:∀w,bc X i V w0 w->∃v w',(execOp a.eval o).run X.P w=.ok (.value v) w'/\bB V X.RO w w' ((execOp a.eval o).events X.P w #[])/\
   Wk X i (grown V w w') (b.atR (a.put o.dst v) (.inRegion ops rest::k)) cs w'):Wk X i V (b.atR a (.inRegion ops (n::rest)::k)) cs w0:=λw TM=>by
 refine aK.oper rfl rfl ho hw T5 λSU SV=>?_;obtain⟨v,w',h2,h3,h4⟩:=hr SU (TM.trans SV);refine⟨.value v,w',(execOp a.eval o).events X.P SU #[],?_,rfl,h3,?_⟩
 .rw[a49,a12,h2]
 .show aK X i ⟨grown V SU w',dj ((b.atR a (.inRegion ops (n::rest)::k)).finish v) cs,w'⟩;rw[a21,ho];exact h4.now
theorem Wk.enter(ho:ops[n]?=some o)(hw:ug o (yielded ops a.tmps)=true)(T5:∀c,o.op≠ .defer c)
 (hr:∀w,bc X i V w0 w->(execOp a.eval o).run X.P w=.ok (.enter f args) w/\∀e∈(execOp a.eval o).events X.P w #[],e_ V X.RO e)
 (h:Wk X i V (vd X.P f args .normal) (b.atR a (.inRegion ops (n::rest)::k)::cs) w0):Wk X i V (b.atR a (.inRegion ops (n::rest)::k)) cs w0:=λw TM=>by
 refine aK.oper rfl rfl ho hw T5 λSU SV=>?_;obtain⟨h2,h3⟩:=hr SU (TM.trans SV);refine⟨.enter f args,SU,(execOp a.eval o).events X.P SU #[],?_,rfl,nL h3,?_⟩
 .rw[a49,a12,h2]
 .rw[bS];exact h SU (TM.trans SV)
theorem E3{r:Loop}(ho:ops[n]?=some o)(hw:ug o (yielded ops a.tmps)=true)(T5:∀c,o.op≠ .defer c)(hV:V l)(hl:w0.heap[l]?=some (.loop r))(hs:args.size=r.params.size)
 (hr:∀w,(execOp a.eval o).runT X.P w #[]=(ac2 l args).runT X.P w #[])
 (h:Wk X i V (a9_ l r.fn ((r.params.zip args).foldl (λtmps (t,a)=>tmps.setIfInBounds t a) r.tmps) r.assign r.body .normal) (b.atR a (.inRegion ops (n::rest)::k)::cs) w0):Wk X i V (b.atR a (.inRegion ops (n::rest)::k)) cs w0:=λw TM=>by
 refine aK.oper rfl rfl ho hw T5 λSU SV=>?_;have Wl:SU.heap[l]?=some (.loop r):=((TM.trans SV).own.keep l (.inl hV)).trans hl;refine⟨.round l r.fn ((r.params.zip args).foldl (λtmps (t,a)=>tmps.setIfInBounds t a) r.tmps) r.assign r.body,SU,_,?_,rfl,nL (es:=#[⟨.obj l,false,false⟩]) ?_,?_⟩
 .rw[a49,hr,Fy X.P Wl hs]
 .intro e he;simp only[a46,a61]at he;subst he;exact⟨rfl,hV⟩
 .rw[bS];exact h SU (TM.trans SV)
end

section
variable{X:aG}{b:Frame}{k:List Item}
theorem K_{id:Nat}(h:∀t,Wk X i V (b.atR a (.inRegion ops (a93 (X.P.follows .mixedOrders) ops t)::k)) cs w0):Wk X i V (b.atR a (.code (.region id ops true)::k)) cs w0:=λw hw=>by
 refine aK.exec rfl λSU SV=>?_;have hr:(choose (.order (b.atR a (.code (.region id ops true)::k)).fn id)).run X.P SU=.ok (SU.tape SU.drawn (.order b.fn id)) {SU with drawn:=SU.drawn+1}:=by
  simp[choose,af9,aq1,as_,aj1]
 have hk:bc X i V SU {SU with drawn:=SU.drawn+1}:=⟨⟨λ_ _=>rfl,dv _,rfl,rfl,rfl⟩,λh=>h,λh=>h,λ_ _=>rfl⟩;refine⟨_,_,#[],uj rfl hr,⟨λ_ _ _=>rfl,dv _,rfl,rfl,rfl,λe he=>by simp at he⟩,?_⟩;have e:grown V SU {SU with drawn:=SU.drawn+1}=V:=bS V SU;rw[e];exact h _ _ ((hw.trans SV).trans hk)
theorem Wk.order{md:am_}(Inv:Nat->Array Bool->Act->World->Prop)
 (U1:∀listed a w,Inv 0 listed a w->Wk X i V (b.atR a (.inRegion ops []::k)) cs w)
 (TC:∀fuel listed a w,Inv (fuel+1) listed a w->a17 md ops listed=[]->Wk X i V (b.atR a (.inRegion ops []::k)) cs w)
 (Tu:∀fuel listed a w n rest,Inv (fuel+1) listed a w->n∈a17 md ops listed->(∀a' w',Inv fuel (listed.setIfInBounds n true) a' w'->Wk X i V (b.atR a' (.inRegion ops rest::k)) cs w')->
   Wk X i V (b.atR a (.inRegion ops (n::rest)::k)) cs w):
 ∀(fuel t:Nat) (listed:Array Bool) (a:Act) (w:World),Inv fuel listed a w->Wk X i V (b.atR a (.inRegion ops (a15.go md ops fuel t listed [])::k)) cs w:=by
 intro fuel;induction fuel with
 |zero=>intro t listed a w h;simpa[a15.go]using U1 listed a w h
 |succ fuel ih=>
  intro t listed a w h;have hgo:a15.go md ops (fuel+1) t listed []=(match (a17 md ops listed)[t%(a17 md ops listed).length]? with
   |some i=>a15.go md ops fuel (t/(a17 md ops listed).length) (listed.setIfInBounds i true) [i]
   |none=>[].reverse):=by
   simp only[a15.go];rfl
  rw[hgo];cases hi:(a17 md ops listed)[t%(a17 md ops listed).length]? with
  |none=>
   have ZK:a17 md ops listed=[]:=by
    cases hr:a17 md ops listed with
    |nil=>rfl
    |cons x xs=>
     rw[hr]at hi;have SX:t%(x::xs).length<(x::xs).length:=ak0 _ s_;simp at hi;simp at SX;omega
   exact TC fuel listed a w h ZK
  |some n=>
   show Wk X i V (b.atR a (.inRegion ops (a15.go md ops fuel (t/(a17 md ops listed).length) (listed.setIfInBounds n true) [n])::k)) cs w;rw[linearise_go_acc,ak1,al3];exact Tu fuel listed a w n _ h (gv hi) λa' w' h'=>ih _ _ a' w' h'
def jG(V:Nat->Prop)(w:World)(b:Nat):Prop:=V b\/b=w.heap.size\/b=w.heap.size+1
theorem Wk.range{ps:Array Tmp}{cb:Code}{cap:Array Value}(hb:b.roundOf=none)(hf:X.P.funcs[f]?=some fn)(Tc:(fn.name== "runtime.NumGoroutine")=false)(Yo:fn.body.isNone=false)(hx:a.eval x=.func (.func f) first cap)
 (h:∀w,bc X i V w0 w->Wk X i (jG V w) (vd X.P f (first++#[.func (.yield (w.heap.size+1)) #[] #[]]++cap) .normal)
   (b.atR ⟨a.tmps,{target:=.collected w.heap.size,args:=#[]}::a.defers⟩ (.inRangeFunc (w.heap.size+1)::k)::cs)
   (cj w {state:=.ready,pending:=none,fn:=b.fn,tmps:=a.tmps,params:=ps,assign:=ca,body:=cb,defers:=w.heap.size})):
 Wk X i V (b.atR a (.code (.rangeFunc x ps ca cb)::k)) cs w0:=λw hw=>by
 refine aK.range rfl rfl λSU SV=>?_;have e1:(a81 (b.atR a (.code (.rangeFunc x ps ca cb)::k)).fn (b.atR a (.code (.rangeFunc x ps ca cb)::k)).tmps ps ca cb (b.atR a (.code (.rangeFunc x ps ca cb)::k)).roundOf).runT X.P SU #[]=(.ok (SU.heap.size+1,[{target:=.collected SU.heap.size,args:=#[]}])
  (cj SU {state:=.ready,pending:=none,fn:=b.fn,tmps:=a.tmps,params:=ps,assign:=ca,body:=cb,defers:=SU.heap.size}),#[]):=by
  rw[show(b.atR a (.code (.rangeFunc x ps ca cb)::k)).roundOf=none from hb];exact vi X.P _ _ _ _ _
 have TH:(iz (b.atR a (.code (.rangeFunc x ps ca cb)::k)) k (SU.heap.size+1) [{target:=.collected SU.heap.size,args:=#[]}]).eval x=.func (.func f) first cap:=by
  rw[←hx,←a49 b a (.code (.rangeFunc x ps ca cb)::k)];cases x<;>rfl
 refine⟨_,_,_,_,_,_,#[],e1,np hf Tc Yo TH _,rfl,?_,?_⟩
 .refine⟨λn hn _=>bf SU _ hn,?_,rfl,rfl,rfl,λe he=>by simp at he⟩;show _<=(cj SU _).heap.size;rw[i0];omega
 .have eg:grown V SU (cj SU {state:=.ready,pending:=none,fn:=b.fn,tmps:=a.tmps,params:=ps,assign:=ca,body:=cb,defers:=SU.heap.size})=jG V SU:=by
   funext n
   apply propext;unfold grown jG;rw[i0];constructor
   .rintro(h|h)
    .exact .inl h
    .exact .inr o_
   .rintro(h|h)
    .exact .inl h
    .exact .inr o_
  show aK X i ⟨grown V SU (cj SU _),_,cj SU _⟩;rw[eg];exact(h SU (hw.trans SV)).now
theorem ik(r:Loop)(hV:V l):bB V RO w (aT w l r) #[⟨.obj l,false,false⟩,⟨.obj l,true,false⟩]:=by
 refine⟨λn _ hn=>?_,by simp[aT],rfl,rfl,rfl,λe he=>?_⟩
 .have T2:l≠n:=λe=>hn (e▸hV);exact cd T2
 .simp only[a46,a42,a47,or_false]at he;rcases he with rfl|rfl<;>exact⟨rfl,.inl hV⟩
theorem fG(V:Nat->Prop)(w:World)(l:Nat)(r:Loop):grown V w (aT w l r)=V:=by
 funext n
 apply propext;exact⟨λh=>h.elim id λh=>absurd h.2 (by simpa[aT]using h.1),.inl⟩
theorem E4{r:Loop}(hl:b.roundOf=some l)(hV:V l)(h0:w0.heap[l]?=some (.loop r))(hs:r.state=.ready)(h:∀w,bc X i V w0 w->Wk X i V (b.atR a k) cs (aT w l {r with state:=.busy})):Wk X i V (b.atR a (.beginRound::k)) cs w0:=λw hw=>by
 refine aK.round rfl rfl λSU SV=>?_;have Ya:SU.heap[l]?=some (.loop r):=((hw.trans SV).own.keep l (.inl hV)).trans h0;have e:(mR (b.atR a (.beginRound::k))).runT X.P SU #[]=(.ok .skip (aT SU l {r with state:=.busy}),#[⟨.obj l,false,false⟩,⟨.obj l,true,false⟩]):=by
  have TJ:(b.atR a (.beginRound::k)).roundOf=some l:=hl;simp[-a12,mR,TJ,ab8,a8_,getObj,setObj,bind,a30,a44,pure,ak2,Ya,hs,aT]
 refine⟨_,_,_,e,rfl,ik _ hV,?_⟩;rw[fG];exact(h SU (hw.trans SV)).now
theorem AG{r:Loop}{c:Frame}(hl:b.roundOf=some l)(hk:b.kind=.normal)(hV:V l)(h0:w0.heap[l]?=some (.loop r))(h:∀w,bc X i V w0 w->Wk X i V (c.finish (.bool true)) cs (aT w l {r with state:=.ready,pending:=none})):Wk X i V (b.atR a []) (c::cs) w0:=λw hw=>by
 refine qC (j:=none) rfl (.done rfl) hl hk λSU SV=>?_;have Ya:SU.heap[l]?=some (.loop r):=((hw.trans SV).own.keep l (.inl hV)).trans h0;refine⟨_,_,_,xa X.P Ya none,ik _ hV,?_⟩;have eg:=fG V SU l {r with state:=.ready,pending:=none};show aK X i ⟨grown V SU (aT SU l {r with state:=.ready,pending:=none}),_,aT SU l {r with state:=.ready,pending:=none}⟩;rw[eg];exact(h SU (hw.trans SV)).now
theorem vT{r:Loop}(hV:V l)(h0:w0.heap[l]?=some (.loop r))(hs:r.state=.ready)(hp:r.pending=none)(h:∀w,bc X i V w0 w->Wk X i V (b.atR a k) cs (aT w l {r with state:=.exhausted})):Wk X i V (b.atR a (.endRangeFunc l::k)) cs w0:=λw hw=>by
 refine qD rfl rfl λSU SV=>?_;have Ya:SU.heap[l]?=some (.loop r):=((hw.trans SV).own.keep l (.inl hV)).trans h0;refine⟨_,_,_,zd X.P Ya hs,ik _ hV,?_⟩;have eg:=fG V SU l {r with state:=.exhausted};show aK X i ⟨grown V SU (aT SU l {r with state:=.exhausted}),_,aT SU l {r with state:=.exhausted}⟩;have et:(r.pending.map aj0).toList++k=k:=by rw[hp];rfl
 rw[eg,et];exact(h SU (hw.trans SV)).now
theorem Wk.ends(hb:b.roundOf=none)(hk:k=[]\/∃k',k=.code .ret::k')(h:Wk X i V {b.atR a k with mode:=.returning} cs w0):Wk X i V (b.atR a k) cs w0:=λw hw=>by
 refine aK.exec rfl λSU SV=>⟨_,SU,#[],sD ⟨hb,hk⟩,dE _ _ _,?_⟩;rw[bS];exact h SU (hw.trans SV)
theorem Wk.leave{c:Frame}(v:Value)(hk:b.kind=.normal)(hd:a.defers=[])(hf:X.P.funcs[b.fn]?=some fn)(hr:∀w,(results fn a.tmps).run X.P w=.ok v w/\(results fn a.tmps).events X.P w #[]=#[])
 (h:Wk X i V (c.finish v) cs w0):Wk X i V {b.atR a k with mode:=.returning} (c::cs) w0:=λw hw=>by
 refine aK.own rfl λSU SV=>⟨_,SU,#[],pQ (fr:={b.atR a k with mode:=.returning}) (c:=c) (cs:=cs) hk hd rfl hf (hr SU).1 (hr SU).2 false ⟨rfl,rfl,rfl,rfl⟩,dE _ _ _,?_⟩;rw[bS];exact h SU (hw.trans SV)
end

end Go.Proofs.YtkmoglhgkcnalaaGreatDoor
namespace Go.Proofs.YtkmoglhgkcnalaaGreatDoor
open Go Go.Conc
open Go.ConcN (WgLive)
open Go.ConcR (KK WgAt stA smA rd wr mk DC0)
open Go.ConcN.Gen Go.RowKit Go.Conc.Lib Go.ConcR.Gen
section
variable{L:WgLink}
theorem fF{X:aG}(h:WgLive X.ty X.Wg w)(r:bc X i V w SU):WgLive X.ty X.Wg SU:=r.live h
theorem GH(X:aG)(H:WgLib X.P L){c:Frame}(w:World)(hK:WgLive X.ty X.Wg w):
 Goes X.P false (bc X i V) DC0 (AR X.P false (bc X i V) (.releaseMerge (stA X.Wg))) 30 (G ((baseD L.done).at ⟨#[.pk X.Wg 0,undef,undef,undef],[]⟩ [.code (body_done L)]) (c::cs)) w:=by
 lib_facts
 simp only[body_done,doneFn,a14]
 u_reg fF hK
 u_op fF hK
 u_call H.f_add (nm_add L) addFn fF hK
 iterate 11 (first
  |u_c stepG_seq fF hK
  |u_c stepG_region_end fF hK
  |u_reg fF hK
  |u_cond true fF hK
  |u_op fF hK)
 u_in fF hK
 refine goes_oper_k rfl rfl (by k_ne) (λKx WA=>?_);have XZ:=run_convert_to_unsafe (P:=X.P) H.underlying_tWgP H.underlying_tUP H.room_tWg (a67 hK).choose_spec;have UH:=λes=>events_convert_to_unsafe (P:=X.P) H.underlying_tWgP H.underlying_tUP H.room_tWg (a67 hK).choose_spec es
 go_simp
 refine WA _ _ ⟨?_,?_⟩
 .u_none
  intro ex hex;have YQ:=mem_listed hex;simp[go_sem,UH]at YQ
 clear WA Kx XZ UH;refine a6_ (λw3 h3=>?_)
 replace hK:=fF hK h3
 clear h3;refine⟨rfl,_,stepG_markAt .releaseMerge s_ rfl rfl (by k_ne) rfl H.f_relMerge (x_relMerge_n L) (x_relMerge_b L) (x_relMerge_x L) (x_relMerge_f L) (by simp[Act.eval,stA]),10,?_⟩
 walk_nrm
 u_c stepG_region_end fF hK
 u_c stepG_seq fF hK
 u_reg fF hK
 refine a6_ (λw4 h4=>?_);exact⟨_,stepG_mark0 .disable s_ rfl rfl (by k_ne) rfl H.f_disable (x_disable_n L) (x_disable_b L) (x_disable_x L) (x_disable_f L)⟩
theorem mu{X:aG}{Stop:Goroutine->World->Prop}{I:World->Prop}(hI:∀w SU,I w->bc X i V w SU->I SU)(hS:∀g w,I w->(∀SU,bc X i V w SU->Stop g SU)->aK X i ⟨V,g,w⟩):
 ∀{m:Nat} {g:Goroutine} {w:World},I w->Goes X.P false (bc X i V) DC0 Stop m g w->aK X i ⟨V,g,w⟩
 |0,g,w,hw,h=>hS g w hw h
 |m+1,g,w,hw,h=>by
  rcases h with h|⟨hs,h⟩
  .exact hS g w hw h
  .refine aK.step hs λSU SV=>?_;have hg:=h SU SV;cases Tg:stepG X.P false g SU with
   |go g' w' es=>
    rw[Tg,goes_go]at hg;obtain⟨⟨h1,h2⟩,h3⟩:=hg;subst h1 h2;refine⟨g',w',_,rfl,.inl (dE _ _ _),?_⟩;have:=mu hI hS (hI _ _ hw SV) h3;show aK X i ⟨grown V w' w',g',w'⟩;rw[bS];exact this
   |_=>rw[Tg]at hg;exact hg.elim
theorem Ai(X:aG)(H:WgLib X.P L)(hty:L.tWg=X.ty)(TJ:X.RO 0){c:Frame}{qt:Nat}(hcm:c.mode=.returning)(hT:QuitsD X.P qt 0 (G c cs))(hK:WgLive X.ty X.Wg w){v0:Value}(h0:w.cell? ⟨0,0,none⟩=some v0)
 (Ta:∀c,X.mine i c->w.cell? (X.at c)=some (X.val c)):aK X i ⟨V,G ((baseD L.done).at ⟨#[.pk X.Wg 0,undef,undef,undef],[]⟩ [.code (body_done L)]) (c::cs),w⟩:=by
 letI:ac0:=dH
 have lib:= @au8 dH L X.P H (λ_ _=>False) (λ_ _=>False) X.Wg 0 0 0 1 v0 c cs qt hcm hT w ⟨by rw[hty];exact hK,h0⟩;rw[hty]at lib;have mine:=GH (i:=i) (V:=V) X H (c:=c) (cs:=cs) w hK;have U6:∀a b,bc X i V a b-> @at1 dH X.ty X.Wg 0 0 0 (1- 1) a b:=λa b r=>
  @Go.ConcN.RW.mk dH _ _ _ _ _ _ _ _ (λb hb=>absurd hb (a35 _)) r.live (λ⟨cs,h1,h2⟩=>⟨cs,(r.own.keep 0 (.inr TJ)).trans h1,h2⟩) (by unfold uw;rw[show(⟨0,1- 1,none⟩:Addr).block=0 from rfl,r.own.keep 0 (.inr TJ)])
 have both:=As (rel:=.releaseMerge (stA X.Wg)) s_ (λw=>bc.refl X i V w) (λw=> @a56 dH _ _ _ _ _ _ w) U6 (λ_ _ _ h1 h2=> @av3 dH _ _ _ _ _ _ _ _ _ h1 h2)
  (λg w hs=>let ⟨g',h1,_⟩:=hs.2.2;⟨g',h1⟩) (λa b hd=>(hd.2 (Go.ConcR.mk .disable) s_).2.1 rfl) _ _ _ _ mine lib
 refine mu (I:=λw=>∀c,X.mine i c->w.cell? (X.at c)=some (X.val c)) (λa b h r c hc=>(r.cells c hc).trans (h c hc)) (λg w hw hs=>?_) Ta both;refine aK.stop ⟨(hs w (bc.refl X i V w)).1,λSU SV=>⟨λc hc=>(SV.cells c hc).trans (hw c hc),?_⟩⟩;exact(hs SU SV).2.2
end

end Go.Proofs.YtkmoglhgkcnalaaGreatDoor
namespace Go.Proofs.YtkmoglhgkcnalaaGreatDoor
open Go Go.Conc
open Go.ConcN (WgLive)
section
variable{X:aG}{b:Frame}{k:List Item}
theorem Wk.store{c:Nat}(ho:ops[n]?=some o)(hw:ug o (yielded ops a.tmps)=true)(T5:∀c,o.op≠ .defer c)(hk:b.kind=.normal)(hq:(X.P.funcs[b.fn]?).any (·.norace)=false)(hmine:X.mine i c)
 (hr:∀w,bc X i V w0 w->(execOp a.eval o).run X.P w=.ok .skip (w.setCell (X.at c) v)/\(execOp a.eval o).events X.P w #[]=#[⟨.cell (X.at c),true,false⟩])
 (h:∀w,bc X i V w0 w->Wk X i V (b.atR (a.put o.dst undef) (.inRegion ops rest::k)) cs (w.setCell (X.at c) v)):Wk X i V (b.atR a (.inRegion ops (n::rest)::k)) cs w0:=λw TM=>by
 refine aK.store rfl rfl ho hw T5 hk (λe ⟨x,hx⟩=>seen_eq hq λe' he' f hf=>?_) λSU SV=>?_
 .simp only[a46,a61]at he';subst he';rw[hx]at hf;cases hf
 .obtain⟨h2,h3⟩:=hr SU (TM.trans SV);refine⟨c,v,hmine,?_,?_⟩
  .rw[a49,a12,h2,h3]
  .rw[a21,ho];exact(h SU (TM.trans SV)).now
theorem Wk.call{Val:Value->Prop}(TJ:∀b,RO b->X.RO b)(hT:∀w,bc X i V w0 w->∀b,RO b->∃c e z,w.heap[b]?=some (.cells c e z))
 (hC:∀w,bc X i V w0 w->∀wv:World,wv.heap.size=w.heap.size->(∀b c e z,RO b->w.heap[b]?=some (.cells c e z)->wv.heap[b]?=some (.cells c e (0,c.size)))->Cl ⟨X.P,true,Jz⟩ f args wv λe _=>∃v,e=.returned v/\Val v)
 (Tt:(∀b,V b\/X.RO b->b<w0.heap.size)/\X.Wg<w0.heap.size/\X.C<w0.heap.size)
 (ho:ops[n]?=some o) (hw:ug o (yielded ops a.tmps)=true) (T5:∀c,o.op≠ .defer c) (hr:∀w,(execOp a.eval o).run X.P w=.ok (.enter f args) w/\(execOp a.eval o).events X.P w #[]=#[])
 (h:∀v,Val v->Wk X i V (b.atR (a.put o.dst v) (.inRegion ops rest::k)) cs w0):Wk X i V (b.atR a (.inRegion ops (n::rest)::k)) cs w0:=by
 refine Wk.enter ho hw T5 (λw _=>⟨(hr w).1,λe he=>by rw[(hr w).2]at he;simp at he⟩) λw TM=>?_;have Tf:=TM.own.size;refine yC (V0:=V) (w0:=w) ⟨λb hb=>fi (Tt.1 b hb) Tf,fi Tt.2.1 Tf,fi Tt.2.2 Tf⟩ TJ (hT w TM) (hC w TM) λv V' w' hv hV' hr'=>?_;rw[a21,ho];exact(h v hv w' (TM.trans hr')).more V' hV'
def sX(P:Program):Frame:={(default:Frame)with fn:=P.funcs.size,defers:=[],mode:=.panicking [goexitEntry]}
theorem DV{cap:Array Value}(hf:P.funcs[f]?=some fn)(Tc:(fn.name== "runtime.NumGoroutine")=false)(hb:fn.body.isNone=false)(w:World):
 stepG P false (born P {target:=.fn (.func f) cap,args:=args}) w=.go (dj (vd P f (args++cap) .deferred) [sX P]) w #[]:=by
 have h1:¬fn.name= "runtime.NumGoroutine" :=by simpa using Tc
 have h2:¬fn.body=none:=λe=>by rw[e]at hb;simp at hb
 simp[born,stepG,unwind,callDeferred,invoke,callFunc,hf,h1,h2,a54,seen_none,sX]
theorem Wk.born{cap:Array Value}(hf:X.P.funcs[f]?=some fn)(Tc:(fn.name== "runtime.NumGoroutine")=false)(hb:fn.body.isNone=false)(h:Wk X i V (vd X.P f (args++cap) .deferred) [sX X.P] w):aK X i ⟨V,Go.Conc.born X.P {target:=.fn (.func f) cap,args:=args},w⟩:=by
 refine aK.own rfl λSU SV=>⟨_,SU,#[],DV hf Tc hb SU,dE _ _ _,?_⟩;rw[bS];exact h SU SV
theorem Wk.defer{a01:Array Operand}{ats:Array TypeId}(ho:ops[n]?=some o)(hw:ug o (yielded ops a.tmps)=true)(hk:b.kind≠ .early)(hb:b.roundOf=none)(SS:o.op=.defer {callee:=.value (.func f),args:=a01,argTypes:=ats})
 (h:Wk X i V (b.atR (a84 ⟨a.tmps,dcall f (a01.map a.eval)::a.defers⟩ o.dst undef) (.inRegion ops rest::k)) cs w0):Wk X i V (b.atR a (.inRegion ops (n::rest)::k)) cs w0:=λw TM=>by
 rw[ao4 hb];rw[ao4 hb]at h;refine aK.own rfl λSU SV=>⟨_,SU,#[],stepG_defer ho hw hk SS,dE _ _ _,?_⟩;rw[bS];exact h SU (TM.trans SV)
theorem Wk.take(hd:a.defers={target:=.collected l,args:=#[]}::ds)(hV:V l)(hl:w0.heap[l]?=some (.deferred (some [])))
 (h:∀w,bc X i V w0 w->Wk X i V {b.atR ⟨a.tmps,ds⟩ k with mode:=.returning} cs {w with heap:=w.heap.setIfInBounds l (.deferred none)}):Wk X i V {b.atR a k with mode:=.returning} cs w0:=λw TM=>by
 refine aK.take (fr:={b.atR a k with mode:=.returning}) rfl hd hV ((TM.own.keep l (.inl hV)).trans hl) λSU SV=>?_;exact(h SU (TM.trans SV)).now
theorem yO(hf:P.funcs[f]?=some fn)(hr:fn.results=#[])(T:Array Value)(k:List Item):QuitsD P 2 0 (G {(baseD f).at ⟨T,[]⟩ k with mode:=.returning} [sX P]):=by
 refine au9 (g':=G (sX P) []) rfl (λw=>?_) ?_
 .simp[G,stepG,unwind,doReturn,results,Frame.at,baseD,sX,hf,hr,seen,a54,goexitEntry]
 refine au9 (g':={G (sX P) []with status:=.finished}) rfl (λw=>?_) ⟨rfl,rfl⟩;simp[G,stepG,unwind,sX,goexitEntry,Frame.catches];rfl
theorem Wk.done{L:an8}(H:ao5 X.P L)(hty:L.tWg=X.ty)(TJ:X.RO 0)(hf:X.P.funcs[f]?=some fn)(hr:fn.results=#[]){T:Array Value}
 {v0:Value} (h0:w0.cell? ⟨0,0,none⟩=some v0) (hK:WgLive X.ty X.Wg w0) (Ta:∀c,X.mine i c->w0.cell? (X.at c)=some (X.val c)):
 Wk X i V {(baseD f).atR ⟨T,[dcall L.done #[.pk X.Wg 0]]⟩ k with mode:=.returning} [sX X.P] w0:=λw TM=>by
 refine aK.own rfl λSU SV=>?_;have hs:=TM.trans SV;refine⟨_,SU,#[],stepG_unwind_enter (b:=baseD f) (a:=⟨T,[dcall L.done #[.pk X.Wg 0]]⟩) (todo:=k) (ds:=[]) rfl H.f_done (at5 L) rfl,dE _ _ _,?_⟩;rw[bS];have Ya:SU.cell? ⟨0,0,none⟩=some v0:=by
  rw[←h0];unfold uw;rw[hs.own.keep 0 (.inr TJ)]
 exact Ai X H hty TJ rfl (yO hf hr T k) (hs.live hK) Ya λc hc=>(hs.cells c hc).trans (Ta c hc)
end

end Go.Proofs.YtkmoglhgkcnalaaGreatDoor
namespace Go.Proofs.YtkmoglhgkcnalaaGreatDoor
open Go Go.Conc
section
variable{X:aG}{b:Frame}{k:List Item}
theorem AH{md:am_}(Tz:∀(n:Nat) (o:Oper),ops[n]?=some o->∀e∈o.after,e.on<n)(Inv:Array Bool->Act->World->Prop)
 (TE:∀listed a w,(∀n,n<ops.size->listed[n]?=some true)->Inv listed a w->Wk X i V (b.atR a (.inRegion ops []::k)) cs w)
 (Tu:∀listed a w n o rest,listed.size=ops.size->ops[n]?=some o->listed[n]?=some false->(∀e∈o.after,a88 md e=true->listed[e.on]?=some true)->Inv listed a w->
   (∀a' w',Inv (listed.setIfInBounds n true) a' w'->Wk X i V (b.atR a' (.inRegion ops rest::k)) cs w')->Wk X i V (b.atR a (.inRegion ops (n::rest)::k)) cs w)
 (t:Nat) (a:Act) (w:World) (h0:Inv (ve ops.size false) a w):Wk X i V (b.atR a (.inRegion ops (a15 md ops t)::k)) cs w:=by
 unfold a15;refine Wk.order (md:=md) (λfuel listed a w=>listed.size=ops.size/\jB listed=fuel/\Inv listed a w) (λlisted a w h=>?_) (λfuel listed a w h hr=>?_) (λfuel listed a w n rest h hn Tv=>?_) ops.size t _ a w ⟨by simp,?_,h0⟩
 .exact TE listed a w (λn hn=>rp h.2.1 n (by rw[h.1];exact hn)) h.2.2
 .exfalso;obtain⟨n,h1,h2,h3⟩:=pD h.2.1;have SX:n<ops.size:=by rw[←h.1];exact h1
  have hm:n∈a17 md ops listed:=by
   unfold a17;rw[ah3];refine⟨a60.2 SX,?_⟩;rw[hF SX];have e1:listed.getD n true=false:=(by simp[a11,h2]);rw[e1];simp only[aq8,No,a14,ae8];rw[a76];intro e he;have:=Tz n _ (hF SX) e he;simp[a11,h3 _ this]
  rw[hr]at hm;simp at hm
 .unfold a17 at hn;rw[ah3]at hn;obtain⟨Um,TZ⟩:=hn;have SX:=a60.1 Um;rw[hF SX]at TZ;simp only[No,a14,a27,ao3]at TZ;have hl:n<listed.size:=by rw[h.1];exact SX
  have hf:listed[n]?=some false:=by
   have:=TZ.1;rw[a11,hF hl]at this;rw[hF hl];simpa using this
  refine Tu listed a w n _ rest h.1 (hF SX) hf (λe he hb=>?_) h.2.2 λa' w' h'=>Tv a' w' ⟨by simp[h.1],rn h.2.1 hf,h'⟩;have:=a76.1 TZ.2 e he;rw[hb]at this;simp only[an3,ah0]at this;rw[a11]at this;cases e3:listed[e.on]? with
  |none=>rw[e3]at this;simp at this
  |some q=>rw[e3]at this;simp at this;rw[this]
 .simp[jB]
end

end Go.Proofs.YtkmoglhgkcnalaaGreatDoor
namespace Go.Proofs.YtkmoglhgkcnalaaGreatDoor
open Go Go.Conc
open Go.ConcN (WgLive)
def Cc(X:aG)(mz:World->Prop):Prop:=∀w w':World,(∀b,X.RO b->w'.heap[b]?=w.heap[b]?)->w.heap.size<=w'.heap.size->mz w->mz w'
structure qA (X:aG) (i:Nat) (mz:World->Prop) (V:Nat->Prop) (done:Nat->Prop) (w:World):Prop where
 pap:mz w
 live:WgLive X.ty X.Wg w
 list:X.list w
 cells:∀c,X.mine i c->done c->w.cell? (X.at c)=some (X.val c)
 low:(∀b,V b\/X.RO b->b<w.heap.size)/\X.Wg<w.heap.size/\X.C<w.heap.size
 sep:(∀b,V b->¬X.RO b/\b≠X.C/\b≠X.Wg)/\¬X.RO X.C/\X.C≠X.Wg
section
variable{X:aG}{mz:World->Prop}{done:Nat->Prop}
theorem qA.rely(hP:Cc X mz)(h:qA X i mz V done w)(r:bc X i V w w'):qA X i mz V done w':=
 ⟨hP w w' (λb hb=>r.own.keep b (.inr hb)) r.own.size h.pap,r.live h.live,r.list h.list,λc hc hd=>(r.cells c hc).trans (h.cells c hc hd),
  ⟨λb hb=>fi (h.low.1 b hb) r.own.size,fi h.low.2.1 r.own.size,fi h.low.2.2 r.own.size⟩,h.sep⟩
theorem qA.own(hP:Cc X mz)(h:qA X i mz V done w)(o:bB V X.RO w w' es):qA X i mz (grown V w w') done w':=by
 have hT:=o.turns;have h1:¬V X.Wg:=λhv=>(h.sep.1 _ hv).2.2 rfl;have h2:¬V X.C:=λhv=>(h.sep.1 _ hv).2.1 rfl;refine⟨hP w w' (λb hb=>o.keep b (h.low.1 b (.inr hb)) λhv=>(h.sep.1 b hv).1 hb) o.size h.pap,hT.live h1 h.low.2.1 h.live,hT.list h2 h.low.2.2 h.list,
  λc hc hd=>(hT.cell (a:=X.at c) h2 h.low.2.2).trans (h.cells c hc hd),⟨λb hb=>?_,fi h.low.2.1 o.size,fi h.low.2.2 o.size⟩,⟨λb hb=>?_,h.sep.2⟩⟩
 .rcases hb with(hb|hb)|hb
  .exact fi (h.low.1 b (.inl hb)) o.size
  .exact hb.2
  .exact fi (h.low.1 b (.inr hb)) o.size
 .rcases hb with hb|hb
  .exact h.sep.1 b hb
  .refine⟨λhr=>?_,λe=>?_,λe=>?_⟩
   .have:=h.low.1 b (.inr hr);omega
   .have:=h.low.2.2;omega
   .have:=h.low.2.1;omega
theorem qA.put(hP:Cc X mz)(h:qA X i mz V done w){c:Nat}(hc:c<X.n):qA X i mz V (λd=>done d\/d=c) (w.setCell (X.at c) (X.val c)):=by
 have hT:=tL w (X.at c) (X.val c);refine⟨hP w _ (λb hb=>?_) hT.size h.pap,hT.live (λe=>h.sep.2.2 (show X.Wg=X.C from e).symm) h.low.2.1 h.live,jO c _ h.list,λd hd hdn=>?_,⟨λb hb=>fi (h.low.1 b hb) hT.size,fi h.low.2.1 hT.size,fi h.low.2.2 hT.size⟩,h.sep⟩
 .exact hT.keep b (h.low.1 b (.inr hb)) λe=>h.sep.2.1 (by have e':b=X.C:=e;rw[←e'];exact hb)
 .obtain⟨cs,h1,h2⟩:=h.list;have hh:(w.setCell (X.at c) (X.val c)).heap[X.C]?=some (.cells (cs.setIfInBounds c (X.val c)) X.ety):=by
   obtain⟨SX,he⟩:=ap.1 h1;simp only[IT,aG.at];rw[By,h1];simp
  have Yk:(w.setCell (X.at c) (X.val c)).cell? (X.at d)=(cs.setIfInBounds c (X.val c))[d]?:=by
   unfold aG.at at hh;unfold uw aG.at;simp[hh]
  rw[Yk];by_cases hdc:d=c
  .subst hdc;rw[uc o_]
  .rw[cd (a19 hdc)];have:=h.cells d hd (hdn.resolve_right hdc);rw[←this];unfold uw aG.at;simp[h1]
theorem qA.mono{W1:Nat->Prop}(h:qA X i mz V done w)(hd:∀c,X.mine i c->W1 c->done c):qA X i mz V W1 w:=⟨h.pap,h.live,h.list,λc hc Yk=>h.cells c hc (hd c hc Yk),h.low,h.sep⟩
end

end Go.Proofs.YtkmoglhgkcnalaaGreatDoor
namespace Go.Proofs.YtkmoglhgkcnalaaGreatDoor
open Go Go.Conc
def LA(ops:Array Oper):Bool:=(gU ops.size).all λn=>((ops[n]?).map λo=>o.after.all λe=>decide (e.on<n)).getD true
theorem NE(h:LA ops=true)(n:Nat)(o:Oper)(ho:ops[n]?=some o):∀e∈o.after,e.on<n:=by
 intro e he;have hn:n<ops.size:=(ap.1 ho).1;have:=a22.1 h n (a60.2 hn);rw[ho]at this;simpa using a76.1 this e he
structure mx (fx:List (Nat×Value)) (tb:List (Nat×Nat×Value)) (N:Nat) (listed:Array Bool) (a:Act):Prop where
 defers:a.defers=[]
 size:N<=a.tmps.size
 fixed:∀p∈fx,a.tmps[p.1]?=some p.2
 come:∀p∈tb,listed[p.1]?=some true->a.tmps[p.2.1]?=some p.2.2
section
variable{tb:List (Nat×Nat×Value)}{listed:Array Bool}
theorem mx.put(h:mx fx tb N listed a){d:Nat}(hd:d<N)(h1:∀p∈fx,p.1≠d)(h2:∀p∈tb,p.2.1=d\/p.1=n->p=(n,d,v)):mx fx tb N (listed.setIfInBounds n true) (a.put (some d) v):=by
 refine⟨h.defers,by simpa[a84]using h.size,λp hp=>?_,λp hp hl=>?_⟩
 .show(a.tmps.setIfInBounds d v)[p.1]?=_;rw[cd (a19 (h1 p hp))];exact h.fixed p hp
 .show(a.tmps.setIfInBounds d v)[p.2.1]?=_;by_cases e:p.2.1=d\/p.1=n
  .have:=h2 p hp e;subst this;exact uc (fi hd h.size)
  .have e1:d≠p.2.1:=λx=>e (.inl x.symm);have e2:n≠p.1:=λx=>e (.inr x.symm);rw[cd e1];rw[cd e2]at hl;exact h.come p hp hl
theorem mx.pass(h:mx fx tb N listed a)(h2:∀p∈tb,p.1≠n)(v:Value):mx fx tb N (listed.setIfInBounds n true) (a.put none v):=by
 refine⟨h.defers,h.size,h.fixed,λp hp hl=>?_⟩;rw[cd (a19 (h2 p hp))]at hl;exact h.come p hp hl
end

end Go.Proofs.YtkmoglhgkcnalaaGreatDoor
namespace Go.Proofs.YtkmoglhgkcnalaaGreatDoor
open Go Go.Conc Go.RowKit
theorem ac:a.eval (.const v)=v:=rfl
theorem gX{x:Nat}(J:aB F N ds a:=by assumption)(hx:F.lookup x=some v:=by rfl):a.eval (.tmp x)=v:=J.get hx
theorem ag:a.eval (.global g)=.pk g 0:=rfl
theorem gx{p:Prop}(h:p:=by first|exact gY|exact gX|exact ac|exact ag):p:=h
theorem pl(h:ev x=v)(hp:iL v=true:=by rfl):iL (ev x)=true:=by rw[h];exact hp
theorem zo{t:TypeId}(h:mB P t i=true):kU P ev (.fieldAddr t x i):=h
theorem nR{p:Prop}(h:p:=by
 first
 |exact trivial
 |exact .inl ⟨pl gx,pl gx⟩
 |exact zo k_
 |exact⟨by kernel_rfl,pl gx⟩
 |exact⟨_,gx⟩
 |exact .inr ⟨by simp,_,gx,gx⟩):p:=h
theorem cg(SS:o.op=.move x\/o.op=.assign x):(execOp ev o).run P w=.ok (.value (ev x)) w:=by
 rcases SS with h|h<;>simp[execOp,h]
theorem CY(SS:o.op=.move x)(hx:ev x=v):(execOp ev o).run P w=.ok (.value v) w:=hx▸cg (.inl SS)
theorem vj(SS:o.op=.assign x)(hx:ev x=v):(execOp ev o).run P w=.ok (.value v) w:=hx▸cg (.inr SS)
theorem gf{q:Bool}(SS:o.op=.pick x y z)(hx:ev x=.bool q):(execOp ev o).run P w=.ok (.value (if q then ev y else ev z)) w:=by
 cases q<;>simp[execOp,SS,hx,go_sem]
theorem jt{vs:Array Value}(SS:o.op=.extract x i)(hx:ev x=.tuple vs)(hv:vs[i]?=some v):(execOp ev o).run P w=.ok (.value v) w:=by
 simp[execOp,SS,hx,an4,hv]
theorem aQ{t:TypeId}{cells old:Array Value}(SS:o.op=.store ty x y)(hx:ev x=.pk g 0)(hy:ev y=.agg cells)(hg:w.heap[g]?=some (.cells old t))(hi:(P.info? ty).map (·.size)=some cells.size)(ho:old.size=cells.size)(h1:cells.all (·.oneCell')=true):
 (execOp ev o).run P w=.ok .skip (w.setRow g cells):=by
 have h:=run_storeVar_row (P:=P) w g t ty old cells hg hi ho h1;simp[execOp,SS,hx,hy,ab2,a5_,h]
theorem a_(w:World)(g:Nat)(cs:Array Value)(h:N<=g):Below N w (w.setRow g cs):=⟨rfl,rfl,rfl,by simp[ak3],λk hk=>setRow_other w g k cs o_⟩
theorem uP{t:TypeId}(SS:o.op=.box t x):(execOp ev o).run P w=.ok (.value (.pk w.heap.size 0)) (w.alloc (.cells (ev x).cells t)):=by
 simp[execOp,SS,ar7,newVar,newRow,go_sem]
def nd:Op->Bool
 | .defer _=>false
 |_=>true
section
variable{C:iV}{b:Frame}{k:List Item}
def gV(ops:Array Oper)(F:List (Nat×Value)):Option (Nat×Bool)->Option Bool
 |none=>some true
 |some (g,q)=>match (ops[g]?).bind (·.dst)with
  |some s=>match F.lookup s with
   |some (.bool r)=>some (r==q)
   |some _=>some false
   |none=>none
  |none=>none
def Hn(F:List (Nat×Value))(ok:Nat->Bool)(a:Act):Prop:=∀d v,F.lookup d=some v->ok d=true->a.tmps[d]?=some v
def sV(ops:Array Oper)(ok:Nat->Bool):Option (Nat×Bool)->Bool
 |none=>true
 |some (g,_)=>((ops[g]?).bind (·.dst)).all ok
theorem Nn{ok:Nat->Bool}{q:Bool}(J:Hn F ok a)(h:o.guard=gd)(hw:gV ops F gd=some q)(hk:sV ops ok gd=true):ug o (yielded ops a.tmps)=q:=by
 unfold ug yielded;rw[h];cases gd with
 |none=>exact Option.some.inj hw
 |some gq=>
  obtain⟨g,r⟩:=gq;simp only[gV,sV]at hw hk;cases hs:(ops[g]?).bind (·.dst)with
  |none=>rw[hs]at hw;cases hw
  |some s=>
   rw[hs]at hw hk;simp only at hw;cases hr:F.lookup s with
   |none=>rw[hr]at hw;cases hw
   |some u=>
    rw[hr]at hw;simp only[hs,J s _ hr (by simpa using hk),a51];cases u with
    |bool x=>simpa using hw
    |_=>exact Option.some.inj hw
theorem gN{q:Bool}(J:aB F N ds a)(h:o.guard=gd)(hw:gV ops F gd=some q):ug o (yielded ops a.tmps)=q:=Nn (ok:=λ_=>true) (λd v h _=>J.slot d v h) h hw (by cases gd<;>simp[sV])
theorem rX(e:o.op=p)(h:nd p=true):∀c,o.op≠ .defer c:=λc q=>by rw[←e,q]at h;cases h
theorem ye(J:aB F N ds a)(next:∀a',aB ((d,v)::F) N ds a'->Rn C Goal (b.atR a' (.inRegion ops rest::k)) cs w)
 (h:(ops[m]?).map (λo=>(o.dst,o.op,o.guard))=some (some d,p,gd):=by rfl) (hw:gV ops F gd=some true:=by rfl) (hy:∀o:Oper,o.op=p->(execOp a.eval o).run C.P w=.ok (.value v) w:=by intro o ho;exact oq) (hd:d<N:=by decide) (T5:nd p=true:=by rfl) (ok:kU C.P a.eval p:=by exact nR):Rn C Goal (b.atR a (.inRegion ops (m::rest)::k)) cs w:=by
 obtain⟨o,ho,e1,e2,e3⟩:=lz h;refine pn ho (gN J e3 hw) (rX e2 T5) ⟨hy o e2,i3 (e2▸ok),λ_=>rfl,rfl⟩ ?_;rw[e1];exact next _ (J.put hd v)
def fa:Nat->Frame->List Item
 |0,fr=>fr.todo
 |n+1,fr=>match fr.todo with
  | .inRegion _ (_::_)::_=>fr.todo
  |_=>match fM fr with
   |some t=>fa n {fr with todo:=t}
   |none=>fr.todo
theorem dn:∀(n:Nat) (k:List Item),Rn C Goal (b.atR a (fa n (b.atR a k))) cs w->Rn C Goal (b.atR a k) cs w
 |0,_,h=>h
 |n+1,k,h=>by
  unfold fa at h;split at h
  .exact h
  .split at h
   .rename_i t ht;exact a9 ht (dn n t h)
   .exact h
theorem bK(next:Rn C Goal (b.atR a (.inRegion ops (m::rest)::k')) cs w)(h:fa 6 (b.atR a k)=.inRegion ops (m::rest)::k':=by rfl):Rn C Goal (b.atR a k) cs w:=dn 6 k (by rw[h];exact next)
theorem ab(J:aB F N ds a)(next:∀a',aB ((d,v)::F) N ds a'->Rn C Goal (b.atR a' (.inRegion ops rest::k')) cs w)(h0:fa 6 (b.atR a k)=.inRegion ops (m::rest)::k':=by rfl)
 (h:(ops[m]?).map (λo=>(o.dst,o.op,o.guard))=some (some d,p,gd):=by rfl) (hw:gV ops F gd=some true:=by rfl) (hy:∀o:Oper,o.op=p->(execOp a.eval o).run C.P w=.ok (.value v) w:=by intro o ho;exact oq) (hd:d<N:=by decide) (T5:nd p=true:=by rfl) (ok:kU C.P a.eval p:=by exact nR):Rn C Goal (b.atR a k) cs w:=bK (ye J next h hw hy hd T5 ok) h0
theorem aH{t:Tmp}(J:aB F N [] a)(hR:R v w)(hv:F.lookup t=some v:=by rfl)(h0:fa 6 ((base f).atR a k)=.code .ret::k':=by rfl):
 Rn C (λg w'=>∃(a:Act) (k:List Item) (v:Value),g=dj {(base f).atR a k with mode:=.returning} cs/\a.defers=[]/\a.tmps[t]?=some v/\R v w') ((base f).atR a k) cs w:=
 dn 6 k (by rw[h0];exact aS rfl (.inr ⟨_,rfl⟩) (bj ⟨a,_,_,rfl,J.defers,J.slot t _ hv,hR⟩))
theorem eN{t u:Tmp}{x:Value}{R:Value->Value->World->Prop}(J:aB F N [] a)(hR:R v x w)(hv:F.lookup t=some v:=by rfl)(hx:F.lookup u=some x:=by rfl)(h0:fa 6 ((base f).atR a k)=.code .ret::k':=by rfl):
 Rn C (λg w'=>∃(a:Act) (k:List Item) (v x:Value),g=dj {(base f).atR a k with mode:=.returning} cs/\a.defers=[]/\a.tmps[t]?=some v/\a.tmps[u]?=some x/\R v x w') ((base f).atR a k) cs w:=
 dn 6 k (by rw[h0];exact aS rfl (.inr ⟨_,rfl⟩) (bj ⟨a,_,_,_,rfl,J.defers,J.slot t _ hv,J.slot u _ hx,hR⟩))
theorem PH{p:Prop}(h:p:=by first|exact λ_=>rfl|(intro h;cases h)|(intro _;simp[World.setCell,World.setRow])):p:=h
theorem ai(J:aB F N ds a)(hy:∀o:Oper,o.op=p->(execOp a.eval o).run C.P w=.ok (.value v) w')(next:∀a',aB ((d,v)::F) N ds a'->Rn C Goal (b.atR a' (.inRegion ops rest::k')) cs w')(h0:fa 6 (b.atR a k)=.inRegion ops (m::rest)::k':=by rfl)
 (h:(ops[m]?).map (λo=>(o.dst,o.op,o.guard))=some (some d,p,gd):=by rfl) (hw:gV ops F gd=some true:=by rfl) (hd:d<N:=by decide) (T5:nd p=true:=by rfl) (ok:kU C.P a.eval p:=by exact nR) (hz:C.pad=true->w'.heap.size=w.heap.size:=by exact PH) (hq:w'.drawn=w.drawn:=by rfl):Rn C Goal (b.atR a k) cs w:=by
 refine bK ?_ h0;obtain⟨o,ho,e1,e2,e3⟩:=lz h;refine pn ho (gN J e3 hw) (rX e2 T5) ⟨hy o e2,i3 (e2▸ok),hz,hq⟩ ?_;rw[e1];exact next _ (J.put hd v)
theorem aP(J:aB F N ds a)(hy:∀o:Oper,o.op=p->(execOp a.eval o).run C.P w=.ok .skip w')(next:∀a',aB F N ds a'->Rn C Goal (b.atR a' (.inRegion ops rest::k')) cs w')(h0:fa 6 (b.atR a k)=.inRegion ops (m::rest)::k':=by rfl)
 (h:(ops[m]?).map (λo=>(o.dst,o.op,o.guard))=some (none,p,none):=by rfl) (T5:nd p=true:=by rfl) (ok:kU C.P a.eval p:=by exact nR) (hz:C.pad=true->w'.heap.size=w.heap.size:=by exact PH) (hq:w'.drawn=w.drawn:=by rfl):Rn C Goal (b.atR a k) cs w:=by
 refine bK ?_ h0;obtain⟨o,ho,e1,e2,e3⟩:=kS h;refine AK ho (e3 _) (rX e2 T5) ⟨hy o e2,i3 (e2▸ok),hz,hq⟩ ?_;rw[e1];exact next a J
theorem dX(J:aB F N ds a)(hy:∀o:Oper,o.op=p->∀w1,tz C.pad w w1->∃v w',(execOp a.eval o).run C.P w1=.ok (.value v) w'/\R v w')(next:∀v w',R v w'->∀a',aB ((d,v)::F) N ds a'->Rn C Goal (b.atR a' (.inRegion ops rest::k')) cs w')(h0:fa 6 (b.atR a k)=.inRegion ops (m::rest)::k':=by rfl)
 (h:(ops[m]?).map (λo=>(o.dst,o.op,o.guard))=some (some d,p,gd):=by rfl) (hw:gV ops F gd=some true:=by rfl) (hd:d<N:=by decide) (T5:nd p=true:=by rfl) (ok:kU C.P a.eval p:=by exact nR):Rn C Goal (b.atR a k) cs w:=by
 refine bK ?_ h0;obtain⟨o,ho,e1,e2,e3⟩:=lz h;refine C6 ho (gN J e3 hw) (rX e2 T5) (i3 (e2▸ok)) λw1 hp=>?_;obtain⟨v,w',q1,q2⟩:=hy o e2 w1 hp;refine⟨v,w',q1,?_⟩;rw[e1];exact next v w' q2 _ (J.put hd v)
def RY(F:List (Nat×Value)):Operand->Option Value
 | .tmp t=>F.lookup t
 | .const v=>some v
 |_=>none
def xL(F:List (Nat×Value)):List Operand->Option (List Value)
 |[]=>some []
 |x::r=>match RY F x,xL F r with
  |some v,some l=>some (v::l)
  |_,_=>none
theorem GF(J:aB F N ds a)(h:RY F x=some v):a.eval x=v:=by
 cases x with
 |tmp t=>exact J.get h
 |const u=>exact Option.some.inj h
 |func f=>cases h
 |_=>cases h
theorem Ag(J:aB F N ds a):∀(xs:List Operand) (vs:List Value),xL F xs=some vs->xs.map a.eval=vs
 |[],vs,h=>by cases h;rfl
 |x::r,vs,h=>by
  unfold xL at h;split at h
  .rename_i v l h1 h2;cases h;rw[aa0,GF J h1,Ag J r l h2]
  .cases h
theorem nA{xs:Array Operand}{ats:Array TypeId}(SS:o.op=.call {callee:=.value (.func f),args:=xs,argTypes:=ats})(ha:xs.map ev=args)(hf:C.P.funcs[f]?=some fn)(Tc:(fn.name== "runtime.NumGoroutine")=false)(hb:fn.body.isNone=false)(he:ev (.func f)=.func (.func f) #[] #[]):Rk C ev o w (.enter f args) w:=by
 have e:execOp ev o=callFunc f args:=by
  simp only[execOp,SS,resolve,ab9,he,ha];simp[invoke,bind,a30,pure]
 have hr:=jQ (w:=w) hf Tc hb args;rw[a12]at hr;refine⟨by rw[e];exact(Prod.mk.inj hr).1,?_,λ_=>rfl,rfl⟩;rw[e];refine .eqv (s':=.pure (.enter f args)) (λw es=>?_) (.pure _);have h1:¬fn.name= "runtime.NumGoroutine" :=by simpa using Tc
 have h2:¬fn.body=none:=λe=>by rw[e]at hb;simp at hb
 simp[-a12,callFunc,bind,a30,a44,pure,program,hf,h1,h2]
theorem bp{xs:Array Operand}{ats:Array TypeId}{vs:List Value}(J:aB F N ds a)(hf:C.P.funcs[f]?=some fn)(hC:Cl C f vs.toArray w λe w'=>∃v,e=.returned v/\R v w')
 (next:∀v w',R v w'->∀a',aB ((d,v)::F) N ds a'->Rn C Goal (b.atR a' (.inRegion ops rest::k')) cs w') (h0:fa 6 (b.atR a k)=.inRegion ops (m::rest)::k':=by rfl)
 (h:(ops[m]?).map (λo=>(o.dst,o.op,o.guard))=some (some d,.call {callee:=.value (.func f),args:=xs,argTypes:=ats},gd):=by rfl) (ha:xL F xs.toList=some vs:=by rfl) (hd:d<N:=by decide) (Tc:(fn.name== "runtime.NumGoroutine")=false:=by kernel_rfl) (hb:fn.body.isNone=false:=by kernel_rfl) (hw:gV ops F gd=some true:=by rfl):Rn C Goal (b.atR a k) cs w:=by
 refine bK ?_ h0;obtain⟨o,ho,e1,e2,e3⟩:=lz h;refine vZ ho (gN J e3 hw) (by rw[e2];simp) (nA e2 (by rw[←Ag J _ _ ha,←Array.toList_map,Array.toArray_toList]) hf Tc hb rfl) hC λv w' hv=>?_;rw[e1];exact next v w' hv _ (J.put hd v)
theorem bz{xs:Array Operand}{ats:Array TypeId}{vs:List Value}{B:World->Prop}(J:aB F N ds a)(hf:C.P.funcs[f]?=some fn)(hC:Cl C f vs.toArray w λe w'=>e=.returned v/\B w')
 (next:∀w',B w'->∀a',aB ((d,v)::F) N ds a'->Rn C Goal (b.atR a' (.inRegion ops rest::k')) cs w') (h0:fa 6 (b.atR a k)=.inRegion ops (m::rest)::k':=by rfl)
 (h:(ops[m]?).map (λo=>(o.dst,o.op,o.guard))=some (some d,.call {callee:=.value (.func f),args:=xs,argTypes:=ats},gd):=by rfl) (ha:xL F xs.toList=some vs:=by rfl) (hd:d<N:=by decide) (Tc:(fn.name== "runtime.NumGoroutine")=false:=by kernel_rfl) (hb:fn.body.isNone=false:=by kernel_rfl) (hw:gV ops F gd=some true:=by rfl):Rn C Goal (b.atR a k) cs w:=
 bp (R:=λu w'=>u=v/\B w') J hf (hC.mono λ_ _ h=>⟨_,h.1,rfl,h.2⟩) (λu w' hu a' J=>by obtain⟨rfl,hB⟩:=hu;exact next w' hB a' J) h0 h ha hd Tc hb hw
theorem bA{ob:Obj}(J:aB F N ds a)(hy:∀o:Oper,o.op=p->(execOp a.eval o).run C.P w=.ok (.value v) (w.alloc ob))
 (next:∀w' a',Bw w w'->w'.heap[w.heap.size]?=some ob->w'.heap.size=w.heap.size+1->aB ((d,v)::F) N ds a'->Rn C Goal (b.atR a' (.inRegion ops rest::k')) cs w') (h0:fa 6 (b.atR a k)=.inRegion ops (m::rest)::k':=by rfl)
 (h:(ops[m]?).map (λo=>(o.dst,o.op,o.guard))=some (some d,p,gd):=by rfl) (hw:gV ops F gd=some true:=by rfl) (hd:d<N:=by decide) (T5:nd p=true:=by rfl) (ok:kU C.P a.eval p:=by exact nR) (hp:C.pad=false:=by rfl):Rn C Goal (b.atR a k) cs w:=
 ai J hy (λa' J=>next _ a' (aJ w ob) (aR w ob) (ay w ob) J) h0 h hw hd T5 ok (λh=>by rw[hp]at h;cases h) rfl
theorem QX{V:Nat->Value}{ob:Obj}(J:aB F N ds a)(hy:∀(o:Oper) (w:World),o.op=p->(execOp a.eval o).run C.P w=.ok (.value (V w.heap.size)) (w.alloc ob))
 (next:∀n w' a',w.heap.size<=n->Bw w w'->w'.heap[n]?=some ob->n<w'.heap.size->aB ((d,V n)::F) N ds a'->Rn C Goal (b.atR a' (.inRegion ops rest::k')) cs w') (h0:fa 6 (b.atR a k)=.inRegion ops (m::rest)::k':=by rfl)
 (h:(ops[m]?).map (λo=>(o.dst,o.op,o.guard))=some (some d,p,gd):=by rfl) (hw:gV ops F gd=some true:=by rfl) (hd:d<N:=by decide) (T5:nd p=true:=by rfl) (ok:kU C.P a.eval p:=by exact nR):Rn C Goal (b.atR a k) cs w:=
 dX (R:=λv w'=>∃n,v=V n/\w.heap.size<=n/\Bw w w'/\w'.heap[n]?=some ob/\n<w'.heap.size) J (λo ho w1 hp=>⟨_,_,hy o w1 ho,_,rfl,hp.below.size,ae hp.below hp.below.size (aJ w1 ob),aR w1 ob,by rw[ay];omega⟩) (λv w' ⟨n,e,h1,h2,h3,h4⟩ a' J=>by subst e;exact next n w' a' h1 h2 h3 h4 J) h0 h hw hd T5 ok
theorem dw{x:Tmp}{t:TypeId}{c:Array Value}(J:aB F N ds a)
 (next:∀w' a',Bw w w'->w'.heap[w.heap.size]?=some (.cells c t)->w'.heap.size=w.heap.size+1->aB ((d,.pk w.heap.size 0)::F) N ds a'->Rn C Goal (b.atR a' (.inRegion ops rest::k')) cs w') (h0:fa 6 (b.atR a k)=.inRegion ops (m::rest)::k':=by rfl)
 (h:(ops[m]?).map (λo=>(o.dst,o.op,o.guard))=some (some d,.box t (.tmp x),none):=by rfl) (hx:F.lookup x=some (.agg c):=by rfl) (hd:d<N:=by decide) (hp:C.pad=false:=by rfl):Rn C Goal (b.atR a k) cs w:=
 bA J (λo ho=>by rw[uP ho,J.get hx];rfl) next h0 h rfl hd rfl trivial hp
end
theorem bk{o:Obj}(hb:Bw w w')(h:w.heap[b]?=some o):w'.heap[b]?=some o:=(hb.block _ (ap.1 h).1).trans h

theorem Rr{p:Prop}(h:p:=by
 first
 |exact oq
 |exact de ho gx (bk hC (by assumption)) Rx (λ_=>by kernel_rfl)):p:=h
def lA(ops:Array Oper)(n m x:Nat):Bool:=(gU n).all λk=>(ops[k]?).bind (·.dst) !=some x||needs ops m k
def xl(ok:Nat->Bool):Operand->Bool
 | .tmp t=>ok t
 |_=>true
def dO(ops:Array Oper)(m:Nat):Nat:=((ops[m]?).bind (·.dst)).getD 0
def zZ:List Nat->List (Nat×Value)->List (Nat×Value)
 |_,[]=>[]
 |ds,p::r=>if ds.contains p.1 then zZ ds r else p::zZ (p.1::ds) r
theorem zY:∀{F:List (Nat×Value)} {ds:List Nat} {p:Nat×Value},p∈zZ ds F->p.1∉ds/\F.lookup p.1=some p.2
 |q::r,ds,p,h=>by
  unfold zZ at h;split at h
  .rename_i hc;have:=zY h;exact⟨this.1,by rw[IN,show(p.1==q.1)=false from beq_eq_false_iff_ne.2 λe=>this.1 (by rw[e];simpa using hc)];exact this.2⟩
  .rename_i hc;rcases a42.1 h with rfl|h
   .exact⟨by simpa using hc,by simp[IN]⟩
   .have:=zY h;simp only[a42,not_or]at this;exact⟨this.1.2,by rw[IN,show(p.1==q.1)=false from by simpa using this.1.1];exact this.2⟩
theorem zX:∀{F:List (Nat×Value)} {ds:List Nat} {d:Nat} {v:Value},F.lookup d=some v->d∉ds->(d,v)∈zZ ds F
 |q::r,ds,d,v,h,hd=>by
  unfold zZ;by_cases e:d=q.1
  .subst e;simp only[IN,beq_self_eq_true,Option.some.injEq]at h;simp[hd,←h]
  .simp only[IN,show(d==q.1)=false from by simpa using e]at h;split
   .exact zX h hd
   .exact List.mem_cons_of_mem _ (zX h (by simp[e,hd]))
abbrev WP:=World->Prop
def tj(ok:Nat->Bool)(w:World):List (Nat×WP)->Prop
 |[]=>True
 |x::M=>(ok x.1=true->x.2 w)/\tj ok w M
abbrev LF:=Value⊕(Value->WP)
def Ms(W:World)(V:Nat->Value)(ob:Obj)(u:Value)(w:World):Prop:=∃b,u=V b/\W.heap.size<=b/\w.heap[b]?=some ob
def Pu(S:Value->WP):Prop:=∀v w w',S v w->Bw w w'->S v w'
theorem Ms.st{W:World}{V:Nat->Value}{ob:Obj}:Pu (Ms W V ob):=λ_ _ _ ⟨b,h1,h2,h3⟩ hb=>⟨b,h1,h2,bk hb h3⟩
section
variable{C:iV}{W:World}{Q:Act->WP}{T:List LF}{M:List (Nat×WP)}
structure At (ops:Array Oper) (W:World) (n m:Nat) (F:List (Nat×Value)) (M:List (Nat×WP)) (a:Act) (w:World):Prop where
 f:Hn F (lA ops n m) a
 b:Bw W w
 m:∀w',Bw w w'->tj (lA ops n m) w' M
theorem At.up(z:At ops W n m F M a w)(h:Bw w w1):At ops W n m F M a w1:=⟨z.f,ae z.b z.b.size h,λw' h'=>z.m w' (ae h h.size h')⟩
theorem gY{x:Nat}(z:At ops W n m F M a w:=by assumption)(hx:F.lookup x=some v:=by rfl)(hk:lA ops n m x=true:=by kernel_rfl):a.eval (.tmp x)=v:=aW (z.f x v hx hk)
def Sp(C:iV)(ops:Array Oper)(W:World)(n m:Nat)(F:List (Nat×Value))(M:List (Nat×WP))(R:Value->WP):Prop:=
 ∀o a w,ops[m]?=some o->At ops W n m F M a w->yp C ops a o w λu w'=>R u w'/\Bw w w'
def Gw(C:iV)(ops:Array Oper)(W:World)(N n:Nat)(df:List Deferred)(Q:Act->WP):List LF->Nat->List (Nat×Value)->List (Nat×WP)->Prop
 |[],m,F,M=>m=n/\∀a w,aB F N df a->Bw W w->tj (λ_=>true) w M->Q a w
 | .inl v::T,m,F,M=>Sp C ops W n m F M (λu _=>u=v)/\Gw C ops W N n df Q T (m+1) ((dO ops m,v)::F) M
 | .inr S::T,m,F,M=>Pu S/\Sp C ops W n m F M S/\∀u,Gw C ops W N n df Q T (m+1) ((dO ops m,u)::F) ((dO ops m,S u)::M)
def uR(T:List LF)(m:Nat)(v:Value)(w:World):Prop:=
 match T[m]? with
 |some (.inl u)=>v=u
 |some (.inr S)=>S v w
 |none=>True
def Hi(ops:Array Oper)(n i:Nat)(F:List (Nat×Value))(ok:Nat->Bool)(a:Act):Prop:=∀d v,F.lookup d=some v->ok d=true->(∀k,i<=k->k<n->dO ops k≠d)->a.tmps[d]?=some v
theorem Gi(h:Gw C ops W N n df Q T 0 F [])(a:Act)(w:World)(ok:Nat->Bool)(Wm:Hi ops n 0 F ok a):
 ∀i,i<=T.length->(∀m,m<i->ok (dO ops m)=true->∃v,a.tmps[dO ops m]?=some v/\∀w',Bw w w'->uR T m v w')->∃F M,Gw C ops W N n df Q (T.drop i) i F M/\Hi ops n i F ok a/\∀w',Bw w w'->tj ok w' M:=by
 intro i;induction i with
 |zero=>exact λ_ _=>⟨F,[],h,Wm,λ_ _=>trivial⟩
 |succ i ih=>
  intro hi T2;obtain⟨F,M,h1,h2,h3⟩:=ih o_ λm hm=>T2 m o_;have hg:=fj (show i<T.length by omega);rw[a55 o_]at h1;have hr:=T2 i o_;have key:∀{v:Value},(ok (dO ops i)=true->a.tmps[dO ops i]?=some v)->Hi ops n (i+1) ((dO ops i,v)::F) ok a:=λ{v} hv d u hd hk hl=>by
   by_cases e:d=dO ops i
   .subst e;simp only[IN,beq_self_eq_true,Option.some.injEq]at hd;exact hd▸hv hk
   .simp only[IN,show(d==dO ops i)=false from by simpa using e]at hd;exact h2 d u hd hk λk h4 h5=>by
     rcases Nat.lt_or_ge i k with h6|h6
     .exact hl k h6 h5
     .rw[show k=i by omega];exact a19 e
  unfold uR at hr;rw[hg]at hr;revert h1 hr;cases T[i]with
  |inl v=>exact λh1 hr=>⟨_,_,h1.2,key λhk=>let ⟨_,g1,g2⟩:=hr hk;g2 w (gz _ _)▸g1,h3⟩
  |inr S=>
   intro h1 hr;have:∃u,ok (dO ops i)=true->a.tmps[dO ops i]?=some u/\∀w',Bw w w'->S u w':=by
    by_cases hk:ok (dO ops i)=true
    .obtain⟨u,g⟩:=hr hk;exact⟨u,λ_=>g⟩
    .exact⟨undef,λh=>absurd h hk⟩
   obtain⟨u,hu⟩:=this;exact⟨_,_,h1.2.2 u,key λhk=>(hu hk).1,λw' hb=>⟨λhk=>(hu hk).2 w' hb,h3 w' hb⟩⟩
variable{Goal:Goroutine->WP}{b:Frame}{k:List Item}
theorem Ho{id:Nat}(J:aB F N df a)(h:Gw C ops W N n df Q T 0 F [])(TA:Nat->Act->WP)(hQ:∀a w,Q a w->TA n a w)
 (Tg:∀m o a w' rest,n<=m->ops[m]?=some o->TA m a w'->(∀a' Tm,TA (m+1) a' Tm->Rn C Goal (b.atR a' (.inRegion ops rest::k)) cs Tm)->Rn C Goal (b.atR a (.inRegion ops (m::rest)::k)) cs w')
 (TE:∀a w',TA ops.size a w'->Rn C Goal (b.atR a k) cs w') (TQ:C.P.follows .mixedOrders=true) (TD:fQ ops ((gU n).map (dO ops)) ((zZ ((gU n).map (dO ops)) F).map (·.1)) N=true):Rn C Goal (b.atR a (.code (.region id ops true)::k)) cs W:=by
 have len:((gU n).map (dO ops)).length=n:=by simp
 have come:∀{m},m<n->((gU n).map (dO ops))[m]?=some (dO ops m):=λ{m} hm=>by simp[hm]
 have dst:∀{m},m<n->(ops[m]?).bind (·.dst)=some (dO ops m):=λ{m} hm=>by
  simp only[fQ,a27,a22,a60]at TD;have:=TD.1.1.1.2 m (by simpa using hm);cases ho:ops[m]? with
  |none=>rw[ho]at this;simp at this
  |some o=>
   rw[ho,come hm]at this;simp only[No,a14,a27,beq_iff_eq]at this;simpa using this.1
 have Z2:=λi hi=>Gi h a W (λ_=>false) (λd v h _ _=>J.slot d v h) i hi λ_ _ h=>by cases h
 have hn:T.length=n:=by
  obtain⟨_,_,h1,_⟩:=Z2 T.length (dv _);rw[ap6]at h1;exact h1.1
 have look:∀{a':Act} {ok:Nat->Bool},(∀p∈zZ ((gU n).map (dO ops)) F,a'.tmps[p.1]?=some p.2)->Hi ops n 0 F ok a':=λhp d v hd _ hl=>hp (d,v) (zX hd λhm=>by obtain⟨k,h1,h2⟩:=ad8.1 hm;exact hl k (a00 _) (a60.1 h1) h2);have dep:=TD;simp only[fQ,a27]at dep;have mono:∀m v w w',uR T m v w->Bw w w'->uR T m v w':=λm v w w' hg hb=>by
  unfold uR at hg⊢;split at hg
  .exact hg
  .rename_i S hT;obtain⟨hm,e⟩:=gt.1 hT;obtain⟨_,_,h1,_⟩:=Z2 m (Nat.le_of_lt hm);rw[a55 hm,e]at h1;exact h1.1 v w w' hg hb
  .trivial
 have keep:∀{m:Nat} {a:Act} {w:World},(∃v,a.tmps[dO ops m]?=some v/\uR T m v w)->∃v,a.tmps[dO ops m]?=some v/\∀w',Bw w w'->uR T m v w':=λ⟨v,h1,h2⟩=>⟨v,h1,λw' hb=>mono _ v _ w' h2 hb⟩;refine uq (fx:=zZ ((gU n).map (dO ops)) F) (ds:=(gU n).map (dO ops)) (N:=N) (df:=df) (G:=uR T) TQ TD mono (λm o a w hm ho hb _ Wm T2=>?_) TA (λa w hg=>?_) (λm o a w rest hm=>Tg m o a w rest (len▸hm)) TE J.defers J.size λp hp=>J.slot _ _ (zY hp).2
 .rw[len]at hm;obtain⟨F',M,h1,h2,h3⟩:=Gi h a w (lA ops n m) (look Wm) m o_ λj hj hk=>keep (T2 j _ (come o_) (by
   have:=a22.1 hk j (a60.2 o_);rw[dst o_]at this;simpa using this))
  have h2:Hn F' (lA ops n m) a:=λd v hd hk=>h2 d v hd hk λj hj Ux e=>by
   have:=a22.1 hk j (a60.2 Ux);rw[dst Ux,e]at this;have:=di (listed:=ve m true) (by simpa using this) ho λe he hb=>by simp[pc dep.1.1.1.1.1 m o ho e he hb]
   simp only[a72]at this;split at this
   .omega
   .cases this
  rw[a55 o_]at h1;unfold uR;rw[fj (show m<T.length by omega)];revert h1;cases T[m]with
  |inl u=>exact λh1=>h1.1 o a w ho ⟨h2,hb,h3⟩
  |inr S=>exact λh1=>h1.2.1 o a w ho ⟨h2,hb,h3⟩
 .obtain⟨F',M,h1,h2,h3⟩:=Gi h a w (λ_=>true) (look hg.fixed) T.length (dv _) λj hj _=>keep (hg.come j _ (come o_) trivial);rw[ap6]at h1;rw[len];exact hQ a w (h1.2 a w ⟨hg.defers,hg.size,λd v hd=>h2 d v hd rfl λk hk VW=>absurd VW o_⟩ hg.old (h3 w (gz _ _)))
def Gx(C:iV)(ops:Array Oper)(W:World)(N n:Nat)(df:List Deferred)(Q:Act->WP)(m:Nat)(F:List (Nat×Value))(M:List (Nat×WP)):Prop:=∃T,Gw C ops W N n df Q T m F M
theorem cC{id:Nat}(J:aB F N df a)(h:Gx C ops W N ops.size df (λa w=>Rn C Goal (b.atR a k) cs w) 0 F [])(TQ:C.P.follows .mixedOrders=true:=by kernel_rfl)(TD:fQ ops ((List.range ops.size).map (dO ops)) ((zZ ((List.range ops.size).map (dO ops)) F).map (·.1)) N=true:=by kernel_rfl):Rn C Goal (b.atR a (.code (.region id ops true)::k)) cs W:=
 let ⟨_,h⟩:=h
 Ho J h (λ_ a w=>Rn C Goal (b.atR a k) cs w) (λ_ _ h=>h) (λm o a w rest hm ho=>absurd (Array.getElem?_eq_some_iff.1 ho).1 o_) (λ_ _ h=>h) TQ TD
def Tl(C:iV)(Goal:Goroutine->WP)(b:Frame)(ops:Array Oper)(k:List Item)(cs:List Frame)(n:Nat)(R:Act->WP)(a:Act)(w:World):Prop:=∀rest,(∀a' w',R a' w'->Rn C Goal (b.atR a' (.inRegion ops rest::k)) cs w')->Rn C Goal (b.atR a (.inRegion ops (n::rest)::k)) cs w
theorem ie{id:Nat}(n:Nat)(J:aB F N df a)(h:Gx C ops W N n df (Tl C Goal b ops k cs n λa w=>Rn C Goal (b.atR a k) cs w) 0 F [])(hz:ops.size=n+1:=by rfl)(TQ:C.P.follows .mixedOrders=true:=by kernel_rfl)(TD:fQ ops ((List.range n).map (dO ops)) ((zZ ((List.range n).map (dO ops)) F).map (·.1)) N=true:=by kernel_rfl):Rn C Goal (b.atR a (.code (.region id ops true)::k)) cs W:=by
 obtain⟨_,h⟩:=h;refine Ho J h (λm a w=>if m=n then Tl C Goal b ops k cs n (λa w=>Rn C Goal (b.atR a k) cs w) a w else Rn C Goal (b.atR a k) cs w) (λa w h=>by rwa [if_pos rfl]) (λm o a w rest hm ho h hgo=>?_) (λa w h=>by rwa [if_neg o_]at h) TQ TD;have:=(Array.getElem?_eq_some_iff.1 ho).1;obtain rfl:m=n:=by omega
 rw[if_pos rfl]at h;exact h rest λa w h=>hgo a w (by rwa [if_neg o_])
theorem C8{id:Nat}(n:Nat)(J:aB F N df a)(h:Gx C ops W N n df (Tl C Goal b ops k cs n (Tl C Goal b ops k cs (n+1) λa w=>Rn C Goal (b.atR a k) cs w)) 0 F [])(hz:ops.size=n+2:=by rfl)(TQ:C.P.follows .mixedOrders=true:=by kernel_rfl)(TD:fQ ops ((List.range n).map (dO ops)) ((zZ ((List.range n).map (dO ops)) F).map (·.1)) N=true:=by kernel_rfl):Rn C Goal (b.atR a (.code (.region id ops true)::k)) cs W:=by
 obtain⟨_,h⟩:=h;refine Ho J h (λm a w=>if m=n then Tl C Goal b ops k cs n (Tl C Goal b ops k cs (n+1) λa w=>Rn C Goal (b.atR a k) cs w) a w else if m=n+1 then Tl C Goal b ops k cs (n+1) (λa w=>Rn C Goal (b.atR a k) cs w) a w else Rn C Goal (b.atR a k) cs w) (λa w h=>by rwa [if_pos rfl]) (λm o a w rest hm ho h hgo=>?_) (λa w h=>by rwa [if_neg o_,if_neg o_]at h) TQ TD;have:=(Array.getElem?_eq_some_iff.1 ho).1;rcases(by omega:m=n\/m=n+1)with rfl|rfl
 .rw[if_pos rfl]at h;exact h rest λa w h=>hgo a w (by rwa [if_neg o_,if_pos rfl])
 .rw[if_neg o_,if_pos rfl]at h;exact h rest λa w h=>hgo a w (by rwa [if_neg o_,if_neg o_])
end
section
variable{C:iV}{W:World}{Q:Act->WP}{T:List LF}{M:List (Nat×WP)}{S:Value->WP}{xs:Array Operand}{ats:Array TypeId}{vs:List Value}
theorem wG{G:List (Nat×Value)}(h:∀d v,F.lookup d=some v->G.lookup d=some v){x:Nat}{u:Value}(d:Nat)(v:Value)(hd:((x,u)::F).lookup d=some v):((x,u)::G).lookup d=some v:=by
 rw[IN]at hd⊢;split at hd
 .exact hd
 .exact h d v hd
def Is(ops:Array Oper)(m:Nat)(d:Tmp)(p:Op)(gd:Option (Nat×Bool)):Prop:=(ops[m]?).map (λo=>(o.dst,o.op,o.guard))=some (some d,p,gd)
theorem Is.sg(h:Is ops m d p gd)(y:∀o a w,o.op=p->o.guard=gd->At ops W n m F M a w->yp C ops a o w λu w'=>S u w'/\Bw w w'):dO ops m=d/\Sp C ops W n m F M S:=by
 obtain⟨o,ho,e1,e2,e3⟩:=lz h;exact⟨by simp[dO,ho,e1],λo' a w YN hA=>by obtain rfl:=Option.some.inj (ho.symm.trans YN);exact y o a w e2 e3 hA⟩
theorem Is.sp(h:Is ops m d p gd)(hw:gV ops F gd=some true)(hk:sV ops (lA ops n m) gd=true)(y:∀o a w,o.op=p->At ops W n m F M a w->L6 C a o w λu w'=>S u w'/\Bw w w'):dO ops m=d/\Sp C ops W n m F M S:=
 h.sg λo a w h1 h2 z=>.inl ⟨Nn z.f h2 hw hk,y o a w h1 z⟩
theorem Is.inl(h:Is ops m d p gd)(hw:gV ops F gd=some true)(hk:sV ops (lA ops n m) gd=true)(y:∀o a w,o.op=p->At ops W n m F M a w->L6 C a o w λu w'=>u=v/\Bw w w')(t:Gw C ops W N n df Q T (m+1) ((d,v)::F) M):Gw C ops W N n df Q (.inl v::T) m F M:=
 let ⟨e,h⟩:=h.sp (S:=λu _=>u=v) hw hk y
 ⟨h,e▸t⟩
theorem kP(next:Gx C ops W N n df Q (m+1) ((d,undef)::F) M)(h:Is ops m d p gd:=by rfl)(hw:gV ops F gd=some false:=by rfl)(hk:sV ops (lA ops n m) gd=true:=by kernel_rfl):Gx C ops W N n df Q m F M:=
 let ⟨_,t⟩:=next
 let ⟨e,h⟩:=h.sg (C:=C) (W:=W) (S:=λu _=>u=undef) λ_ _ _ _ h2 z=>.inr ⟨Nn z.f h2 hw hk,rfl,Below.refl _ _⟩
 ⟨.inl undef::_,h,e▸t⟩
theorem Ec(next:Gw C ops W N n df Q T (m+1) ((d,v)::F) M)(h:Is ops m d p gd:=by rfl)(hw:gV ops F gd=some true:=by rfl)(TV:sV ops (lA ops n m) gd=true:=by kernel_rfl)(y:∀(o:Oper) (a:Act) (w:World),o.op=p->At ops W n m F M a w->(execOp a.eval o).run C.P w=.ok (.value v) w:=by intro o a w ho z;have hC:=z.b;exact Rr)(ok:∀(a:Act) (w:World),At ops W n m F M a w->kU C.P a.eval p:=by intro a w z;exact nR):Gw C ops W N n df Q (.inl v::T) m F M:=
 h.inl hw TV (λo a w ho hA=>.inl ⟨i3 (ho▸ok a w hA),λw1 hp=>⟨v,w1,y o a w1 ho (hA.up hp.below),rfl,hp.below⟩⟩) next
theorem aj(next:Gx C ops W N n df Q (m+1) ((d,v)::F) M)(h:Is ops m d p gd:=by rfl)(hw:gV ops F gd=some true:=by rfl)(TV:sV ops (lA ops n m) gd=true:=by kernel_rfl)(y:∀(o:Oper) (a:Act) (w:World),o.op=p->At ops W n m F M a w->(execOp a.eval o).run C.P w=.ok (.value v) w:=by intro o a w ho z;have hC:=z.b;exact Rr)(ok:∀(a:Act) (w:World),At ops W n m F M a w->kU C.P a.eval p:=by intro a w z;exact nR):Gx C ops W N n df Q m F M:=
 let ⟨_,t⟩:=next
 ⟨_,Ec t h hw TV y ok⟩
theorem QB{ok:Nat->Bool}(J:Hn F ok a):∀(xs:List Operand) (vs:List Value),xL F xs=some vs->xs.all (xl ok)=true->xs.map a.eval=vs
 |[],vs,h,_=>by cases h;rfl
 |x::r,vs,h,hk=>by
  simp only[List.all_cons,a27]at hk;unfold xL at h;split at h
  .rename_i v l h1 h2;cases h;rw[aa0,QB J r l h2 hk.2];cases x with
   |tmp t=>rw[aW (J t v h1 hk.1)]
   |const u=>rw[show Act.eval a (.const u)=u from rfl,Option.some.inj h1]
   |_=>cases h1
  .cases h
theorem LL(hf:C.P.funcs[f]?=some fn)(ha:xL F xs.toList=some vs)(hk:xs.toList.all (xl (lA ops n m))=true)(hn:(fn.name== "runtime.NumGoroutine")=false)(hb:fn.body.isNone=false)(hc:∀w,Bw W w→tj (lA ops n m) w M→Cl C f vs.toArray w λe w'=>∃v,e=.returned v∧S v w'∧Bw w w')(o:Oper)(a:Act)(w:World)(e:o.op=.call {callee:=.value (.func f),args:=xs,argTypes:=ats})(hA:At ops W n m F M a w):L6 C a o w λu w'=>S u w'∧Bw w w':=
 .inr ⟨f,_,nA e (show xs.map a.eval=vs.toArray by rw[←QB hA.f _ _ ha hk,←ae_,ad3]) hf hn hb rfl,hc w hA.b (hA.m w (gz _ _))⟩
theorem AM(hf:C.P.funcs[f]?=some fn)(hc:∀w,Bw W w->tj (lA ops n m) w M->Cl C f vs.toArray w λe w'=>e=.returned v/\Bw w w')(next:Gw C ops W N n df Q T (m+1) ((d,v)::F) M)
 (h:Is ops m d (.call {callee:=.value (.func f),args:=xs,argTypes:=ats}) gd:=by rfl) (hw:gV ops F gd=some true:=by rfl) (TV:sV ops (lA ops n m) gd=true:=by kernel_rfl) (ha:xL F xs.toList=some vs:=by rfl) (hk:xs.toList.all (xl (lA ops n m))=true:=by kernel_rfl) (hn:(fn.name== "runtime.NumGoroutine")=false:=by kernel_rfl) (hb:fn.body.isNone=false:=by kernel_rfl):Gw C ops W N n df Q (.inl v::T) m F M:=
 h.inl hw TV (LL (S:=λu _=>u=v) hf ha hk hn hb λw h1 h2=>(hc w h1 h2).mono λ_ _ h=>⟨v,h.1,rfl,h.2⟩) next
theorem cy(hf:C.P.funcs[f]?=some fn)(hc:∀w,Bw W w->tj (lA ops n m) w M->Cl C f vs.toArray w λe w'=>e=.returned v/\Bw w w')(next:Gx C ops W N n df Q (m+1) ((d,v)::F) M)
 (h:Is ops m d (.call {callee:=.value (.func f),args:=xs,argTypes:=ats}) gd:=by rfl) (hw:gV ops F gd=some true:=by rfl) (TV:sV ops (lA ops n m) gd=true:=by kernel_rfl) (ha:xL F xs.toList=some vs:=by rfl) (hk:xs.toList.all (xl (lA ops n m))=true:=by kernel_rfl) (hn:(fn.name== "runtime.NumGoroutine")=false:=by kernel_rfl) (hb:fn.body.isNone=false:=by kernel_rfl):Gx C ops W N n df Q m F M:=
 let ⟨_,t⟩:=next
 ⟨_,AM hf hc t h hw TV ha hk hn hb⟩
theorem Ed(st:Pu S)(hf:C.P.funcs[f]?=some fn)(hc:∀w,Bw W w->tj (lA ops n m) w M->Cl C f vs.toArray w λe w'=>∃v,e=.returned v/\S v w'/\Bw w w')(next:∀u,Gw C ops W N n df Q T (m+1) ((d,u)::F) ((d,S u)::M))
 (h:Is ops m d (.call {callee:=.value (.func f),args:=xs,argTypes:=ats}) gd:=by rfl) (hw:gV ops F gd=some true:=by rfl) (TV:sV ops (lA ops n m) gd=true:=by kernel_rfl) (ha:xL F xs.toList=some vs:=by rfl) (hk:xs.toList.all (xl (lA ops n m))=true:=by kernel_rfl) (hn:(fn.name== "runtime.NumGoroutine")=false:=by kernel_rfl) (hb:fn.body.isNone=false:=by kernel_rfl):Gw C ops W N n df Q (.inr S::T) m F M:=
 let ⟨e,h⟩:=h.sp hw TV (LL hf ha hk hn hb hc)
 ⟨st,h,e▸next⟩
theorem wi(st:Pu S)(next:∀u,Gw C ops W N n df Q T (m+1) ((d,u)::F) ((d,S u)::M))(h:Is ops m d p gd:=by rfl)(hw:gV ops F gd=some true:=by rfl)(TV:sV ops (lA ops n m) gd=true:=by kernel_rfl)(y:∀(o:Oper) (a:Act) (w:World),o.op=p->At ops W n m F M a w->∃u w',(execOp a.eval o).run C.P w=.ok (.value u) w'/\S u w'/\Bw w w')(ok:∀(a:Act) (w:World),At ops W n m F M a w->kU C.P a.eval p:=by intro a w z;exact nR):Gw C ops W N n df Q (.inr S::T) m F M:=
 let ⟨e,h⟩:=h.sp (S:=S) hw TV λo a w ho hA=>.inl ⟨i3 (ho▸ok a w hA),λw1 hp=>let ⟨u,w',q1,q2,q3⟩:=y o a w1 ho (hA.up hp.below);⟨u,w',q1,q2,ae hp.below hp.below.size q3⟩⟩
 ⟨st,h,e▸next⟩
theorem yn{V:Nat->Value}{ob:Obj}(next:∀u,Gw C ops W N n df Q T (m+1) ((d,u)::F) ((d,Ms W V ob u)::M))(h:Is ops m d p gd:=by rfl)(hw:gV ops F gd=some true:=by rfl)(TV:sV ops (lA ops n m) gd=true:=by kernel_rfl)(y:∀(o:Oper) (a:Act) (w:World),o.op=p->At ops W n m F M a w->(execOp a.eval o).run C.P w=.ok (.value (V w.heap.size)) (w.alloc ob))(ok:∀(a:Act) (w:World),At ops W n m F M a w->kU C.P a.eval p:=by intro a w z;exact nR):Gw C ops W N n df Q (.inr (Ms W V ob)::T) m F M:=
 wi Ms.st next h hw TV (λo a w ho hA=>⟨_,_,y o a w ho hA,⟨_,rfl,hA.b.size,aR w _⟩,aJ w _⟩) ok
theorem oE(h:∀a w,aB F N df a->Bw W w->tj (λ_=>true) w M->Q a w)(hm:m=n:=by rfl):Gw C ops W N n df Q [] m F M:=⟨hm,h⟩
theorem cc(h:∀a w,aB F N df a->Bw W w->tj (λ_=>true) w M->Q a w)(hm:m=n:=by rfl):Gx C ops W N n df Q m F M:=⟨[],hm,h⟩
theorem Gw.sub:∀{T:List LF} {m:Nat} {F G:List (Nat×Value)} {M:List (Nat×WP)},(∀d v,F.lookup d=some v->G.lookup d=some v)->Gw C ops W N n df Q T m F M->Gw C ops W N n df Q T m G M
 |[],_,_,_,_,h,g=>⟨g.1,λa w J=>g.2 a w (J.sub h)⟩
 | .inl _::_,_,_,_,_,h,g=>⟨λo a w ho z=>g.1 o a w ho ⟨λd v hd=>z.f d v (h d v hd),z.b,z.m⟩,Gw.sub (wG h) g.2⟩
 | .inr _::_,_,_,_,_,h,g=>⟨g.1,λo a w ho z=>g.2.1 o a w ho ⟨λd v hd=>z.f d v (h d v hd),z.b,z.m⟩,λu=>Gw.sub (wG h) (g.2.2 u)⟩
theorem wh{G:List (Nat×Value)}(h:xZ F G)(g:Gx C ops W N n df Q m F M):Gx C ops W N n df Q m G M:=
 let ⟨_,t⟩:=g
 ⟨_,t.sub h.get⟩
theorem oD(T:List LF){V:Nat->Value}{ob:Obj}(next:∀u,Gw C ops W N n df Q T (m+1) ((d,u)::F) ((d,Ms W V ob u)::M))(h:Is ops m d p gd:=by rfl)(hw:gV ops F gd=some true:=by rfl)(TV:sV ops (lA ops n m) gd=true:=by kernel_rfl)(y:∀(o:Oper) (a:Act) (w:World),o.op=p->At ops W n m F M a w->(execOp a.eval o).run C.P w=.ok (.value (V w.heap.size)) (w.alloc ob))(ok:∀(a:Act) (w:World),At ops W n m F M a w->kU C.P a.eval p:=by intro a w z;exact nR):Gx C ops W N n df Q m F M:=⟨_,yn next h hw TV y ok⟩
theorem Hy(T:List LF)(h:Gw C ops W N n df Q T m F M):Gx C ops W N n df Q m F M:=⟨T,h⟩
end

def vR(op:BinOp):Value->Value->Option Value
 | .int k a,.int k' b=>match op with
   | .shl=>if b<0 then none else some (.int k (k.wrap (a*2^min b.toNat k.bits)))
   | .shr=>if b<0 then none else some (.int k (a/2^min b.toNat k.bits))
   |_=>if k≠k' then none else match op with
    | .add=>some (.int k (k.wrap (a+b)))
    | .sub=>some (.int k (k.wrap (a- b)))
    | .mul=>some (.int k (k.wrap (a*b)))
    | .and=>some (.int k (bits .and k a b))
    | .or=>some (.int k (bits .or k a b))
    | .xor=>some (.int k (bits .xor k a b))
    | .andNot=>some (.int k (bits .andNot k a b))
    | .eql=>some (.bool (decide (a=b)))
    | .neq=>some (.bool (decide (a≠b)))
    | .lss=>some (.bool (decide (a<b)))
    | .leq=>some (.bool (decide (a<=b)))
    | .gtr=>some (.bool (decide (a>b)))
    | .geq=>some (.bool (decide (a≥b)))
    |_=>none
 |_,_=>none
section
variable{u:Value}
theorem dz{op:BinOp}{t s:TypeId}{vx:Value}(SS:o.op=.binOp op t x y s)(hx:ev x=vx)(hy:ev y=u)(h:vR op vx u=some v):(execOp ev o).run P w=.ok (.value v) w:=by
 cases vx<;>cases u<;>first|cases h|skip
 rename_i k a k' b;have hb:(binOp op t (.int k a) (.int k' b)).run P w=.ok v w:=by
  unfold vR at h;cases op<;>simp only at h<;>first|cases h|skip
  all_goals
   split at h
   .cases h
   .rename_i hn;cases h<;>first
    |(have e:k=k':=Classical.not_not.1 hn
      subst e;show(if k≠k then(stuck "BinOp: operands of different kinds" :Sem Value)else _).run P w=_;rw[if_neg s_]
      first|rfl|(by_cases q:a=b<;>simp[Op.intCmp,q];done))
    |(have hp:(0:Int)<=2^min b.toNat k.bits:=Int.pow_nonneg d_
      show(if b<0 then _ else _:Sem Value).run P w=_;rw[if_neg hn]
      first|rfl|(simp[Int.fdiv_eq_ediv_of_nonneg _ hp];done))
 have hg:(eqGuard op t x y (.int k a) (.int k' b)).run P w=.ok () w:=by cases op<;>rfl
 simp only[execOp,SS,hx,hy];show(((do eqGuard op t x y (.int k a) (.int k' b);binOp op t (.int k a) (.int k' b)):Sem Value)>>=λr=>pure (af3 r)).run P w=_;rw[a80,a80,hg];simp only[ao6,hb];rfl
theorem B0{t s:TypeId}{k k':IntKind}{a b:Int}(SS:o.op=.binOp .shl t x y s)(hx:ev x=.int k a)(hy:ev y=.int k' b)(h:0<=b):(execOp ev o).run P w=.ok (.value (.int k (k.wrap (a*2^min b.toNat k.bits)))) w:=dz SS hx hy (if_neg (av_.2 h))
theorem Ib{t s:TypeId}{k k':IntKind}{a b:Int}(SS:o.op=.binOp .shr t x y s)(hx:ev x=.int k a)(hy:ev y=.int k' b)(h:0<=b):(execOp ev o).run P w=.ok (.value (.int k (a/2^min b.toNat k.bits))) w:=dz SS hx hy (if_neg (av_.2 h))
theorem Bb{t:TypeId}{k:IntKind}{a:Int}(SS:o.op=.unOp .neg t x)(hx:ev x=.int k a):(execOp ev o).run P w=.ok (.value (.int k (k.wrap (0- a)))) w:=by
 simp only[execOp,SS,hx];rfl
theorem Ic{t:TypeId}{q:Bool}(SS:o.op=.unOp .not t x)(hx:ev x=.bool q):(execOp ev o).run P w=.ok (.value (.bool !q)) w:=by
 simp only[execOp,SS,hx];rfl
theorem EP{t:TypeId}{k:IntKind}{a:Int}(SS:o.op=.unOp .xor t x)(hx:ev x=.int k a):(execOp ev o).run P w=.ok (.value (.int k (bits .xor k (if k.signed then-1 else k.max) a))) w:=by
 simp only[execOp,SS,hx];rfl
theorem ry(k:IntKind){s d:TypeId}{k':IntKind}{a:Int}(SS:o.op=.convert s d x)(hx:ev x=.int k' a)(hd:P.underlying d=some (.int k))(hs:(P.underlying s).isSome=true):(execOp ev o).run P w=.ok (.value (.int k (k.wrap a))) w:=by
 obtain⟨r,hr⟩:=Option.isSome_iff_exists.1 hs;simp[execOp,SS,hx,convert,run_underlying hr,run_underlying hd,Conv.intToInt]
end

end Go.Proofs.YtkmoglhgkcnalaaGreatDoor
namespace Go.Proofs.YtkmoglhgkcnalaaGreatDoor
open Go.RowKit
theorem iC(z:Value)(n:Nat):madeCells #[z] n=(nB n z).toArray:=by
 apply aj_
 .simp[madeCells]
 .intro i h1 h2;simp[madeCells,Nat.mod_one]
theorem bG{o:Nat}{L:List Value}(h:Below B w w')(hb:b<B)(hr:w.rangeAt b o L):w'.rangeAt b o L:=λj v hv=>by
 rw[h.cell (p:=⟨b,o+j,none⟩) hb];exact hr j v hv

theorem qz(op:BinOp)(x y:Int):0<=bits op .u64 x y:=by
 unfold bits;simp only[a52];omega
def rE(x k:Int):Int:=
 bits .or .u32 (a13.wrap (x*2^min (bits .and .u64 (a07.wrap k) 31).toNat 32)) (x/2^min (a07.wrap (32- bits .and .u64 (a07.wrap k) 31)).toNat 32)
def jq(x a b c:Int):Int:=bits .xor .u32 (bits .xor .u32 (rE x (-a)) (rE x (-b))) (rE x (-c))
def gS(x a b c:Int):Int:=bits .xor .u32 (bits .xor .u32 (rE x (-a)) (rE x (-b))) (x/2^c.toNat)
def c_(l:List UInt8):Int:=l.foldl (λn b=>256*n+(b.toNat:Int)) 0
theorem m8(l:List UInt8)(b:UInt8):c_ (l++[b])=256*c_ l+(b.toNat:Int):=by
 simp[c_,List.foldl_append]
theorem xn(n:Nat):∀l:List UInt8,l.length=n->0<=c_ l/\c_ l<256^n:=by
 induction n with
 |zero=>intro l h;rw[List.length_eq_zero_iff]at h;subst h;simp[c_]
 |succ n ih=>
  intro l h;obtain⟨r,b,rfl⟩:∃r b,l=r++[b]:=⟨l.dropLast,l.getLast (by intro h0;simp[h0]at h),(List.dropLast_concat_getLast _).symm⟩;have:=ih r (by simp at h;omega);rw[m8];have hb:=b.toNat_lt;rw[Int.pow_succ];omega
theorem iB(l:List UInt8)(n:Nat)(h:l.length<=n):0<=c_ l/\c_ l<256^n:=by
 have h1:=xn _ l rfl;refine⟨h1.1,Int.lt_of_lt_of_le h1.2 ?_⟩;have h2:=Nat.pow_le_pow_right (n:=256) d_ h;have e1:=uW 256 l.length;have e2:=uW 256 n;rw[show((256:Nat):Int)=256 from rfl]at e1 e2;rw[←e1,←e2];exact Int.ofNat_le.2 h2
theorem FK(n:Int)(b:UInt8)(h0:0<=n)(h1:n<72057594037927936):bits .or .u64 (n*256) (a07.wrap (b.toNat:Int))=256*n+(b.toNat:Int):=by
 have hb:=b.toNat_lt;obtain⟨m,rfl⟩:=Int.eq_ofNat_of_zero_le h0;rw[a52,ai5 o_ o_];have e:((m:Int)*256)=((m*256:Nat):Int):=by omega
 rw[e,u64_or_nat _ _ o_ o_,nat_join 8 (m*256) b.toNat o_ o_];omega
def cz(n:Nat):Nat->List UInt8
 |0=>[]
 |k+1=>cz (n/256) k++[a57 n]
theorem bJ(k:Nat):∀n,(cz n k).length=k:=by
 induction k with
 |zero=>intro n;rfl
 |succ k ih=>intro n;simp[cz,ih]
theorem tX(j:Nat):∀n,cz n (j+1)=a57 (n/256^j)::cz n j:=by
 induction j with
 |zero=>intro n;simp[cz]
 |succ j ih=>
  intro n;rw[cz,ih (n/256),cz,ag0,←Nat.pow_succ',List.cons_append]
def bm(l:List UInt8):List Value:=l.map λb=>Value.int .u8 (b.toNat:Int)
theorem bZ(l:List UInt8):(bm l).length=l.length:=by simp[bm]
def Ev(n k m:Nat):List Value:=nB m (Value.int .u8 0)++bm (cz n (k- m))
theorem yN(n k m:Nat)(h:m<=k):(Ev n k m).length=k:=by simp[Ev,bZ,bJ];omega
theorem Ct(n k:Nat):Ev n k k=nB k (Value.int .u8 0):=by simp[Ev,cz,bm]
theorem HW(n k:Nat):Ev n k 0=bm (cz n k):=by simp[Ev]
theorem HV(n k p:Nat)(h:p<k)(v:Int)(hv:v=((n/256^(k-(p+1)))%256:Nat)):(Ev n k (p+1)).set p (Value.int .u8 v)=Ev n k p:=by
 subst hv;rw[Ev,Ev,show k- p=(k-(p+1))+1 from by omega,tX,List.replicate_succ',bm,bm,aa0,a39,a16 _ _ s_];simp
def aI(l:List Int):List Value:=l.map λx=>Value.int .u32 x
theorem aY(l:List Int):(aI l).length=l.length:=by simp[aI]
def ri(B:List UInt8)(i:Nat):Int:=a13.wrap (c_ ((B.drop (4*i)).take 4))
def nW(W:List Int)(i:Nat):Int:=
 a13.wrap (a13.wrap (a13.wrap (W.getD (i- 16) 0+gS (W.getD (i- 15) 0) 7 18 3)+W.getD (i- 7) 0)+gS (W.getD (i- 2) 0) 17 19 10)
theorem FN(W:List Int)(m:Nat):nW W (m+16)=a13.wrap (a13.wrap (a13.wrap (W.getD m 0+gS (W.getD (m+1) 0) 7 18 3)+W.getD (m+9) 0)+gS (W.getD (m+14) 0) 17 19 10):=by
 rw[nW,show m+16- 16=m from by omega,show m+16- 15=m+1 from by omega,show m+16- 7=m+9 from by omega,show m+16- 2=m+14 from by omega]
def bO(B:List UInt8):Nat->List Int
 |0=>[]
 |k+1=>bO B k++[if k<16 then ri B k else nW (bO B k) k]
theorem bP(B:List UInt8)(k:Nat):(bO B k).length=k:=by
 induction k with
 |zero=>rfl
 |succ k ih=>simp[bO,ih]
def bT(B:List UInt8)(k:Nat):List Int:=bO B k++nB (64- k) 0
theorem jF(B:List UInt8)(k:Nat)(h:k<=64):(bT B k).length=64:=by simp[bT,bP];omega
theorem rv(B:List UInt8)(k:Nat)(h:k<64)(v:Int)(hv:v=if k<16 then ri B k else nW (bO B k) k):(aI (bT B k)).set k (.int .u32 v)=aI (bT B (k+1)):=by
 subst hv;rw[bT,bT,show 64- k=(64-(k+1))+1 from by omega,List.replicate_succ,aI,aI,bO];rw[a37,a16 _ _ (by simp[bP])];simp[bP]
theorem kw(B:List UInt8)(k j:Nat)(h:j<k):(aI (bT B k))[j]?=some (.int .u32 ((bO B k).getD j 0)):=by
 rw[bT,aI,a37,List.getElem?_append_left (by simp[bP];omega)];simp[bP,h]
theorem pJ(B:List UInt8):bT B 64=bO B 64:=by simp[bT]
theorem jg(l:List Int):∀v∈aI l,v.oneCell'=true:=by
 intro v hv;simp only[aI,ad8]at hv;obtain⟨x,_,rfl⟩:=hv;rfl
theorem sM(l:List UInt8):∀v∈bm l,v.oneCell'=true:=by
 intro v hv;simp only[bm,ad8]at hv;obtain⟨x,_,rfl⟩:=hv;rfl

end Go.Proofs.YtkmoglhgkcnalaaGreatDoor
namespace Go.Proofs.YtkmoglhgkcnalaaGreatDoor
open Go Go.Conc Go.RowKit
structure Eb (w w':World) (g:Nat) (c:Array Value) (t:TypeId):Prop where
 os:w'.os=w.os
 tape:w'.tape=w.tape
 output:w'.output=w.output
 size:w'.heap.size=w.heap.size
 here:w'.heap[g]?=some (.cells c t)
 there:∀m,m≠g->w'.heap[m]?=w.heap[m]?
theorem Br{old c:Array Value}{t:TypeId}(h:w.heap[g]?=some (.cells old t)):Eb w (w.setRow g c) g c t:=
 ⟨rfl,rfl,rfl,by simp[ak3],setRow_heap w g old c t _ h,λm hm=>setRow_other w g m c hm⟩
theorem Eb.below{c:Array Value}{t:TypeId}(h:Eb w w' g c t)(hN:N<=g):Below N w w':=⟨h.os,h.tape,h.output,by rw[h.size];exact dv _,λk hk=>h.there k o_⟩
theorem Eb.keep{c:Array Value}{t:TypeId}{o:Obj}(h:Eb w w' g c t)(hm:w.heap[m]?=some o)(T2:m≠g):w'.heap[m]?=some o:=(h.there m T2).trans hm
section
variable{u:Value}{t e:TypeId}{c:Array Value}
theorem ET{s:TypeId}(SS:o.op=.binOp .add t x y s)(hx:ev x=.int .i64 (m:Int))(hy:ev y=.int .i64 (n:Int))(h:m+n<9223372036854775808):(execOp ev o).run P w=.ok (.value (.int .i64 ((m+n:Nat):Int))) w:=dz SS hx hy (by
 have e:ul.wrap ((m:Int)+n)=((m+n:Nat):Int):=by rw[vv];omega
 simp[vR,e])
theorem rx{s:TypeId}(SS:o.op=.binOp .sub t x y s)(hx:ev x=.int .i64 (m:Int))(hy:ev y=.int .i64 (n:Int))(h:n<=m/\m<9223372036854775808):(execOp ev o).run P w=.ok (.value (.int .i64 ((m- n:Nat):Int))) w:=dz SS hx hy (by
 have e:ul.wrap ((m:Int)- n)=((m- n:Nat):Int):=by rw[vv];omega
 simp[vR,e])
theorem wO{s:TypeId}(SS:o.op=.binOp .mul t x y s)(hx:ev x=.int .i64 (m:Int))(hy:ev y=.int .i64 (n:Int))(h:m*n<9223372036854775808):(execOp ev o).run P w=.ok (.value (.int .i64 ((m*n:Nat):Int))) w:=dz SS hx hy (by
 have e:ul.wrap ((m:Int)*n)=((m*n:Nat):Int):=by rw[vv,←a63];omega
 simp[vR,e])
theorem EU{s:TypeId}{a b:Int}(SS:o.op=.binOp .add t x y s)(hx:ev x=.int .i64 a)(hy:ev y=.int .i64 b)(h: -9223372036854775808<=a+b/\a+b<9223372036854775808):(execOp ev o).run P w=.ok (.value (.int .i64 (a+b))) w:=dz SS hx hy (by
 have e:ul.wrap (a+b)=a+b:=by rw[vv];omega
 simp[vR,e])
theorem EH{s:TypeId}{a b:Int}(SS:o.op=.binOp .sub t x y s)(hx:ev x=.int .i64 a)(hy:ev y=.int .i64 b)(h: -9223372036854775808<=a- b/\a- b<9223372036854775808):(execOp ev o).run P w=.ok (.value (.int .i64 (a- b))) w:=dz SS hx hy (by
 have e:ul.wrap (a- b)=a- b:=by rw[vv];omega
 simp[vR,e])
theorem ES{s:TypeId}(SS:o.op=.binOp .add t x y s)(hx:ev x=.int .u64 (m:Int))(hy:ev y=.int .u64 (n:Int))(h:m+n<18446744073709551616):(execOp ev o).run P w=.ok (.value (.int .u64 ((m+n:Nat):Int))) w:=dz SS hx hy (by
 have e:a07.wrap ((m:Int)+n)=((m+n:Nat):Int):=by rw[a52];omega
 simp[vR,e])
theorem EL{s:TypeId}(SS:o.op=.binOp .mul t x y s)(hx:ev x=.int .u64 (m:Int))(hy:ev y=.int .u64 (n:Int))(h:m*n<18446744073709551616):(execOp ev o).run P w=.ok (.value (.int .u64 ((m*n:Nat):Int))) w:=dz SS hx hy (by
 have e:a07.wrap ((m:Int)*n)=((m*n:Nat):Int):=by rw[a52,←a63];omega
 simp[vR,e])
theorem Bd{op:BinOp}{s:TypeId}{k:IntKind}{a b:Int}(SS:o.op=.binOp op t x y s)(hx:ev x=.int k a)(hy:ev y=.int k b)(h:b≠0)(ho:op=.rem\/op=.quo):(execOp ev o).run P w=.ok (.value (.int k (if op=.rem then a.tmod b else k.wrap (a.tdiv b)))) w:=by
 have hb:(binOp op t (.int k a) (.int k b)).run P w=.ok (.int k (if op=.rem then a.tmod b else k.wrap (a.tdiv b))) w:=by
  rcases ho with rfl|rfl<;>
  .show(if k≠k then(stuck "BinOp: operands of different kinds" :Sem Value)else ar8 _ k a b).run P w=_;rw[if_neg s_];unfold ar8;rw[if_neg h];rfl
 have hg:(eqGuard op t x y (.int k a) (.int k b)).run P w=.ok () w:=by rcases ho with rfl|rfl<;>rfl
 simp only[execOp,SS,hx,hy];show(((do eqGuard op t x y (.int k a) (.int k b);binOp op t (.int k a) (.int k b)):Sem Value)>>=λr=>pure (af3 r)).run P w=_;rw[a80,a80,hg];simp only[ao6,hb];rfl
theorem EI{s:TypeId}{k:IntKind}(SS:o.op=.binOp .rem t x y s)(hx:ev x=.int k (m:Int))(hy:ev y=.int k (n:Int))(h:0<n):(execOp ev o).run P w=.ok (.value (.int k ((m%n:Nat):Int))) w:=Bd SS hx hy o_ (.inl rfl)
theorem EJ{s:TypeId}(SS:o.op=.binOp .quo t x y s)(hx:ev x=.int .i64 (m:Int))(hy:ev y=.int .i64 (n:Int))(h:0<n)(h2:m<9223372036854775808):(execOp ev o).run P w=.ok (.value (.int .i64 ((m/n:Nat):Int))) w:=by
 rw[Bd SS hx hy o_ (.inr rfl),if_neg s_,show(m:Int).tdiv n=((m/n:Nat):Int)from rfl];have hq:=Nat.div_le_self m n;generalize m/n=q at hq;rw[show ul.wrap (q:Int)=q from by rw[vv];omega]
theorem Ii{s d:TypeId}{k':IntKind}(SS:o.op=.convert s d x)(hx:ev x=.int k' (n:Int))(hd:P.underlying d=some (.int .i64))(hs:(P.underlying s).isSome=true)(h:n<9223372036854775808):(execOp ev o).run P w=.ok (.value (.int .i64 (n:Int))) w:=by
 rw[ry .i64 SS hx hd hs,show ul.wrap (n:Int)=n from by rw[vv];omega]
theorem Ih{s d:TypeId}{k':IntKind}(SS:o.op=.convert s d x)(hx:ev x=.int k' (n:Int))(hd:P.underlying d=some (.int .u64))(hs:(P.underlying s).isSome=true)(h:n<18446744073709551616):(execOp ev o).run P w=.ok (.value (.int .u64 (n:Int))) w:=by
 rw[ry .u64 SS hx hd hs,show a07.wrap (n:Int)=n from by rw[a52];omega]
theorem EK{a:Int}(SS:o.op=.unOp .neg t x)(hx:ev x=.int .i64 a)(h: -9223372036854775808<a/\a<=9223372036854775808):(execOp ev o).run P w=.ok (.value (.int .i64 (-a))) w:=by
 rw[Bb SS hx,show ul.wrap (0- a)= -a from by rw[vv];omega]
theorem Ba{a:Addr}(SS:o.op=.nilCheck x)(hx:ev x=.pointer (some a)):(execOp ev o).run P w=.ok (.value (.pointer (some a))) w:=by
 simp only[execOp,SS,hx];rfl
theorem de{zz:Nat×Nat}(SS:o.op=.load t x)(hx:ev x=.pk g i)(hg:w.heap[g]?=some (.cells c e zz))(hv:c[i]?=some v)(ht:∀w:World,(isAgg t).run P w=.ok false w):(execOp ev o).run P w=.ok (.value v) w:=by
 have hc:w.cell? ⟨g,i,none⟩=some v:=by unfold uw;simp[hg,hv]
 simp[execOp,SS,hx,a04,loadVar,ht w,hc,go_sem]
theorem gW{zz:Nat×Nat}{d:TypeDesc}{vs:List Value}(SS:o.op=.load t x)(hx:ev x=.pk g i)(hg:w.heap[g]?=some (.cells c e zz))(hu:P.underlying t=some d)(hd:d.isRow=true)(hi:(P.info? t).map (·.size)=some vs.length)(hv:∀j u,vs[j]?=some u->c[i+j]?=some u):(execOp ev o).run P w=.ok (.value (.agg vs.toArray)) w:=by
 have h:=run_loadVar_mid (P:=P) w g i t vs d (λj u hj=>by unfold uw;simp[hg,hv j u hj]) hu hd hi;simp[execOp,SS,hx,a04,a5_,h]
theorem M4(SS:o.op=.store t x y)(hx:ev x=.pk g i)(hy:ev y=v)(hg:w.heap[g]?=some (.cells c e))(hi:i<c.size)(hs:(P.info? t).map (·.size)=some 1)(hc:v.cells=#[v])(h1:v.oneCell'=true):(execOp ev o).run P w=.ok .skip (w.setRow g (c.setIfInBounds i v)):=by
 have h:=run_storeCells_at P g i e [v] 0 c w hg (by simp;omega) (by simpa using h1);have e1:(c.toList.take (i+0)++[v]++c.toList.drop (i+0+1)).toArray=c.setIfInBounds i v:=by
  apply Array.ext';rw[ai0,List.set_eq_take_append_cons_drop];simp[hi]
 rw[show[v].length=1 from rfl,e1]at h;cases hq:P.info? t with
 |none=>simp[hq]at hs
 |some d=>
  have hd:d.size=1:=by simpa[hq]using hs
  simp[execOp,SS,hx,hy,ab2,a5_,storeVar,sizeOf,typeInfo,hq,hc,hd,h]
theorem I6{vs:Array Value}(SS:o.op=.store t x y)(hx:ev x=.pk g i)(hy:ev y=.agg vs)(hg:w.heap[g]?=some (.cells c e))(hi:i+vs.size<=c.size)(hs:(P.info? t).map (·.size)=some vs.size)(h1:∀v∈vs.toList,v.oneCell'=true):(execOp ev o).run P w=.ok .skip (w.setRow g (c.toList.take i++vs.toList++c.toList.drop (i+vs.size)).toArray):=by
 have h:=run_storeCells_at P g i e vs.toList 0 c w hg (by simpa using hi) h1;cases hq:P.info? t with
 |none=>simp[hq]at hs
 |some d=>
  have hd:vs.size=d.size:=by simp[hq]at hs;omega
  simp only[ao7,ml,a39,hd]at h⊢;simp[execOp,SS,hx,hy,ab2,a5_,storeVar,sizeOf,typeInfo,hq,Value.cells,hd,h]
def QA(P:Program)(t:TypeId)(i:Nat):Option Nat:=match P.underlying t with
 |some (.struct fs)=>(fs[i]?).bind λf=>match (P.info? f.type).map (·.size)with
  |some (_+1)=>match f.offset with
   |0=>some 0
   |k+1=>some (k+1)
  |_=>none
 |_=>none
theorem EQ(SS:o.op=.fieldAddr t x n)(hx:ev x=.pk g i)(hk:QA P t n=some k):(execOp ev o).run P w=.ok (.value (.pk g (i+k))) w:=by
 unfold QA at hk;split at hk
 .rename_i fs hu;cases hf:fs[n]? with
  |none=>rw[hf]at hk;cases hk
  |some f=>
   rw[hf]at hk;simp only[a51]at hk;split at hk
   .rename_i q hs
    replace hk:k=f.offset:=by split at hk<;>cases hk<;>simp[*]
    subst hk;cases hq:P.info? f.type with
    |none=>rw[hq]at hs;cases hs
    |some d=>
     have hd:d.size=q+1:=(by simpa[hq]using hs);simp[execOp,SS,hx,eq,a5_,run_underlying hu,hf,fieldPlace,sizeOf,typeInfo,hq,hd,gG]
   .cases hk
 .cases hk
theorem lS{k:IntKind}(SS:o.op=.indexAddr t x y)(hx:ev x=.slice (some ⟨g,i,none⟩) l cp)(hy:ev y=.int k (n:Int))(hu:P.underlying t=some (.slice e))(hs:(P.info? e).map (·.size)=some 1)(h:n<l):(execOp ev o).run P w=.ok (.value (.pk g (i+n))) w:=by
 cases hq:P.info? e with
 |none=>simp[hq]at hs
 |some d=>
  have hd:d.size=1:=by simpa[hq]using hs
  simp[execOp,SS,hx,hy,ae7,a5_,asIntOf,run_underlying hu,sizeOf,typeInfo,hq,hd,h,gG]
theorem Ig{k:IntKind}(SS:o.op=.indexAddr t x y)(hx:ev x=.pk g i)(hy:ev y=.int k (n:Int))(hu:P.underlying t=some (.array l e))(hs:(P.info? e).map (·.size)=some 1)(h:n<l):(execOp ev o).run P w=.ok (.value (.pk g (i+n))) w:=by
 cases hq:P.info? e with
 |none=>simp[hq]at hs
 |some d=>
  have hd:d.size=1:=by simpa[hq]using hs
  simp[execOp,SS,hx,hy,ae7,a5_,asIntOf,run_underlying hu,sizeOf,typeInfo,hq,hd,h,gG]
theorem EN(SS:o.op=.call {callee:=.builtin .len,args:=#[x],argTypes:=#[t]})(hx:ev x=.string s)(hu:P.underlying t=some .string):(execOp ev o).run P w=.ok (.value (.int .i64 (s.size:Int))) w:=by
 simp[execOp,SS,resolve,hx,invoke,builtin,ad7,run_underlying hu,goInt]
theorem EO{ad:Option Addr}(SS:o.op=.call {callee:=.builtin .len,args:=#[x],argTypes:=#[t]})(hx:ev x=.slice ad l cp)(hu:P.underlying t=some (.slice e)):(execOp ev o).run P w=.ok (.value (.int .i64 (l:Int))) w:=by
 simp[execOp,SS,resolve,hx,invoke,builtin,ad7,run_underlying hu,goInt]
theorem ky(SS:o.op=.slice t x (some y) (some z) none)(hx:ev x=.string s)(hy:ev y=.int .i64 (m:Int))(hz:ev z=.int .i64 (n:Int))(hu:P.underlying t=some .string)(h:m<=n)(h':n<=s.size):(execOp ev o).run P w=.ok (.value (.string (s.extract m n))) w:=by
 simp[execOp,SS,hx,hy,hz,a10,a53,a0_,run_underlying hu,a03,asIntOf,h,h']
theorem I9(SS:o.op=.slice t x (some y) none none)(hx:ev x=.string s)(hy:ev y=.int .i64 (m:Int))(hu:P.underlying t=some .string)(h:m<=s.size):(execOp ev o).run P w=.ok (.value (.string (s.extract m s.size))) w:=by
 simp[execOp,SS,hx,hy,a10,a53,a0_,run_underlying hu,a03,asIntOf,h]
theorem Ia(SS:o.op=.slice t x (some y) (some z) none)(hx:ev x=.pk g i)(hy:ev y=.int .i64 (m:Int))(hz:ev z=.int .i64 (n:Int))(hu:P.underlying t=some (.array l e))(hs:(P.info? e).map (·.size)=some 1)(h:m<=n)(h':n<=l)(h2:m<l):(execOp ev o).run P w=.ok (.value (.slice (some ⟨g,i+m,none⟩) (n- m) (l- m))) w:=by
 cases hq:P.info? e with
 |none=>simp[hq]at hs
 |some d=>
  have hd:d.size=1:=by simpa[hq]using hs
  have h3:¬l=m:=by omega
  simp[execOp,SS,hx,hy,hz,a10,a5_,a0_,run_underlying hu,a03,asIntOf,sizeOf,typeInfo,hq,hd,h,h',h3,gG]
theorem I8(SS:o.op=.slice t x (some y) none none)(hx:ev x=.pk g i)(hy:ev y=.int .i64 (m:Int))(hu:P.underlying t=some (.array l e))(hs:(P.info? e).map (·.size)=some 1)(h2:m<l):(execOp ev o).run P w=.ok (.value (.slice (some ⟨g,i+m,none⟩) (l- m) (l- m))) w:=by
 cases hq:P.info? e with
 |none=>simp[hq]at hs
 |some d=>
  have hd:d.size=1:=by simpa[hq]using hs
  have h3:¬l=m:=by omega
  have h4:m<=l:=by omega
  simp[execOp,SS,hx,hy,a10,a5_,a0_,run_underlying hu,a03,asIntOf,sizeOf,typeInfo,hq,hd,h3,h4,gG]
theorem Ie{k:IntKind}{vs:Array Value}(SS:o.op=.index t x y)(hx:ev x=.agg vs)(hy:ev y=.int k (n:Int))(hu:P.underlying t=some (.array l e))(hs:(P.info? e).map (·.size)=some 1)(ha:∀w:World,(isAgg e).run P w=.ok false w)(h:n<l)(hv:vs[n]?=some v):(execOp ev o).run P w=.ok (.value v) w:=by
 cases hq:P.info? e with
 |none=>simp[hq]at hs
 |some d=>
  have hd:d.size=1:=by simpa[hq]using hs
  simp[execOp,SS,hx,hy,af6,asIntOf,run_underlying hu,part,sizeOf,typeInfo,hq,hd,h,ha w,hv]
theorem eX{parts:Array (Nat×Operand)}{vs:Array (Nat×Value)}(v:Value)(SS:o.op=.build t parts)(hm:parts.map (λq=>(q.1,ev q.2))=vs)(hr:∀w:World,(uu t vs).run P w=.ok v w):(execOp ev o).run P w=.ok (.value v) w:=by
 simp only[execOp,SS];rw[show(parts.map λx=>match x with|(i,x)=>(i,ev x))=vs from hm,a80,hr];rfl
theorem rz{k:IntKind}(SS:o.op=.index t x y)(hx:ev x=.string s)(hy:ev y=.int k (n:Int))(hu:P.underlying t=some .string)(h:n<s.size):(execOp ev o).run P w=.ok (.value (.int .u8 (s[n].toNat:Int))) w:=by
 simp[execOp,SS,hx,hy,af6,asIntOf,run_underlying hu,h]
theorem ER{s:TypeId}{p q:ByteArray}(SS:o.op=.binOp .add t x y s)(hx:ev x=.string p)(hy:ev y=.string q)(h:p.size+q.size<=9223372036854775807):(execOp ev o).run P w=.ok (.value (.string (p++q))) w:=by
 simp[execOp,SS,hx,hy,h,go_sem]
theorem EM{z:Value}{bytes:Nat}(SS:o.op=.makeSlice t x y)(hx:ev x=.int .i64 (n:Int))(hy:ev y=.int .i64 (n:Int))(hu:P.underlying t=some (.slice e))(hi:(P.info? e).map (λi=>(i.zero,i.size,i.bytes))=some (some z,1,bytes))(hz:z.cells=#[z])(hb:bytes*n<=281474976710656)(Ys:n<=9223372036854775807):
 (execOp ev o).run P w=.ok (.value (.sk w.heap.size n n)) (w.alloc (.cells (nB n z).toArray e)):=by
 have h:=run_make_row' (P:=P) t e z bytes hu hi hz .i64 .i64 n hb Ys w;rw[iC]at h;simp[execOp,SS,hx,hy,h]
theorem M6{z:Value}(SS:o.op=.alloc t)(hi:(P.info? t).map (·.zero)=some (some z)):(execOp ev o).run P w=.ok (.value (.pk w.heap.size 0)) (w.alloc (.cells z.cells t)):=by
 cases hq:P.info? t with
 |none=>simp[hq]at hi
 |some i=>
  have hz:i.zero=some z:=by simpa[hq]using hi
  simp[execOp,SS,a06,newVar,newRow,zeroValue,typeInfo,hq,hz,go_sem]
theorem jR{l:List UInt8}{len:Nat}(SS:o.op=.convert t n x)(hx:ev x=.slice (some ⟨g,i,none⟩) len cp)(hl:l.length=len)(hu:P.underlying t=some (.slice e))(he:P.underlying e=some (.int .u8))(hd:P.underlying n=some .string)(hg:w.heap[g]?=some (.cells c m))(hc:∀j (hj:j<l.length),c[i+j]?=some (.int .u8 (l[j].toNat:Int))):(execOp ev o).run P w=.ok (.value (.string ⟨l.toArray⟩)) w:=by
 subst hl;have h:=run_convert_bytes_back (P:=P) w t n e ⟨g,i,none⟩ cp l hu he hd λj hj=>by
  rw[gG];unfold uw;simp[hg,hc j hj]
 simp[execOp,SS,hx,h]
end
theorem oJ{t e t2 u:TypeId}{len:Nat}{c:Array Value}(SS:o.op=.call {callee:=.builtin .copy,args:=#[x,y],argTypes:=#[t,t2]})(hx:ev x=.slice (some ⟨g,i,none⟩) len cp)(hy:ev y=.string s)(hu:P.underlying t=some (.slice e))(hs:(P.info? e).isSome=true)(hg:w.heap[g]?=some (.cells c u))(hn:Nat.min s.size len=n)(hfit:i+n<=c.size):
 (execOp ev o).run P w=.ok (.value (.int .i64 (n:Int))) (w.setRow g (c.toList.take i++bm (s.data.toList.take n)++c.toList.drop (i+n)).toArray):=by
 have hle:n<=s.size:=by rw[←hn];exact Nat.min_le_left _ _
 have hl:(bm (s.data.toList.take n)).length=n:=by rw[bZ,List.length_take,ml];exact Nat.min_eq_left hle
 have Tg:=run_storeCells_at P g i u (bm (s.data.toList.take n)) 0 c w hg (by rw[hl];simpa using hfit) (sM _);rw[hl]at Tg;simp only[ao7]at Tg;have hc:(s.data.toList.take n).map (λb:UInt8=>Value.int .u8 (b.toNat:Int))=bm (s.data.toList.take n):=rfl;cases hq:P.info? e with
 |none=>simp[hq]at hs
 |some d=>
  rw[List.map_take]at hc;simp[execOp,SS,resolve,hx,hy,invoke,builtin,ab3,run_underlying hu,ah_,hn,sizeOf,typeInfo,hq,ac4];rw[hc,Tg];simp[goInt,Result.andThen]
structure qY (b:Nat) (w w':World):Prop where
 os:w'.os=w.os
 tape:w'.tape=w.tape
 output:w'.output=w.output
 size:w.heap.size<=w'.heap.size
 block:∀k,k<w.heap.size->k≠b->w'.heap[k]?=w.heap[k]?
theorem Eb.but{c:Array Value}{t:TypeId}(h:Eb w w' g c t):qY g w w':=⟨h.os,h.tape,h.output,by rw[h.size];exact dv _,λk _ hk=>h.there k hk⟩
theorem mh(h:Bw w w'):qY b w w':=⟨h.os,h.tape,h.output,h.size,λk hk _=>h.block k hk⟩
theorem qY.trans(h:qY b w w')(h':qY b w' Tm):qY b w Tm:=⟨h'.os.trans h.os,h'.tape.trans h.tape,h'.output.trans h.output,a05 h.size h'.size,λk hk hb=>(h'.block k (fi hk h.size) hb).trans (h.block k hk hb)⟩
theorem qY.below(h:qY b w w')(h1:N<=b)(h2:N<=w.heap.size):Below N w w':=⟨h.os,h.tape,h.output,h.size,λk hk=>h.block k o_ o_⟩
theorem qY.keep{o:Obj}(h:qY b w w')(hm:w.heap[m]?=some o)(T2:m≠b):w'.heap[m]?=some o:=(h.block m (ap.1 hm).1 T2).trans hm
def Ry(P:Program)(ev:Operand->Value)(o:Oper)(w:World)(g:Nat)(c:Array Value)(t:TypeId)(c':Array Value):Prop:=w.heap[g]?=some (.cells c t)/\(execOp ev o).run P w=.ok .skip (w.setRow g c')
section
variable{t e:TypeId}{c:Array Value}
theorem pE(SS:o.op=.store t x y)(hx:ev x=.pk g i)(hy:ev y=v)(hg:w.heap[g]?=some (.cells c e))(hi:i<c.size)(hs:(P.info? t).map (·.size)=some 1)(hc:v.cells=#[v])(h1:v.oneCell'=true):Ry P ev o w g c e (c.setIfInBounds i v):=⟨hg,M4 SS hx hy hg hi hs hc h1⟩
theorem M0{vs:Array Value}(SS:o.op=.store t x y)(hx:ev x=.pk g i)(hy:ev y=.agg vs)(hg:w.heap[g]?=some (.cells c e))(hi:i+vs.size<=c.size)(hs:(P.info? t).map (·.size)=some vs.size)(h1:∀v∈vs.toList,v.oneCell'=true):Ry P ev o w g c e (c.toList.take i++vs.toList++c.toList.drop (i+vs.size)).toArray:=⟨hg,I6 SS hx hy hg hi hs h1⟩
theorem eP{vs:Array Value}(SS:o.op=.store t x y)(hx:ev x=.pk g 0)(hy:ev y=.agg vs)(hg:w.heap[g]?=some (.cells c e))(hs:(P.info? t).map (·.size)=some vs.size)(hi:c.size=vs.size)(h1:∀v∈vs.toList,v.oneCell'=true):Ry P ev o w g c e vs:=⟨hg,aQ SS hx hy hg hs hi (Array.all_eq_true_iff_forall_mem.2 λv hv=>h1 v (by simpa using hv))⟩
end
def Pb(P:Program)(ev:Operand->Value)(o:Oper)(V:Nat->Value)(ob:Obj):Prop:=∀w:World,(execOp ev o).run P w=.ok (.value (V w.heap.size)) (w.alloc ob)
section
variable{z:Value}{t e:TypeId}
theorem Q7{bytes:Nat}(SS:o.op=.makeSlice t x y)(hx:ev x=.int .i64 (n:Int))(hy:ev y=.int .i64 (n:Int))(hu:P.underlying t=some (.slice e))(hi:(P.info? e).map (λi=>(i.zero,i.size,i.bytes))=some (some z,1,bytes))(hz:z.cells=#[z])(hb:Nat.ble bytes 16=true)(Ys:n<=17592186044416):
 Pb P ev o (λb=>.sk b n n) (.cells (nB n z).toArray e):=λ_=>EM SS hx hy hu hi hz (a05 (Nat.mul_le_mul (Nat.le_of_ble_eq_true hb) Ys) d_) o_
theorem Q9(SS:o.op=.alloc t)(hi:(P.info? t).map (·.zero)=some (some z)):Pb P ev o (λb=>.pk b 0) (.cells z.cells t):=λ_=>M6 SS hi
theorem zx(SS:o.op=.box t x)(hx:ev x=v):Pb P ev o (λb=>.pk b 0) (.cells v.cells t):=λ_=>by rw[uP SS,hx]
end
def Rv(F:List (Nat×Value)):List (Nat×Operand)->Option (List (Nat×Value))
 |[]=>some []
 |q::r=>match RY F q.2,Rv F r with
  |some v,some l=>some ((q.1,v)::l)
  |_,_=>none
theorem GE(J:aB F N ds a):∀(xs:List (Nat×Operand)) (vs:List (Nat×Value)),Rv F xs=some vs->xs.map (λq=>(q.1,a.eval q.2))=vs
 |[],vs,h=>by cases h;rfl
 |x::r,vs,h=>by
  unfold Rv at h;split at h
  .rename_i v l h1 h2;cases h;rw[aa0,GF J h1,GE J r l h2]
  .cases h
theorem i4(J:aB F N ds a){xs:Array (Nat×Operand)}{vs:List (Nat×Value)}(h:Rv F xs.toList=some vs):xs.map (λq=>(q.1,a.eval q.2))=vs.toArray:=by
 rw[←GE J _ _ h,←ae_,ad3]
theorem aB.O{G:List (Nat×Value)}(h:aB F N ds a)(e:xZ G F:=by repeat' first|exact rfl|exact trivial|constructor):aB G N ds a:=h.only e
theorem cq{p:Prop}(h:p:=by first|(simp;omega)|(simp;assumption)|(simp_all;done)):p:=h
section
variable{C:iV}{b:Frame}{k:List Item}{c c':Array Value}{t:TypeId}
theorem cZ(J:aB F N ds a)(next:∀w' a',Eb w w' g c' t->aB F N ds a'->Rn C Goal (b.atR a' (.inRegion ops rest::k')) cs w')(h0:fa 6 (b.atR a k)=.inRegion ops (m::rest)::k':=by rfl)
 (h:(ops[m]?).map (λo=>(o.dst,o.op,o.guard))=some (none,p,none):=by rfl) (hy:∀o:Oper,o.op=p->Ry C.P a.eval o w g c t c':=by intro o ho;exact SJ) (T5:nd p=true:=by rfl) (ok:kU C.P a.eval p:=by exact nR):Rn C Goal (b.atR a k) cs w:=by
 obtain⟨o,ho,e1,e2,e3⟩:=kS h;exact aP J (λo ho=>(hy o ho).2) (λa' J=>next _ a' (Br (hy o e2).1) J) h0 h T5 ok (λ_=>by simp[World.setRow]) rfl
theorem Hh(J:aB F N ds a)(hg:w.heap[g]?=some (.cells c t))(next:∀w' a',Eb w w' g c' t->aB ((d,v)::F) N ds a'->Rn C Goal (b.atR a' (.inRegion ops rest::k')) cs w')(h0:fa 6 (b.atR a k)=.inRegion ops (m::rest)::k':=by rfl)
 (h:(ops[m]?).map (λo=>(o.dst,o.op,o.guard))=some (some d,p,gd):=by rfl) (hy:∀o:Oper,o.op=p->(execOp a.eval o).run C.P w=.ok (.value v) (w.setRow g c')) (hw:gV ops F gd=some true:=by rfl) (hd:d<N:=by decide) (T5:nd p=true:=by rfl) (ok:kU C.P a.eval p:=by exact nR):Rn C Goal (b.atR a k) cs w:=
 ai J hy (λa' J=>next _ a' (Br hg) J) h0 h hw hd T5 ok (λ_=>by simp[World.setRow]) rfl
theorem dA{V:Nat->Value}{ob:Obj}(J:aB F N ds a)
 (next:∀n w' a',w.heap.size<=n->Bw w w'->w'.heap[n]?=some ob->n<w'.heap.size->aB ((d,V n)::F) N ds a'->Rn C Goal (b.atR a' (.inRegion ops rest::k')) cs w') (h0:fa 6 (b.atR a k)=.inRegion ops (m::rest)::k':=by rfl)
 (h:(ops[m]?).map (λo=>(o.dst,o.op,o.guard))=some (some d,p,gd):=by rfl) (hy:∀o:Oper,o.op=p->Pb C.P a.eval o V ob:=by intro o ho;exact SK) (hw:gV ops F gd=some true:=by rfl) (hd:d<N:=by decide) (T5:nd p=true:=by rfl) (ok:kU C.P a.eval p:=by exact nR):Rn C Goal (b.atR a k) cs w:=
 QX J (λo w ho=>hy o ho w) next h0 h hw hd T5 ok
theorem Cl.bel(h:Cl C f args w λe w'=>e=.returned v/\w'=w):Cl C f args w λe w'=>e=.returned v/\Bw w w':=h.mono λ_ _ ⟨h,e⟩=>⟨h,e▸gz _ _⟩
theorem fE{xs:Array Operand}{ats:Array TypeId}{vs:List Value}(J:aB F N ds a)(hf:C.P.funcs[f]?=some fn)(hC:Cl C f vs.toArray w λe w'=>e=.returned v/\w'=w)
 (next:∀a',aB ((d,v)::F) N ds a'->Rn C Goal (b.atR a' (.inRegion ops rest::k')) cs w) (h0:fa 6 (b.atR a k)=.inRegion ops (m::rest)::k':=by rfl)
 (h:(ops[m]?).map (λo=>(o.dst,o.op,o.guard))=some (some d,.call {callee:=.value (.func f),args:=xs,argTypes:=ats},gd):=by rfl) (ha:xL F xs.toList=some vs:=by rfl) (hd:d<N:=by decide) (Tc:(fn.name== "runtime.NumGoroutine")=false:=by kernel_rfl) (hb:fn.body.isNone=false:=by kernel_rfl) (hw:gV ops F gd=some true:=by rfl):Rn C Goal (b.atR a k) cs w:=
 bp (R:=λu w'=>u=v/\w'=w) J hf (hC.mono λe w' ⟨h1,h2⟩=>⟨v,h1,rfl,h2⟩) (λu w' ⟨e,ew⟩ a' J=>by subst e ew;exact next a' J) h0 h ha hd Tc hb hw
theorem ig{xs:Array Operand}{ats:Array TypeId}{vs:List Value}(J:aB F N ds a)(hf:C.P.funcs[f]?=some fn)(hC:Cl C f vs.toArray w λe w'=>e=.returned v/\Bw w w')
 (next:∀w' a',Bw w w'->aB ((d,v)::F) N ds a'->Rn C Goal (b.atR a' (.inRegion ops rest::k')) cs w') (h0:fa 6 (b.atR a k)=.inRegion ops (m::rest)::k':=by rfl)
 (h:(ops[m]?).map (λo=>(o.dst,o.op,o.guard))=some (some d,.call {callee:=.value (.func f),args:=xs,argTypes:=ats},gd):=by rfl) (ha:xL F xs.toList=some vs:=by rfl) (hd:d<N:=by decide) (Tc:(fn.name== "runtime.NumGoroutine")=false:=by kernel_rfl) (hb:fn.body.isNone=false:=by kernel_rfl) (hw:gV ops F gd=some true:=by rfl):Rn C Goal (b.atR a k) cs w:=
 bp (R:=λu w'=>u=v/\Bw w w') J hf (hC.mono λe w' ⟨h1,h2⟩=>⟨v,h1,rfl,h2⟩) (λu w' ⟨e,ew⟩ a' J=>by subst e;exact next w' a' ew J) h0 h ha hd Tc hb hw
theorem mg{c:Code}{L:List Value}{R:Ending->World->Prop}(hf:C.P.funcs[f]?=some fn)(hb:fn.body=some c)(h:∀cs a,aB (eJ 0 L) N [] a->Rn C (λg w'=>∃(a:Act) (k:List Item),g=dj {(base f).atR a k with mode:=.returning} cs/\a.defers=[]/\R (.returned (.tuple #[])) w') ((base f).atR a [.code c]) cs w)(hN:fn.ntmps=N:=by rfl)(hL:L.length<=N:=by exact Nat.le_of_ble_eq_true rfl)(TB:fn.results=#[]:=by rfl):Cl C f L.toArray w R:=
 fB hf λcs L' hG=>bv hf hb (h cs) hN hL L' λfr cs' w' ⟨a,k,e,h1,h2⟩=>hG _ _ _ ⟨a,k,.tuple #[],e,h1,by simp[results,TB],h2⟩
theorem uv{R:World->Prop}(J:aB F N [] a)(hR:R w)(h0:fa 6 ((base f).atR a k)=[]:=by rfl):
 Rn C (λg w'=>∃(a:Act) (k:List Item),g=dj {(base f).atR a k with mode:=.returning} cs/\a.defers=[]/\R w') ((base f).atR a k) cs w:=
 dn 6 k (by rw[h0];exact aS rfl (.inl rfl) (bj ⟨a,_,rfl,J.defers,hR⟩))
theorem mf{c:Code}{L:List Value}{t u:Tmp}{R:Ending->World->Prop}(hf:C.P.funcs[f]?=some fn)(hb:fn.body=some c)(h:∀cs a,aB (eJ 0 L) N [] a->Rn C (λg w'=>∃(a:Act) (k:List Item) (v x:Value),g=dj {(base f).atR a k with mode:=.returning} cs/\a.defers=[]/\a.tmps[t]?=some v/\a.tmps[u]?=some x/\R (.returned (.tuple #[v,x])) w') ((base f).atR a [.code c]) cs w)(hN:fn.ntmps=N:=by rfl)(hL:L.length<=N:=by exact Nat.le_of_ble_eq_true rfl)(TB:fn.results=#[.tmp t,.tmp u]:=by rfl):Cl C f L.toArray w R:=
 fB hf λcs L' hG=>bv hf hb (h cs) hN hL L' λfr cs' w' ⟨a,k,v,x,e,h1,h2,h3,h4⟩=>hG _ _ _ ⟨a,k,.tuple #[v,x],e,h1,by simp[results,TB,h2,h3],h4⟩
theorem Ca{u:Tmp}{bk:Nat}{cells:Array Value}{R:Array Value->World->Prop}(J:aB F N [] a)(hb:w.heap[bk]?=some (.cells cells tt))(hn:cells.size=n)(hR:R cells w)(hv:F.lookup u=some (.pk bk 0):=by rfl)(h0:fa 6 ((base f).atR a k)=.code .ret::k':=by rfl):
 Rn C (λg w'=>∃(a:Act) (k:List Item) (bk:Nat) (cells:Array Value) (tt:TypeId),g=dj {(base f).atR a k with mode:=.returning} cs/\a.defers=[]/\a.tmps[u]?=some (.pk bk 0)/\w'.heap[bk]?=some (.cells cells tt)/\cells.size=n/\R cells w') ((base f).atR a k) cs w:=
 dn 6 k (by rw[h0];exact aS rfl (.inr ⟨_,rfl⟩) (bj ⟨a,_,_,_,_,rfl,J.defers,J.slot u _ hv,hb,hn,hR⟩))
def yU:Nat->Frame->List Item
 |0,fr=>fr.todo
 |n+1,fr=>match fr.todo with
  | .code (.cond _ _ _)::_=>fr.todo
  |_=>match fM fr with
   |some t=>yU n {fr with todo:=t}
   |none=>fr.todo
def EV:Nat->Frame->List Item
 |0,fr=>fr.todo
 |n+1,fr=>match fr.todo with
  | .code (.loop B)::k=>.code B:: .inLoop B::k
  | .inLoop B::k=>.code B:: .inLoop B::k
  |_=>match fM fr with
   |some t=>EV n {fr with todo:=t}
   |none=>fr.todo
theorem jj:∀(n:Nat) (k:List Item),Rn C Goal (b.atR a (yU n (b.atR a k))) cs w->Rn C Goal (b.atR a k) cs w
 |0,_,h=>h
 |n+1,k,h=>by
  unfold yU at h;split at h
  .exact h
  .split at h
   .rename_i t ht;exact a9 ht (jj n t h)
   .exact h
theorem sQ:∀(n:Nat) (k:List Item),Rn C Goal (b.atR a (EV n (b.atR a k))) cs w->Rn C Goal (b.atR a k) cs w
 |0,_,h=>h
 |n+1,k,h=>by
  unfold EV at h;split at h
  .rename_i B k' e;rw[show k=.code (.loop B)::k' from e];exact a9 rfl h
  .rename_i B k' e;rw[show k=.inLoop B::k' from e];exact a9 rfl h
  .split at h
   .rename_i t ht;exact a9 ht (sQ n t h)
   .exact h
theorem aD{A B:Code}{r:Bool}(q:Bool)(J:aB F N ds a)(next:Rn C Goal (b.atR a (.code (if q then A else B)::k')) cs w)(h0:yU 8 (b.atR a k)=.code (.cond (.tmp d) A B)::k':=by rfl)(hx:F.lookup d=some (.bool r):=by rfl)(hq:r=q:=by exact cq):Rn C Goal (b.atR a k) cs w:=
 jj 8 k (by rw[h0];exact ak q (hq▸J.get hx) next)
theorem qe{id:Nat}(J:aB F N ds a)(h:Gx C ops w N ops.size ds (λa w=>Rn C Goal (b.atR a k') cs w) 0 F [])(h0:yU 8 (b.atR a k)=.code (.region id ops true)::k':=by rfl)(TQ:C.P.follows .mixedOrders=true:=by kernel_rfl)(TD:fQ ops ((List.range ops.size).map (dO ops)) ((zZ ((List.range ops.size).map (dO ops)) F).map (·.1)) N=true:=by kernel_rfl):Rn C Goal (b.atR a k) cs w:=
 jj 8 k (by rw[h0];exact cC J h TQ TD)
theorem ut{id:Nat}(n:Nat)(J:aB F N ds a)(h:Gx C ops w N n ds (Tl C Goal b ops k' cs n λa w=>Rn C Goal (b.atR a k') cs w) 0 F [])(h0:yU 8 (b.atR a k)=.code (.region id ops true)::k':=by rfl)(hz:ops.size=n+1:=by rfl)(TQ:C.P.follows .mixedOrders=true:=by kernel_rfl)(TD:fQ ops ((List.range n).map (dO ops)) ((zZ ((List.range n).map (dO ops)) F).map (·.1)) N=true:=by kernel_rfl):Rn C Goal (b.atR a k) cs w:=
 jj 8 k (by rw[h0];exact ie n J h hz TQ TD)
theorem gQ{σ:Type}(I:σ->Act->World->Prop)(ms:σ->Nat)(s:σ)(hI:I s a w)(step:∀s a w,I s a w->(∀s' a' w',I s' a' w'->ms s'<ms s->Rn C Goal (b.atR a' K) cs w')->Rn C Goal (b.atR a K) cs w)(hK:EV 12 (b.atR a k)=K:=by rfl):Rn C Goal (b.atR a k) cs w:=by
 have H:∀n s a w,ms s<n->I s a w->Rn C Goal (b.atR a K) cs w:=by
  intro n;induction n with
  |zero=>intro s a w h;omega
  |succ n ih=>intro s a w h hI;exact step s a w hI λs' a' w' hI' hs=>ih s' a' w' o_ hI'
 exact sQ 12 k (by rw[hK];exact H _ s a w (Nat.lt_succ_self _) hI)
theorem gA(ih:Rn C Goal (b.atR a K) cs w)(hK:EV 12 (b.atR a k)=K:=by rfl):Rn C Goal (b.atR a k) cs w:=sQ 12 k (by rw[hK];exact ih)
end

theorem aA{o:Obj}(h:w.heap[b]?=some o):b<w.heap.size:=(ap.1 h).1
section
variable{C:iV}{b:Frame}{k:List Item}
theorem gm(J:aB F N ds a)(d:Tmp)(p:Op)(hd:d<N)(h:(ops[m]?).map (λo=>(o.dst,o.op,o.guard))=some (some d,p,none))(T5:∀c,p≠ .defer c)(hy:∀o:Oper,o.op=p->(execOp a.eval o).run C.P w=.ok (.value v) w')
 (next:∀a',aB ((d,v)::F) N ds a'->Rn C Goal (b.atR a' (.inRegion ops rest::k)) cs w') (ok:kU C.P a.eval p:=by exact nR) (hz:C.pad=true->w'.heap.size=w.heap.size:=by exact PH) (hq:w'.drawn=w.drawn:=by rfl):Rn C Goal (b.atR a (.inRegion ops (m::rest)::k)) cs w:=by
 obtain⟨o,ho,e1,e2,e3⟩:=kS h;refine pn ho (e3 _) (λc=>by rw[e2];exact T5 c) ⟨hy o e2,i3 (e2▸ok),hz,hq⟩ ?_;rw[e1];exact next _ (J.put hd v)
theorem qc(J:aB F N ds a)(d x:Nat)(hd:d<N)(hx:F.lookup x=some v)(h:(ops[m]?).map (λo=>(o.dst,o.op,o.guard))=some (some d,.move (.tmp x),none))
 (next:∀a',aB ((d,v)::F) N ds a'->Rn C Goal (b.atR a' (.inRegion ops rest::k)) cs w):Rn C Goal (b.atR a (.inRegion ops (m::rest)::k)) cs w:=
 gm J d (.move (.tmp x)) hd h s_ (λo ho=>by rw[cg (.inl ho),J.get hx]) next trivial
theorem sS(J:aB F N ds a)(d x:Nat)(hd:d<N)(hx:F.lookup x=some v)(h:(ops[m]?).map (λo=>(o.dst,o.op,o.guard))=some (some d,.assign (.tmp x),none))
 (next:∀a',aB ((d,v)::F) N ds a'->Rn C Goal (b.atR a' (.inRegion ops rest::k)) cs w):Rn C Goal (b.atR a (.inRegion ops (m::rest)::k)) cs w:=
 gm J d (.assign (.tmp x)) hd h s_ (λo ho=>by rw[cg (.inr ho),J.get hx]) next trivial
theorem v_(J:aB F N ds a)(d:Nat)(v:Value)(hd:d<N)(h:(ops[m]?).map (λo=>(o.dst,o.op,o.guard))=some (some d,.assign (.const v),none))
 (next:∀a',aB ((d,v)::F) N ds a'->Rn C Goal (b.atR a' (.inRegion ops rest::k)) cs w):Rn C Goal (b.atR a (.inRegion ops (m::rest)::k)) cs w:=
 gm J d (.assign (.const v)) hd h s_ (λo ho=>by rw[cg (.inr ho)];rfl) next trivial
theorem P5(J:aB F N ds a)(d:Nat)(v:Value)(hd:d<N)(h:(ops[m]?).map (λo=>(o.dst,o.op,o.guard))=some (some d,.move (.const v),none))
 (next:∀a',aB ((d,v)::F) N ds a'->Rn C Goal (b.atR a' (.inRegion ops rest::k)) cs w):Rn C Goal (b.atR a (.inRegion ops (m::rest)::k)) cs w:=
 gm J d (.move (.const v)) hd h s_ (λo ho=>by rw[cg (.inl ho)];rfl) next trivial
theorem gy(J:aB F N ds a)(d x:Nat)(t:TypeId)(hd:d<N)(hx:F.lookup x=some v)(h:(ops[m]?).map (λo=>(o.dst,o.op,o.guard))=some (some d,.box t (.tmp x),none))
 (next:∀a',aB ((d,.pk w.heap.size 0)::F) N ds a'->Rn C Goal (b.atR a' (.inRegion ops rest::k)) cs (w.alloc (.cells v.cells t))) (hp:C.pad=false:=by rfl):Rn C Goal (b.atR a (.inRegion ops (m::rest)::k)) cs w:=
 gm J d (.box t (.tmp x)) hd h s_ (λo ho=>by rw[uP ho,J.get hx]) next trivial (λh=>by rw[hp]at h;cases h)
theorem tx(J:aB F N ds a)(d x:Nat)(t:TypeId)(hx:F.lookup x=some v)
 (next:∀a',aB ((d,.pk w.heap.size 0)::F) N ds a'->Rn C Goal (b.atR a' (.inRegion ops rest::k)) cs (w.alloc (.cells v.cells t))) (hd:d<N:=by decide) (h:(ops[m]?).map (λo=>(o.dst,o.op,o.guard))=some (some d,.box t (.tmp x),none):=by kernel_rfl) (hp:C.pad=false:=by rfl):Rn C Goal (b.atR a (.inRegion ops (m::rest)::k)) cs w:=gy J d x t hd hx h next hp
theorem po(J:aB F N ds a)(d:Tmp)(p:Op)(hy:∀o:Oper,o.op=p->(execOp a.eval o).run C.P w=.ok (.value v) w')
 (next:∀a',aB ((d,v)::F) N ds a'->Rn C Goal (b.atR a' (.inRegion ops rest::k)) cs w') (hd:d<N:=by decide) (h:(ops[m]?).map (λo=>(o.dst,o.op,o.guard))=some (some d,p,none):=by kernel_rfl) (T5:∀c,p≠ .defer c:=by simp) (ok:kU C.P a.eval p:=by exact nR) (hz:C.pad=true->w'.heap.size=w.heap.size:=by exact PH) (hq:w'.drawn=w.drawn:=by rfl):Rn C Goal (b.atR a (.inRegion ops (m::rest)::k)) cs w:=gm J d p hd h T5 hy next ok hz hq
theorem Sa(J:aB F N ds a)(d x:Nat)(hx:F.lookup x=some v)(next:∀a',aB ((d,v)::F) N ds a'->Rn C Goal (b.atR a' (.inRegion ops rest::k)) cs w)(hd:d<N:=by decide)(h:(ops[m]?).map (λo=>(o.dst,o.op,o.guard))=some (some d,.move (.tmp x),none):=by kernel_rfl):Rn C Goal (b.atR a (.inRegion ops (m::rest)::k)) cs w:=qc J d x hd hx h next
theorem Sb(J:aB F N ds a)(d x:Nat)(hx:F.lookup x=some v)(next:∀a',aB ((d,v)::F) N ds a'->Rn C Goal (b.atR a' (.inRegion ops rest::k)) cs w)(hd:d<N:=by decide)(h:(ops[m]?).map (λo=>(o.dst,o.op,o.guard))=some (some d,.assign (.tmp x),none):=by kernel_rfl):Rn C Goal (b.atR a (.inRegion ops (m::rest)::k)) cs w:=sS J d x hd hx h next
theorem iP(J:aB F N ds a)(p:Op)(h:(ops[m]?).map (λo=>(o.dst,o.op,o.guard))=some (none,p,none))(T5:∀c,p≠ .defer c)(hy:∀o:Oper,o.op=p->(execOp a.eval o).run C.P w=.ok .skip w')
 (next:∀a',aB F N ds a'->Rn C Goal (b.atR a' (.inRegion ops rest::k)) cs w') (ok:kU C.P a.eval p:=by exact nR) (hz:C.pad=true->w'.heap.size=w.heap.size:=by exact PH) (hq:w'.drawn=w.drawn:=by rfl):Rn C Goal (b.atR a (.inRegion ops (m::rest)::k)) cs w:=by
 obtain⟨o,ho,e1,e2,e3⟩:=kS h;refine AK ho (e3 _) (λc=>by rw[e2];exact T5 c) ⟨hy o e2,i3 (e2▸ok),hz,hq⟩ ?_;rw[e1];exact next a J
theorem jb{xs:Array Operand}{ats:Array TypeId}(SS:o.op=.call {callee:=.value x,args:=xs,argTypes:=ats})(hx:ev x=.func (.yield l) #[] #[])(ha:xs.map ev=args)(w:World)(es:Array Event):
 (execOp ev o).runT P w es=(ac2 l args).runT P w es:=by
 have e:execOp ev o=ac2 l args:=by
  simp only[execOp,SS,resolve,ab9,hx,ha];simp[invoke,bind,a30,pure]
 rw[e]
theorem Hp(J:aB F N ds a)(d x:Nat){r:Loop}{xs:Array Operand}{ats:Array TypeId}(h:(ops[m]?).map (λo=>(o.dst,o.op,o.guard))=some (some d,.call {callee:=.value (.tmp x),args:=xs,argTypes:=ats},none))
 (hx:F.lookup x=some (.func (.yield l) #[] #[])) (ha:xs.map a.eval=args) (hl:w.heap[l]?=some (.loop r)) (hs:args.size=r.params.size)
 (ZE:(∀w',Rn C Goal ((b.atR a (.inRegion ops (m::rest)::k)).finish (.bool true)) cs w'↔Rn C Goal (b.atR (a.put (some d) (.bool true)) (.inRegion ops rest::k)) cs w')->
   Rn C Goal (a9_ l r.fn ((r.params.zip args).foldl (λtmps (t,a)=>tmps.setIfInBounds t a) r.tmps) r.assign r.body .normal) (b.atR a (.inRegion ops (m::rest)::k)::cs) w):Rn C Goal (b.atR a (.inRegion ops (m::rest)::k)) cs w:=by
 obtain⟨o,ho,e1,e2,e3⟩:=kS h;refine mi (args:=args) ho (e3 _) (by rw[e2];simp) hl hs (λw es=>jb e2 (J.get hx) ha w es) (ZE λw'=>?_);rw[a21,ho,a51,e1]
structure qf (C:iV) (Goal:Goroutine->World->Prop) (cs:List Frame) (args:Nat->Array Value) (n l:Nat) (r:Loop) (Inv:Nat->World->Prop):Prop where
 below:∀c w w',Inv c w->Bw w w'->Inv c w'
 loop:∀c w,Inv c w->w.heap[l]?=some (.loop r)
 size:∀c,(args c).size=r.params.size
 round:∀c w cf,c<n->Inv c w->(∀w',Inv (c+1) w'->Rn C Goal (cf.finish (.bool true)) cs w')->Rn C Goal (a9_ l r.fn ((r.params.zip (args c)).foldl (λtmps (t,a)=>tmps.setIfInBounds t a) r.tmps) r.assign r.body .normal) (cf::cs) w
theorem yf{args:Nat->Array Value}{c:Nat}{r:Loop}{Inv:Nat->World->Prop}(G:qf C Goal cs args n l r Inv)(J:aB F N ds a)(d x:Nat){xs:Array Operand}{ats:Array TypeId}(hd:d<N)(h:(ops[m]?).map (λo=>(o.dst,o.op,o.guard))=some (some d,.call {callee:=.value (.tmp x),args:=xs,argTypes:=ats},none))
 (hx:F.lookup x=some (.func (.yield l) #[] #[])) (ha:xs.map a.eval=args c) (hc:c<n) (hI:Inv c w) (next:∀a' w',aB ((d,.bool true)::F) N ds a'->Inv (c+1) w'->Rn C Goal (b.atR a' (.inRegion ops rest::k)) cs w'):Rn C Goal (b.atR a (.inRegion ops (m::rest)::k)) cs w:=
 Hp J d x h hx ha (G.loop c w hI) (G.size c) λhiff=>G.round c w _ hc hI λw' hI'=>(hiff w').2 (next _ w' (J.put hd _) hI')
theorem jk{ps:Array Tmp}{cb:Code}{cap:Array Value}(r:Loop)(hb:b.roundOf=none)(hr:r={state:=.ready,pending:=none,fn:=b.fn,tmps:=a.tmps,params:=ps,assign:=ca,body:=cb,defers:=w.heap.size})
 (hf:C.P.funcs[f]?=some fn) (Tc:(fn.name== "runtime.NumGoroutine")=false) (Yo:fn.body.isNone=false) (hx:a.eval x=.func (.func f) first cap) (ha:first++#[.func (.yield (w.heap.size+1)) #[] #[]]++cap=args)
 (h:Rn C Goal (Frame.enter C.P f args .normal) (b.atR ⟨a.tmps,{target:=.collected w.heap.size,args:=#[]}::a.defers⟩ (.inRangeFunc (w.heap.size+1)::k)::cs) (cj w r)) (hp:C.pad=false:=by rfl):Rn C Goal (b.atR a (.code (.rangeFunc x ps ca cb)::k)) cs w:=by
 subst hr;subst ha;exact Hk hp hb hf Tc Yo hx h
theorem yd{r:Loop}{c:Frame}(hl:b.roundOf=some l)(hk:b.kind=.normal)(h0:w.heap[l]?=some (.loop r))(h:Rn C Goal (c.finish (.bool false)) cs (aT w l {r with state:=.done,pending:=some .ret})):Rn C Goal (b.atR a (.code .ret::k)) (c::cs) w:=
 iE (mt (some .ret)).wW (nu _ h0 (some .ret)) (λm wR _ es h=>⟨_,(dD rfl m _ wR).trans (mO (fr:=b.atR a (.code .ret::k)) (j:=some .ret) (.ret rfl) hl hk h),dh C.P b.fn es⟩) (λ_=>iG _ _ _) rfl h
theorem uO{r:Loop}(h:w.heap[l]?=some (.loop r))(hs:r.state=.done):(aa_ l).run P w=.ok r.pending (aT w l {r with state:=.exhausted}):=by
 simp[aa_,a8_,getObj,setObj,bind,a30,af9,pure,h,hs,aT]
theorem oz{r:Loop}(h0:w.heap[l]?=some (.loop r))(hs:r.state=.done)(hp:r.pending=some .ret)(h:Rn C Goal (b.atR a (.code .ret::k)) cs (aT w l {r with state:=.exhausted})):Rn C Goal (b.atR a (.endRangeFunc l::k)) cs w:=by
 refine iE (v:=some .ret) (fr':=b.atR a (.code .ret::k)) (cs':=cs) oe.wW (by rw[uO h0 hs,hp]) (λm wR _ es h=>⟨_,(dD rfl m _ wR).trans (kK (fr:=b.atR a (.endRangeFunc l::k)) rfl h),dh C.P b.fn es⟩) (λ_=>iG _ _ _) rfl h
theorem iu{c:Frame}(hk:b.kind=.normal)(hd:a.defers=[])(hf:C.P.funcs[b.fn]?=some fn)(h:Rn C Goal (c.finish (.tuple #[])) cs w)(hr:fn.results=#[]:=by rfl):Rn C Goal {b.atR a k with mode:=.returning} (c::cs) w:=
 sR (.tuple #[]) rfl hk hd hf (by simp[results,hr]) (iZ _ _) h
theorem vN{R:Ending->World->Prop}{t:Tmp}(hf:C.P.funcs[f]?=some fn)(TB:fn.results=#[.cell t ty])(hag:∀w:World,(isAgg ty).run C.P w=.ok false w)
 (h:∀cs,Rn C (λg w'=>∃(a:Act) (k:List Item) (ad:Addr) (v:Value),g=dj {(base f).atR a k with mode:=.returning} cs/\a.defers=[]/\a.tmps[t]?=some (.pointer (some ad))/\w'.cell? ad=some v/\R (.returned v) w') (vd C.P f args .normal) cs w):Cl C f args w R:=
 fB hf λcs L hG=>h cs L λfr cs' w' ⟨a,k,ad,v,e,h1,h2,h3,h4⟩=>hG _ _ _ ⟨a,k,v,e,h1,by simp[results,TB,h2,asAddr,loadVar,hag,h3,go_sem],h4⟩
theorem P6{c:Call}{g:FuncId}{x y:Array Value}(J:aB F N ds a)(TJ:b.roundOf=none)(ho:ops[m]?=some o)(hg:o.guard=none)(hd:o.dst=none)(SS:o.op=.defer c)(TN:c.callee=.value (.tmp d))(Wz:c.args=#[])(hv:F.lookup d=some (.func (.func g) x y))
 (next:∀a',aB F N (⟨.fn (.func g) y,x⟩::ds) a'->Rn C Goal (b.atR a' (.inRegion ops rest::k)) cs w):Rn C Goal (b.atR a (.inRegion ops (m::rest)::k)) cs w:=by
 have hw:ug o (yielded ops a.tmps)=true:=by simp[ug,hg]
 have hex:execOp a.eval o=.pure (.defer ⟨.fn (.func g) y,x⟩):=by
  unfold execOp resolve;rw[SS];simp only[TN,Wz,J.get hv,ab9];simp;rfl
 have e:∀main w,stepG.exec C.P main true (b.atR a (.inRegion ops (m::rest)::k)) cs none w=.go (dj (b.atR ⟨a.tmps,⟨.fn (.func g) y,x⟩::a.defers⟩ (.inRegion ops rest::k)) cs) w #[]:=λmain w=>by
  have h1:stepG.exec C.P main true (b.atR a (.inRegion ops (m::rest)::k)) cs none w=stepG.apply C.P true (b.atR a (.inRegion ops (m::rest)::k)) cs none (execOp (b.atR a (.inRegion ops (m::rest)::k)).eval o) w:=by
   unfold stepG.exec;simp only[aj1,ho,No,a14,hw,↓reduceIte];unfold stepG.oper;simp only[as7,ho,TJ]
  rw[h1,a49,hex];unfold stepG.apply;simp[-a12,a44,a54,seen,Frame.finish,aj1,ho,hd,dj]
 refine mj rfl e (next _ ⟨?_,J.size,J.slot⟩);show _::a.defers=_;rw[J.defers]
theorem yh{g:FuncId}{cp a01:Array Value}{es:List Deferred}(hm:fr.mode≠ .run)(hd:fr.defers=⟨.fn (.func g) cp,a01⟩::es)(hf:C.P.funcs[g]?=some fn)(hb:fn.body.isSome=true)(hn:fn.name≠ "runtime.NumGoroutine")
 (next:Rn C Goal (vd C.P g (a01++cp) .deferred) ({fr with defers:=es}::cs) w):Rn C Goal fr cs w:=by
 have e:∀main w,stepG C.P main (dj fr cs) w=unwind C.P main fr cs none w:=λmain w=>by
  unfold stepG dj;cases hmm:fr.mode with
  |run=>exact absurd hmm hm
  |_=>simp only[hmm]
 exact vX (λmain w=>(e main w).trans (xO hd hf hb hn)) next
theorem yi{c:Frame}(hk:b.kind=.deferred)(hd:a.defers=[])(hf:C.P.funcs[b.fn]?=some fn)(hr:(results fn a.tmps).run C.P w=.ok v w)(h:Rn C Goal (lO c) cs w):Rn C Goal {b.atR a k with mode:=.returning} (c::cs) w:=by
 refine iE (fr':=lO c) (cs':=cs) (iZ fn a.tmps).wW hr (λm wR Tq es h=>⟨_,?_,dh C.P b.fn es⟩) (λ_=>rfl) rfl h;have hu:=tF (P:=C.P) (main:=m) (fr:={b.atR a k with mode:=.returning}) (c:=c) (cs:=cs) hd rfl (.inr hk) hf h;have hb:back b.kind c v=lO c:=by rw[hk];rfl
 rw[show({b.atR a k with mode:=.returning}:Frame).kind=b.kind from rfl,hb]at hu;unfold stepG dj;exact hu
def LB(f:FuncId):Frame:={base f with kind:=.deferred}
theorem BW{c:Code}(L:List Value)(hf:P.funcs[f]?=some fn)(hb:fn.body=some c)(hN:fn.ntmps=N):vd P f L.toArray .deferred=(LB f).atR ⟨L.toArray++ve (N- L.toArray.size) undef,[]⟩ [.code c]:=by
 have:=gC (P:=P) L hf hb hN;unfold vd at this⊢;simp only[hf]at this⊢;injection this with h1 h2 h3 h4 h5 h6 h7;simp only[LB,aj1]
 congr 1
theorem P4{t:TypeId}(J:aB F N ds a)(ho:ops[m]?=some o)(hg:o.guard=none)(SS:o.op=.panic (.tmp d))(hv:F.lookup d=some (.iface t (.string s)))
 (next:Rn C Goal ((b.atR a (.inRegion ops (m::rest)::k)).raise [{v:=.iface t (.string s),recovered:=false}]) cs w):Rn C Goal (b.atR a (.inRegion ops (m::rest)::k)) cs w:=by
 have hw:ug o (yielded ops a.tmps)=true:=by simp[ug,hg]
 have hex:execOp a.eval o=.halt (.panic (.iface t (.string s))):=by
  unfold execOp;rw[SS];simp only[J.get hv];rfl
 refine mj rfl (λmain w=>?_) next
 have:=(ki (main:=main) (listen:=true) (cs:=cs) (w:=w) (P:=C.P) (fr:=b.atR a (.inRegion ops (m::rest)::k)) rfl ho hw (λc e=>by rw[SS]at e;cases e)).trans (FD (v:=.iface t (.string s)) (w':=w) (es:=#[]) (by rw[a49,hex];rfl));rw[this];show av7 _ _ _=av7 _ _ _
 congr 1
 have h0:∀x,seen C.P x #[]=#[]:=λx=>by simp[seen]
 split<;>exact h0 _
theorem L0{c:Frame}{ch:List PanicEntry}(hm:fr.mode=.panicking ch)(hd:fr.defers=[])(hc:fr.catches C.P=false)(next:Rn C Goal (c.raise ch) cs w):Rn C Goal fr (c::cs) w:=by
 refine vX (λmain w=>?_) next
 unfold stepG dj;simp only[hm];unfold unwind;simp only[hd,hm,hc,a85,↓reduceIte]
theorem y_{main:Bool}{f:Frame}{xs:List Frame}{k:List Item}{c:Call}(ht:f.todo=.inRegion ops (n::rest)::k)(ho:ops[n]?=some o)(hw:ug o (yielded ops f.tmps)=true)(SS:o.op=.call c)(TN:c.callee=.builtin .recover)(e:f.roundOf=none):
 stepG.exec P main listen f xs none w=match tryRecover f xs with
  |some (v,ys)=>.go {frame:=f.finish v,callers:=ys,status:=.running,dying:=none} w
  |none=>.go {frame:=f.finish .nilIface,callers:=xs,status:=.running,dying:=none} w:=by
 have hex:execOp f.eval o=.pure .recover:=by unfold execOp resolve;rw[SS];simp only[TN];rfl
 rw[ki ht ho hw (λc e=>by rw[SS]at e;cases e),hex];unfold stepG.apply;cases listen<;>simp only[a44,af9,e,↓reduceIte,a85]<;>cases tryRecover f xs<;>simp[a54,seen]
theorem P3{c:Call}{Vx:List PanicEntry}{cl:Frame}(J:aB F N ds a)(hk:b.kind=.deferred)(TJ:b.roundOf=none)(ho:ops[m]?=some o)(hg:o.guard=none)(WO:o.dst=some d)(hd:d<N)(SS:o.op=.call c)(TN:c.callee=.builtin .recover)(hm:cl.mode=.panicking ({v,recovered:=false,goexit:=false}::Vx))
 (next:∀a',aB ((d,v)::F) N ds a'->Rn C Goal (b.atR a' (.inRegion ops rest::k)) ({cl with mode:=.panicking ({v,recovered:=true}::Vx)}::cs) w):Rn C Goal (b.atR a (.inRegion ops (m::rest)::k)) (cl::cs) w:=by
 have hw:ug o (yielded ops a.tmps)=true:=by simp[ug,hg]
 have ht:tryRecover (b.atR a (.inRegion ops (m::rest)::k)) (cl::cs)=some (v,{cl with mode:=.panicking ({v,recovered:=true}::Vx)}::cs):=by
  unfold tryRecover;rw[show(b.atR a (.inRegion ops (m::rest)::k)).kind=.deferred from hk];simp only[hm]
 refine mj (fr':=(b.atR a (.inRegion ops (m::rest)::k)).finish v) (cs':={cl with mode:=.panicking ({v,recovered:=true}::Vx)}::cs) rfl (λmain w=>?_) ?_
 .have e:=y_ (P:=C.P) (main:=main) (listen:=true) (f:=b.atR a (.inRegion ops (m::rest)::k)) (xs:=cl::cs) (w:=w) rfl ho hw SS TN TJ;rw[ht]at e;exact e
 .rw[a21,ho,a51,WO];exact next _ (J.put hd v)
end

abbrev Ax:=FuncId->Array Value->World->(Value->World->Prop)->Prop
abbrev cX(P:Program)(p:Bool)(A:Ax):iV:=⟨P,p,A⟩
theorem om{p:Prop}(h:p:=by first|omega|(dsimp only[];omega)):p:=h
theorem Sv{p:Prop}(h:p:=by first|assumption|decide|exact om|exact Int.emod_nonneg _ d_):p:=h
theorem Rx{p:Prop}(h:p:=by first|assumption|rfl):p:=h
theorem oq{p:Prop}(h:p:=by
 first
 |exact CY ho gx
 |exact vj ho gx
 |exact ET ho gx gx om
 |exact rx ho gx gx om
 |exact wO ho gx gx om
 |exact ES ho gx gx om
 |exact EL ho gx gx om
 |exact EI ho gx gx om
 |exact EJ ho gx gx om om
 |exact EU ho gx gx om
 |exact EH ho gx gx om
 |exact dz ho gx gx rfl
 |exact B0 ho gx gx Sv
 |exact Ib ho gx gx Sv
 |exact de ho gx (by assumption) Rx (λ_=>by kernel_rfl)
 |exact lS ho gx gx rfl k_ om
 |exact Ig ho gx gx rfl k_ om
 |exact EQ ho gx rfl
 |exact Ba ho gx
 |exact EN ho gx k_
 |exact EO ho gx rfl
 |exact rz ho gx gx k_ (by assumption)
 |exact Ie ho gx gx rfl k_ (λ_=>by kernel_rfl) om Rx
 |exact Ia ho gx gx gx rfl k_ om om om
 |exact I8 ho gx gx rfl k_ om
 |exact ky ho gx gx gx k_ om om
 |exact I9 ho gx gx k_ om
 |exact ER ho gx gx om
 |exact EK ho gx om
 |exact Bb ho gx
 |exact Ic ho gx
 |exact EP ho gx
 |exact Ii ho gx rfl k_ om
 |exact Ih ho gx rfl k_ om
 |exact ry _ ho gx rfl k_
 |exact jt ho gx rfl):p:=h
theorem SK{p:Prop}(h:p:=by
 first
 |exact Q9 ho rfl
 |exact zx ho gx
 |exact Q7 ho gx gx rfl rfl rfl k_ om):p:=h
theorem SH{p:Prop}(h:p:=by first|exact om|decide|(simp;done)|(simp;omega)|(simp[*];done)|(simp[*];omega)):p:=h
theorem SJ{p:Prop}(h:p:=by
 first
 |exact pE ho gx gx (by assumption) SH k_ rfl rfl):p:=h

section
variable{p:Bool}{A:Ax}
theorem nz(x k:Int)(w:World):Cl (cX prog p A) 184 #[.int .u32 x,.int .i64 k] w λe w'=>e=.returned (.int .u32 (rE x k))/\w'=w:=by
 refine az (L:=[.int .u32 x,.int .i64 k]) func184 rfl λcs a J=>?_;have h0:=qz .and (a07.wrap k) 31
 iterate 14 refine ab J λa J=>?_
 exact aH J ⟨rfl,rfl⟩
theorem rm(x a b c:Int)(w:World)(a0:0<=a)(a1:a<=31)(b0:0<=b)(b1:b<=31)(c0:0<=c)(c1:c<=31):
 Cl (cX prog p A) 163 #[.int .u32 x,.int .i64 a,.int .i64 b,.int .i64 c] w λe w'=>e=.returned (.int .u32 (jq x a b c))/\w'=w:=by
 refine az (L:=[.int .u32 x,.int .i64 a,.int .i64 b,.int .i64 c]) func163 rfl λcs act J=>?_
 iterate 4 refine ab J λ_ J=>?_
 refine fE J func184 (nz _ _ _) λ_ J=>?_
 iterate 3 refine ab J λ_ J=>?_
 refine fE J func184 (nz _ _ _) λ_ J=>?_
 iterate 4 refine ab J λ_ J=>?_
 refine fE J func184 (nz _ _ _) λ_ J=>?_
 iterate 2 refine ab J λ_ J=>?_
 exact aH J ⟨rfl,rfl⟩
theorem pF(x a b c:Int)(w:World)(a0:0<=a)(a1:a<=31)(b0:0<=b)(b1:b<=31)(c0:0<=c)(c1:c<=31):
 Cl (cX prog p A) 183 #[.int .u32 x,.int .i64 a,.int .i64 b,.int .i64 c] w λe w'=>e=.returned (.int .u32 (gS x a b c))/\Bw w w':=by
 refine az (L:=[.int .u32 x,.int .i64 a,.int .i64 b,.int .i64 c]) func183 rfl λcs act J=>?_;refine ab J λ_ J=>?_;refine qe J ?_
 iterate 3 refine aj ?_
 refine cy func184 (λw _ _=>(nz _ _ w).bel) ?_
 iterate 3 refine aj ?_
 refine cy func184 (λw _ _=>(nz _ _ w).bel) ?_
 iterate 6 refine aj ?_
 refine cc λ_ w1 J hb _=>aH J ⟨?_,hb⟩;rw[show min c.toNat a13.bits=c.toNat from by have:a13.bits=32:=rfl;omega];rfl
theorem Cy(s:ByteArray)(k:Nat)(h:k<s.size):s.data.toList.take (k+1)=s.data.toList.take k++[s[k]]:=by
 rw[List.take_succ_eq_append_getElem (by simpa using h)];rfl
theorem MP(n:Int)(b:UInt8)(h0:0<=n)(h1:n<72057594037927936):bits .or .u64 (a07.wrap (n*2^min (8:Int).toNat a07.bits)) (a07.wrap (b.toNat:Int))=256*n+(b.toNat:Int):=by
 rw[←FK n b h0 h1,show(2:Int)^min (8:Int).toNat a07.bits=256 from rfl,a52 (n*256),ai5 o_ o_]
theorem eA(s:ByteArray)(w:World)(hs:s.size<=8):
 Cl (cX prog p A) 88 #[.string s] w λe w'=>e=.returned (.int .u64 (c_ s.data.toList))/\w'=w:=by
 refine az (L:=[.string s]) func88 rfl λcs a J=>?_
 iterate 5 refine ab J λ_ J=>?_
 refine gQ (λk a w'=>w'=w/\k<=s.size/\aB [(0,.string s),(3,.int .u64 (c_ (s.data.toList.take k))),(6,.int .i64 (s.size:Int)),(7,.int .i64 (k:Int))] f88.ntmps [] a) (λk=>s.size- k) 0 ⟨rfl,a00 _,J.O⟩ λk a w' ⟨ew,hk,J⟩ ih=>?_;subst ew;refine ab J λ_ J=>?_;by_cases SX:k<s.size
 .refine aD true J ?_;have hn:=iB (s.data.toList.take k) 7 (by simp;omega)
  iterate 12 refine ab J λ_ J=>?_
  refine gA (ih (k+1) _ _ ⟨rfl,SX,J.only ⟨rfl,congrArg (λz=>some (Value.int .u64 z)) ?_,rfl,rfl,trivial⟩⟩ o_);rw[Cy s k SX,m8];exact MP _ _ hn.1 o_
 .refine aD false J ?_
  iterate 2 refine ab J λ_ J=>?_
  refine aH J ?_;exact⟨by rw[List.take_of_length_le (by simp;omega)],rfl⟩
theorem ND(n d:Nat):((n/d:Nat):Int)/2^min (8:Int).toNat a07.bits=((n/(d*256):Nat):Int):=by
 rw[show(2:Int)^min (8:Int).toNat a07.bits=((256:Nat):Int)from rfl,←Int.natCast_ediv,ag0]
theorem mX(n k:Nat)(w:World)(hk:k<=8):
 Cl (cX prog p A) 106 #[.int .u64 n,.int .i64 k] w λe w'=>e=.returned (.string ⟨(cz n k).toArray⟩)/\Bw w w':=by
 refine az (L:=[.int .u64 n,.int .i64 k]) func106 rfl λcs a J=>?_
 iterate 2 refine ab J λ_ J=>?_
 refine dA J λg w1 _ hg hb hc hz J=>?_
 iterate 4 refine ab J λ_ J=>?_
 refine gQ (λm a w'=>m<=k/\Bw w w'/\w'.heap[g]?=some (.cells (Ev n k m).toArray 5)/\aB [(0,.int .u64 ((n/256^(k- m):Nat):Int)),(5,.sk g k k),(6,.int .i64 ((m:Int)- 1))] f106.ntmps [] a) (λm=>m) k ⟨dv _,hb,by rw[Ct];exact hc,J.only ⟨by rw[Nat.sub_self,Nat.pow_zero,Nat.div_one];rfl,rfl,rfl,trivial⟩⟩ λm a w' ⟨hm,hb,hc,J⟩ ih=>?_;cases m with
 |zero=>
  iterate 2 refine ab J λ_ J=>?_
  refine aD false J ?_;refine ab J λ_ J=>?_;rw[HW]at hc;refine ab J (hy:=by intro o ho;exact jR (l:=cz n k) ho gx (bJ k n) rfl k_ k_ hc λj hj=>by simp[bm,hj]) λ_ J=>?_;refine ab J λ_ J=>?_;exact aH J ⟨rfl,hb⟩
 |succ p=>
  rw[show((p+1:Nat):Int)- 1=(p:Int)from by omega]at J;have Tf:=yN n k (p+1) hm
  iterate 2 refine ab J λ_ J=>?_
  refine aD true J ?_
  iterate 5 refine ab J λ_ J=>?_
  refine cZ J λw2 _ hp J=>?_;have Ts:=hp.here;rw[AI,gT,HV n k p o_ _ (by rw[IntKind.wrap_u8];simp)]at Ts
  iterate 6 refine ab J λ_ J=>?_
  refine gA (ih p _ _ ⟨by omega,hb.trans (hp.below hg),Ts,J.only ⟨congrArg (λz=>some (Value.int .u64 z)) ?_,rfl,rfl,trivial⟩⟩ o_);rw[show k- p=k-(p+1)+1 from by omega,Nat.pow_succ];exact ND _ _
theorem HU(n:Nat)(w:World):Cl (cX prog p A) 132 #[.int .u64 n] w λe w'=>e=.returned (.string ⟨(cz n 8).toArray⟩)/\Bw w w':=by
 refine az (L:=[.int .u64 n]) func132 rfl λcs a J=>?_
 iterate 2 refine ab J λ_ J=>?_
 refine ig J func106 (mX n 8 _ o_) λw1 _ hb J=>?_;refine ab J λ_ J=>?_;exact aH J ⟨rfl,hb⟩
theorem u32_any(n:Nat)(w:World)(h:n<18446744073709551616):Cl (cX prog p A) 89 #[.int .i64 n] w λe w'=>e=.returned (.string ⟨(cz n 4).toArray⟩)/\Bw w w':=by
 refine az (L:=[.int .i64 n]) func89 rfl λcs a J=>?_
 iterate 3 refine ab J λ_ J=>?_
 refine ig J func106 (mX n 4 _ o_) λw1 _ hb J=>?_;refine ab J λ_ J=>?_;exact aH J ⟨rfl,hb⟩
theorem u16_any(n:Nat)(w:World)(h:n<18446744073709551616):Cl (cX prog p A) 92 #[.int .i64 n] w λe w'=>e=.returned (.string ⟨(cz n 2).toArray⟩)/\Bw w w':=by
 refine az (L:=[.int .i64 n]) func92 rfl λcs a J=>?_
 iterate 3 refine ab J λ_ J=>?_
 refine ig J func106 (mX n 2 _ o_) λw1 _ hb J=>?_;refine ab J λ_ J=>?_;exact aH J ⟨rfl,hb⟩
theorem u8_any(n:Nat)(w:World)(h:n<18446744073709551616):Cl (cX prog p A) 151 #[.int .i64 n] w λe w'=>e=.returned (.string ⟨(cz n 1).toArray⟩)/\Bw w w':=by
 refine az (L:=[.int .i64 n]) func151 rfl λcs a J=>?_
 iterate 3 refine ab J λ_ J=>?_
 refine ig J func106 (mX n 1 _ o_) λw1 _ hb J=>?_;refine ab J λ_ J=>?_;exact aH J ⟨rfl,hb⟩
end

section
variable{p:Bool}{A:Ax}
theorem DT(B:List UInt8)(m n j:Nat)(hj:j<((B.drop m).take n).length):(bm B).toArray[0+m+j]?=some (.int .u8 (((B.drop m).take n)[j].toNat:Int)):=by
 have h1:j<n/\m+j<B.length:=by simp at hj;omega
 simp[bm,h1.2]
theorem uM(B:List UInt8)(hB:B.length=64)(w:World):
 Cl (cX prog p A) 162 #[.agg (bm B).toArray] w λe w'=>e=.returned (.agg (aI (bO B 64)).toArray)/\Bw w w':=by
 refine cJ (n:=64) func162 rfl rfl rfl k_ λcs=>bv (L:=[.agg (bm B).toArray]) func162 rfl λa J=>?_;refine dA J λgb w1 _ Uy SZ Tn YA J=>?_;refine dA J λgr w2 _ W5 S_ Ts hz2 J=>?_;refine dA J λgs w3 _ hgs Td TT hz3 J=>?_;have UE:=SZ.size;have Vp:=S_.size
 replace Tn:w3.heap[gb]?=some (.cells (bm B).toArray 164):=bk Td (bk S_ Tn)
 replace Ts:w3.heap[gr]?=some (.cells (nB 64 (.int .u32 0)).toArray 214):=bk Td Ts
 replace TT:w3.heap[gs]?=some (.cells (aI (bT B 0)).toArray 214):=TT
 have hb:Bw w w3:=ae (ae SZ UE S_) o_ Td;refine ab J λ_ J=>?_;refine gQ (λk a w'=>k<=16/\Bw w w'/\w'.heap[gb]?=some (.cells (bm B).toArray 164)/\w'.heap[gr]?=some (.cells (nB 64 (.int .u32 0)).toArray 214)/\w'.heap[gs]?=some (.cells (aI (bT B k)).toArray 214)/\aB [(1,.pk gb 0),(2,.pk gr 0),(3,.pk gs 0),(6,.int .i64 (k:Int))] f162.ntmps [] a) (λk=>16- k) 0 ⟨by omega,hb,Tn,Ts,TT,J.O⟩ ?_;clear J hb Tn Ts TT SZ S_ Td;intro k a w' ⟨hk,hb,Tn,Ts,TT,J⟩ ih;refine ab J λ_ J=>?_;by_cases SX:k<16
 .refine aD true J ?_;have hl:((B.drop (4*k)).take 4).length=4*k+4- 4*k:=by simp;omega
  have Tf:=jF B k o_;have hsw:=aY (bT B k)
  iterate 9 refine ab J λ_ J=>?_
  refine ab J (hy:=by intro o ho;exact jR (l:=(B.drop (4*k)).take 4) ho gx hl rfl k_ k_ Tn λj hj=>DT B _ _ j hj) λ_ J=>?_;refine fE J func88 (eA _ _ (by show((B.drop (4*k)).take 4).toArray.size<=8;simp;omega)) λ_ J=>?_
  iterate 2 refine ab J λ_ J=>?_
  refine cZ J λw2 _ hp J=>?_;have h3:=hp.here;rw[AI,gT,rv B k o_ _ (by rw[if_pos SX];rfl)]at h3
  iterate 2 refine ab J λ_ J=>?_
  exact gA (ih (k+1) _ _ ⟨SX,hb.trans (hp.below o_),hp.keep Tn o_,hp.keep Ts o_,h3,J.O⟩ o_)
 .have hk16:k=16:=by omega
  subst hk16;refine aD false J ?_;refine ab J λ_ J=>?_;refine gQ (λk a w'=>16<=k/\k<=64/\Bw w w'/\w'.heap[gr]?=some (.cells (nB 64 (.int .u32 0)).toArray 214)/\w'.heap[gs]?=some (.cells (aI (bT B k)).toArray 214)/\aB [(2,.pk gr 0),(3,.pk gs 0),(5,.int .i64 (k:Int))] f162.ntmps [] a) (λk=>64- k) 16 ⟨by omega,by omega,hb,Ts,TT,J.O⟩ ?_;clear J hb Tn Ts TT ih;intro k a w' ⟨YV,WL,hb,Ts,TT,J⟩ ih
  iterate 2 refine ab J λ_ J=>?_
  by_cases SX:k<64
  .refine aD true J ?_;have Tf:=jF B k o_;have hsw:=aY (bT B k);have y0:(aI (bT B k)).toArray[0+(k- 16)]?=some (.int .u32 ((bO B k).getD (k- 16) 0)):=(by rw[gT,AS];exact kw B k _ o_);have y1:(aI (bT B k)).toArray[0+(k- 15)]?=some (.int .u32 ((bO B k).getD (k- 15) 0)):=(by rw[gT,AS];exact kw B k _ o_);have y2:(aI (bT B k)).toArray[0+(k- 7)]?=some (.int .u32 ((bO B k).getD (k- 7) 0)):=(by rw[gT,AS];exact kw B k _ o_);have y3:(aI (bT B k)).toArray[0+(k- 2)]?=some (.int .u32 ((bO B k).getD (k- 2) 0)):=(by rw[gT,AS];exact kw B k _ o_);refine ut 23 J ?_
   iterate 9 refine aj ?_
   refine cy func183 (λw _ _=>pF _ 7 18 3 w o_ o_ o_ o_ o_ o_) ?_
   iterate 10 refine aj ?_
   refine cy func183 (λw _ _=>pF _ 17 19 10 w o_ o_ o_ o_ o_ o_) ?_
   iterate 2 refine aj ?_
   refine cc λ_ w1 J SZ _ rest next=>?_
   have hc3':=bk SZ TT;have hc2':=bk SZ Ts;refine cZ J λw2 a hp J=>next a w2 ?_
   have h3:=hp.here;rw[AI,gT,rv B k SX _ (by rw[if_neg o_];rfl)]at h3
   iterate 3 refine ab J λ_ J=>?_
   exact gA (ih (k+1) _ _ ⟨by omega,SX,(ae hb hb.size SZ).trans (hp.below o_),hp.keep hc2' o_,h3,J.O⟩ o_)
  .have ZT:k=64:=(by omega);subst ZT;refine aD false J ?_;have hl:(aI (bT B 64)).length=64:=(by rw[aY,jF B 64 o_]);refine ab J (hy:=by intro o ho;exact gW (vs:=aI (bT B 64)) ho gx TT rfl rfl (by rw[hl];kernel_rfl) (λj u h=>by simpa using h)) λ_ J=>?_;refine cZ J (hy:=by intro o ho;exact eP ho gx gx Ts (by rw[AT,hl];kernel_rfl) (by rw[AT,AT,hl];rfl) (by simpa using jg _)) λw3 _ hp J=>?_;refine Ca J hp.here (by rw[AT,hl]) ?_;exact⟨by rw[pJ],hb.trans (hp.below o_)⟩
end

end Go.Proofs.YtkmoglhgkcnalaaGreatDoor
namespace Go.Proofs.YtkmoglhgkcnalaaGreatDoor
open Go.RowKit
structure St where
 a:Int
 b:Int
 c:Int
 d:Int
 e:Int
 f:Int
 g:Int
 h:Int
def St.t(s:St)(k w:Int):Int:=
 a13.wrap (a13.wrap (a13.wrap (a13.wrap (s.h+jq s.e 6 11 25)+bits .xor .u32 (bits .and .u32 s.e s.f) (bits .and .u32 (bits .xor .u32 4294967295 s.e) s.g))+k)+w)
def St.u(s:St):Int:=
 a13.wrap (jq s.a 2 13 22+bits .xor .u32 (bits .xor .u32 (bits .and .u32 s.a s.b) (bits .and .u32 s.a s.c)) (bits .and .u32 s.b s.c))
def St.next(s:St)(k w:Int):St:=
 ⟨a13.wrap (s.t k w+s.u),s.a,s.b,s.c,a13.wrap (s.d+s.t k w),s.e,s.f,s.g⟩
def Hf(H:List Int):St:=⟨H.getD 0 0,H.getD 1 0,H.getD 2 0,H.getD 3 0,H.getD 4 0,H.getD 5 0,H.getD 6 0,H.getD 7 0⟩
def St.list(s:St):List Int:=[s.a,s.b,s.c,s.d,s.e,s.f,s.g,s.h]
def cR(K W H:List Int):Nat->St
 |0=>Hf H
 |i+1=>(cR K W H i).next (K.getD i 0) (W.getD i 0)
def Gj(K H:List Int)(B:List UInt8):List Int:=(cR K (bO B 64) H 64).list
def fp(H G:List Int)(k:Nat):List Int:=(gU 8).map λi=>if i<k then a13.wrap (H.getD i 0+G.getD i 0)else H.getD i 0
def mJ(K H:List Int)(B:List UInt8):List Int:=fp H (Gj K H B) 8
theorem nY(H G:List Int)(k:Nat):(fp H G k).length=8:=by simp[fp]
theorem pP(K H:List Int)(B:List UInt8):(mJ K H B).length=8:=nY _ _ _
theorem xq(H G:List Int)(h:H.length=8):fp H G 0=H:=by
 apply ae0
 .simp[fp,h]
 .intro i h1 h2;simp[fp,List.getD,fj h2]
theorem Dd(H G:List Int)(k:Nat)(h:k<8):(aI (fp H G k))[k]?=some (.int .u32 (H.getD k 0)):=by
 simp[fp,aI,h]
theorem Dc(H G:List Int)(k:Nat)(v:Int)(hv:v=a13.wrap (H.getD k 0+G.getD k 0)):(aI (fp H G k)).set k (.int .u32 v)=aI (fp H G (k+1)):=by
 subst hv;apply ae0
 .simp[fp,aI]
 .intro i h1 h2;simp only[fp,aI,List.map_map,List.getElem_set,List.getElem_map,List.getElem_range,Function.comp];by_cases e:k=i
  .subst e;simp
  .rw[if_neg e];by_cases e2:i<k
   .rw[if_pos e2,if_pos o_]
   .rw[if_neg e2,if_neg o_]

end Go.Proofs.YtkmoglhgkcnalaaGreatDoor
