/- A part of what the last text of the claim imports: texts laid together, and made small, by a program. -/
import Derived.Conc.Own
import Derived.Below
import Derived.KernelRfl
import Derived.Laws.Sem
import GoSem.Dispatch
import GoSem.Step
import Derived.RunT
import Derived.Conc.Events
import Derived.Fence
import Derived.Conc.Fork
import Derived.CallsIn
import Derived.ProofKit
import Derived.WalkKit
import Derived.WalkSpells
import Derived.WalkLawsBesides
import Derived.Deep.MidRow
import Derived.Deep.OwnRows
import Derived.StillTail
import Derived.Conc.Beside
import Derived.Conc.CrowdInv
set_option linter.defProp false
set_option maxHeartbeats 16000000
set_option maxRecDepth 100000
set_option linter.all false
open Array renaming replicate->pq,getElem?_setIfInBounds_self_of_lt->AI,getElem?_map->By,getD_eq_getD_getElem?->JQ,mem_append->JY,append_empty->Mx,mem_of_getElem?->V3,all_eq_true'->V6,getElem?_setIfInBounds->VE,toList_map->Ye,map_append->Yg,getElem?_push->Zq,getElem?_modify->Zv,size_map->ZO,map_setIfInBounds->a02,mapM_eq_mapM_toList->a12,map->a14,ext->a23,getElem?_mapIdx->a36,swapAt!->a6_,ext_getElem?->a67,range->a71,mem_replicate->aa2,map_replicate->aa3,foldl_toList->ab4,forIn_toList->ab5,swapAt->ae7,map_congr_left->ag1,mem_map->ah6,map_extract->ai7,size_push->al4,map_empty->al5,map_push->am0,map_map->an5
open Bind renaming bind->ar_
open Bool renaming and_eq_true->jL,false_eq_true->BZ,or_eq_true->ZC,not_eq_true'->a41,and_true->a89,not_false->ab7,not_true->ad5,true_or->aj2
open ByteArray renaming empty->Zz
open Classical renaming byContradiction->V8,choose_spec->a11,choose->a83
open Except renaming map->ab2,bind->ak8,pure->ak9
open Function renaming comp_def->ai6
open Go.Addr renaming block->ab3
open Go.Builtin renaming firstCells->Tw,copy_->Yf,len_->YQ,lenOf->Zm,append_->Zn,zeroCells->ZP,unsafeSliceData_->a58,min2->a76,max2->a77,ssaWrapNilChk_->a78,unsafeString_->a79,holdsCells->ab6,unsafeAdd_->ac_,mayShare->ae_,min_->ae4,max_->ae5,cap_->ai8
open Go.Conc renaming mem_ofEvents->JW,Good->ao4
open Go.Conv renaming runesFrom->a22,bytesToString->a3_,runesToString->a30,floatToFloat->a40,stringToBytes->a66,complexToComplex->a8_,stringToRunes->ab8,unsafePointer->ab9,floatToInt->af1,seenAt->al2
open Go.Deferred renaming ofValue->XD
open Go.Ending renaming returned->Zo
open Go.Extern renaming findNext->a32,find->a91
open Go.Extern.AbiNoEscape renaming same->a73
open Go.Extern.BytealgMakeNoZero renaming makeNoZero->Zx,digits->ZV
open Go.Frame renaming enter->yj,round->YU,finish->ZD,eval->a04,oper?->a46,raise->ap0,todo->aq0
open Go.GStep renaming after->u5,go->a24
open Go.Instr renaming loadAt->tw,enterLoop->Hb,sliceAt->Mv,sliceBounds->Ng,endLoop->QR,endRound->RN,sliceBound->Tv,takeDeferred->UU,fieldAt->V9,sureAddr->VJ,indexAt->Y0,beginRound->Yh,slice->YT,getLoop->Zw,makeSlice->ZB,yield->ZI,makeInterface->ZT,storeAt->a09,fill->a19,index->a44,alloc->a70,makeFunc->a75,buildSlice->a82,field->a90,extract->ad4,box->ag8,build->al_
open Go.IntKind renaming i64->DN,u32->JV,wrap_u32->JZ,u64->Tu,wrap_u64->XZ
open Go.Item renaming code->a35,inRegion->ah7
open Go.LoopState renaming busy->am4
open Go.Made renaming infoAt->a72,reckonStruct->aj3,reckon->ap1
open Go.MemAct renaming ofEvent->OF
open Go.MemOp renaming ofEvents->Sy
open Go.Mode renaming atomic->a69,plain->a81
open Go.Next renaming value->ae6
open Go.Op renaming equalIn->a2_,floatArith->a88,floatCmp->ad0,complexOp->aj_,twoPlaces->aj0,eqGuardIn->aj1,intArith->al0,stringOp->al1,intBits->am1,addrMod->am3,intDiv->an9,intCmp->ao_,shift->ap_
open Go.Op.Complex renaming corrected->ag2,quotient->ag9,product->ai0,arith->ak1,conv->al8,cmp->am2
open Go.Operand renaming const->ah8
open Go.Region renaming wanted->lO
open Go.Result renaming ok->ae0
open Go.RowKit.Below renaming refl->a65
open Go.Sem renaming runT_eq->IE,run->J2,bind->JU,runT->Mu,run_bind->Rk,runT_fst->Y3,run_bind'->ah5,runT_bind'->am5,store->an8
open Go.Tables renaming info?->ao3
open Go.Value renaming cells->a68,pointer->ad6,ofBytes->an4
open Go.World renaming cell?->AT,frozen?->If,setCell->JX,rangeAt_setCells_same->Kq,rangeAt_setCells_apart->QN,farStore->XC,there_setCells->Y2,farLoad->YW,rangeAt_alloc->Zr,cell?_setCells_out->ZZ,freeze->a17,there_alloc->a42,viewStore->a61,viewLoad->ag0,seen->ai_,setCells->am6,noCell->ao2,ask->aq8,sys->aq9
open List renaming range->px,replicate->rS,getElem?_append_right->um,getElem?_append_left->yw,getElem?_eq_getElem->EN,map_cons->JS,take_of_length_le->No,map_append->Q4,set_append_right->WT,all_cons->Yi,getElem?_map->YR,mem_map->ZA,append_assoc->ZQ,drop_append_of_le_length->a0_,mem_cons_of_mem->a18,take_append_of_le_length->a28,cons_append->a51,ext_getElem->a53,nil_append->a62,length_take->a84,map_nil->aa7,all_nil->aa8,mem_cons_self->ac1,all_append->af2,map->ag_,foldlM_cons->ak0,foldl_cons->al6
open Nat renaming lt_of_lt_of_le->mB,le_refl->oS,zero_add->y6,le_trans->yk,not_lt->a29,add_assoc->ad3
open Option renaming map_some->rN,getD_some->IN,bind_some->IS,map_eq_some_iff->IT,bind_eq_some_iff->QW,elim_none->a25,map->ab1,isNone_iff_eq_none->ac9,bind_eq_bind->ah_,isSome_map->ai9,map_none->al7
open Or renaming inl->ai1,inr->ak2
open Std.Legacy.Range renaming forIn_eq_forIn_range'->a45
open UInt8 renaming ofNat->ZJ
namespace Go
@[match_pattern] abbrev Value.i(n:Int):Value:= .int .i64 n
abbrev Value.pk(b k:Nat):Value:= .pointer (some ⟨b,k,none⟩)
abbrev Value.sk(b n c:Nat):Value:= .slice (some ⟨b,0,none⟩) n c
@[match_pattern] abbrev Value.s(b:ByteArray):Value:= .string b
abbrev World.z(w:World):Nat:=w.heap.size
abbrev World.aC(w:World)(c:Array Value)(t:TypeId):World:=w.alloc (.cells c t)
abbrev _root_.ByteArray.l(b:ByteArray):List UInt8:=b.data.toList
end Go
namespace Go.Value
abbrev pt(b:Nat):Value:= .pk b 0
end Go.Value
namespace Go.Proofs.YtkmoglhgkcnalaaGreatDoor
open Go
variable{n b i N l m k j b3 b4 b7 b9 Wg wd:Nat}{w w' w0 wL wM wE:World}{fr:Frame}{v:Value}{cs:List Frame}{args cv:Array Value}{V RO D V0:Nat->Prop}{q main listen ql:Bool}{g:Goroutine}{a:Act}{K:List Item}{P PL PM:Program}{x:Operand}{ops:Array Oper}{KS:List Int}{t u:TypeId}{o:Oper}{f:FuncId}{es:Array Event}{Goal:Goroutine->World->Prop}{fn:Func}{rest:List Nat}{ds:List Deferred}{F:List (Nat×Value)}{e:Event}{listed:Array Bool}{c:Int}{s msg key sig:ByteArray}{ρ:Nat->Nat}{ev:Operand->Value}{Post:Value->World->Prop}
section
open Go.RowKit
abbrev oM(ops:Array Oper)(m:Nat)(d:Option Tmp)(p:Op)(g:Option (Tmp×Bool)):Prop:=(ops[m]?).map (λo=>(o.dst,o.op,o.guard))=some (d,p,g)
abbrev Bw(w w':World):Prop:=Below w.heap.size w w'
def k_{p:Prop}(h:p:=by kernel_rfl):p:=h
def o_{p:Prop}(h:p:=by omega):p:=h
def d_{p:Prop}(h:p:=by decide):p:=h
def s_{p:Prop}(h:p:=by simp):p:=h
def g_{p:Prop}(h:p:=by grind):p:=h
def gA{a:Type}{l:Array a}{v:a}(h:l[i]?=some v):∃h:i<l.size,l[i]=v:=Array.getElem?_eq_some_iff.1 h
def mG{a:Type}{l:List a}{v:a}(h:l[i]?=some v):v∈l:=List.mem_of_getElem? h
def sN{a:Type}{l:Array a}{v:a}(h:i≠j):(l.setIfInBounds i v)[j]?=l[j]?:=Array.getElem?_setIfInBounds_ne h
def bR:Below N w w:=a65 _ _
end
section
open Go
def bB(ρ:Nat->Nat)(a:Addr):Addr:={a with block:=ρ a.block}
def kQ(ρ:Nat->Nat):Fn->Fn
 | .yield l=> .yield (ρ l)
 |f=>f
def aE(ρ:Nat->Nat):Value->Value
 | .pointer a=> .pointer (a.map (bB ρ))
 | .slice a l c=> .slice (a.map (bB ρ)) l c
 | .map r=> .map (r.map ρ)
 | .chan r=> .chan (r.map ρ)
 | .func fn first cap=> .func (kQ ρ fn) (first.map (aE ρ)) (cap.map (aE ρ))
 | .iface t v=> .iface t (aE ρ v)
 | .agg cs=> .agg (cs.map (aE ρ))
 | .tuple vs=> .tuple (vs.map (aE ρ))
 | .bool b=> .bool b
 | .int k n=> .int k n
 | .float k b=> .float k b
 | .complex k a b=> .complex k a b
 | .string s=> .string s
 | .nilFunc=> .nilFunc
 | .nilIface=> .nilIface
def pW:Fn->Bool
 | .yield _=>false
 |_=>true
mutual
def bW:Value->Bool
 | .pointer a=>a.isNone
 | .slice a _ _=>a.isNone
 | .map r=>r.isNone
 | .chan r=>r.isNone
 | .func fn ⟨first⟩ ⟨cap⟩=>pW fn&&nW first&&nW cap
 | .iface _ v=>bW v
 | .agg ⟨cs⟩=>nW cs
 | .tuple ⟨vs⟩=>nW vs
 | .bool _| .int _ _| .float _ _| .complex _ _ _| .string _| .nilFunc| .nilIface=>true
def nW:List Value->Bool
 |[]=>true
 |v::r=>bW v&&nW r
end
def j9:∀{l:List Value},nW l=true->∀v∈l,bW v=true
 |[],_,v,h=>by cases h
 |x::r,h,v,hv=>by
  simp[nW,jL]at h;obtain rfl|hv:=List.mem_cons.1 hv
  .exact h.1
  .exact j9 h.2 v hv
def kX{f}{cs:Array Value}(h:∀v∈cs,f v=v):cs.map f=cs:=by grind
def uD(a){fn}(h:pW fn=true):kQ a fn=fn:=by cases fn<;>first|rfl|simp[pW]at h
def eA(i):∀v,bW v=true->aE i v=v:=by
 intro v;induction v using aE.induct with
 |case1 a=>intro h;simp[bW]at h;subst h;simp[aE]
 |case2 a l c=>intro h;simp[bW]at h;subst h;simp[aE]
 |case3 r=>intro h;simp[bW]at h;subst h;simp[aE]
 |case4 r=>intro h;simp[bW]at h;subst h;simp[aE]
 |case5 m first e g f=>
  intro h;have⟨first⟩:=first
  have⟨e⟩:=e;simp[bW,jL]at h;rw[aE,uD i h.1.1,kX λv b=>g v b (j9 h.1.2 v (by simpa using b)),kX λv b=>f v b (j9 h.2 v (by simpa using b))]
 |case6 t v d=>intro h;simp[bW]at h;simp[aE,d h]
 |case7 k d=>
  intro h;have⟨k⟩:=k;simp[bW]at h;rw[aE,kX λv b=>d v b (j9 h v (by simpa using b))]
 |case8 j d=>
  intro h;have⟨j⟩:=j;simp[bW]at h;rw[aE,kX λv b=>d v b (j9 h v (by simpa using b))]
 |_=>intro _;simp[aE]
def Ss(ρ:Nat->Nat):Target->Target
 | .fn fn cap=> .fn (kQ ρ fn) (cap.map (aE ρ))
 | .nil=> .nil
 | .builtin b a t c=> .builtin b a t c
 | .collected r=> .collected (ρ r)
 | .coroexit c=> .coroexit (ρ c)
def kR(ρ:Nat->Nat)(d:Deferred):Deferred:=⟨Ss ρ d.target,d.args.map (aE ρ)⟩
def Av(ρ:Nat->Nat)(l:Loop):Loop:={l with tmps:=l.tmps.map (aE ρ),defers:=ρ l.defers}
def fg(ρ:Nat->Nat):Obj->Obj
 | .cells c e f=> .cells (c.map (aE ρ)) e f
 | .pending c e=> .pending (c.map (aE ρ)) e
 | .view a t=> .view (bB ρ a) t
 | .number a l=> .number (bB ρ a) l
 | .map es c=> .map (es.map λe=>⟨aE ρ e.key,aE ρ e.val,e.born⟩) c
 | .chan cap buf closed s r t=> .chan cap (buf.map (aE ρ)) closed s r t
 | .stringIter s p=> .stringIter s p
 | .mapIter m a b c=> .mapIter (m.map ρ) a b c
 | .loop l=> .loop (Av ρ l)
 | .deferred ds=> .deferred (ds.map (ag_ (kR ρ)))
 | .coro p=> .coro p
 | .finalizers fs r=> .finalizers (fs.map λx=>(ρ x.1,kR ρ x.2)) r
def jO:FuncId:=131
def dZ:Tmp:=54
def AP:FuncId:=5
def XN:List Nat:=[1,17]
def PR:FuncId:=157
def PS:FuncId:=100
def gI:FuncId:=125
def dY(f:FuncId):Nat:=if f=jO then 1 else if f=AP then 2 else if f=PR\/f=PS\/f=gI then 3 else 0
def qH(z t:Nat):Bool:=(z==1&&t==dZ)||(z==2&&XN.contains t)
def i9:dY jO=1:=by simp[dY]
def ot(t):qH 1 t=(t==dZ):=by simp[qH]
def Yt(t:Nat):qH 0 t=false:=rfl
def Hw:dY f=1↔f=jO:=by
 unfold dY
 grind
def fP:Nat:=0
def ru:TypeId:=162
def nG(x:Nat):Operand->Bool
 | .tmp t=> !(qH x t)
 | .func _=>true
 | .const v=>bW v
 | .global _=>false
def Pj:Builtin->Bool
 | .append| .cap| .copy| .len| .min| .max| .unsafeSliceData| .unsafeString=>true
 |_=>false
def rc(x:Nat)(c:Call):Bool:=
 c.args.all (nG x)&&match c.callee with
  | .builtin b=>Pj b
  | .value f=>nG x f
  | .invoke _ _=>false
def oK(z:Nat):Op->Bool
 | .move x| .assign x| .box _ x| .load _ x| .nilCheck x| .unOp _ _ x| .convert _ _ x| .makeInterface _ x| .fieldAddr _ x _| .field _ x _| .extract x _=>nG z x
 | .alloc _=>true
 | .pick a b c=>nG z a&&nG z b&&nG z c
 | .build _ ps| .buildSlice _ _ ps=>ps.all λx=>nG z x.2
 | .store _ a b| .binOp _ _ a b _| .makeSlice _ a b| .indexAddr _ a b| .index _ a b=>nG z a&&nG z b
 | .makeFunc fn a b=>pW fn&&a.all (nG z)&&b.all (nG z)
 | .slice _ x l h m=>nG z x&&l.all (nG z)&&h.all (nG z)&&m.all (nG z)
 | .call c=>rc z c
 |_=>false
def DU(z:Nat)(o:Oper):Bool:=
 match o.op with
 | .call c=>z==3&&match c.callee with
   | .builtin .recover=>true
   |_=>false
 |_=>false
def eB(z:Nat)(ops:Array Oper):Bool:=
 match ops.toList with
 |[o,p]=>(z==3||z==0)&&o.guard.isNone&&p.guard.isNone&&p.dst.isNone&&match o.dst,o.op,p.op with
  |some d, .makeInterface _ (.const (.string _)), .panic (.tmp t)=>d==t
  |some d, .makeFunc (.func g) a b, .defer c=>z==3&&g==gI&&a.all (nG z)&&b.all (nG z)&&c.args.isEmpty&&match c.callee with
   | .value (.tmp t)=>d==t
   |_=>false
  |_,_,_=>false
 |_=>false
def Br(z:Nat)(o:Oper):Bool:=
 (oK z o.op&& !(o.dst.any (qH z)))||DU z o||
 (z==1&&match o.op with
   | .indexAddr _ (.global g) i=>g==fP&&nG z i&&o.dst==some dZ
   | .load ty (.tmp t)=>ty==ru&&t==dZ&&o.dst !=some dZ
   |_=>false)
def jS(z:Nat):Code->Bool
 | .skip| .exit _| .label _| .ret| .refuse _=>true
 | .region _ ops q=>ops.all (Br z)||(!q&&eB z ops)
 | .seq a b=>jS z a&&jS z b
 | .cond c a b=>nG z c&&jS z a&&jS z b
 | .block _ b| .loop b| .scope b=>jS z b
 | .rangeFunc f _ a b=>z==0&&nG z f&&jS z a&&jS z b
 | .goto _=>false
def vq(f:FuncId)(c:Code):Bool:=jS (dY f) c&&dY f !=2
def GO{c}(h:vq f c=true):jS (dY f) c=true:=by simp[vq,jL]at h;exact h.1
def GN{c}(h:vq f c=true):dY f≠2:=by simp[vq,jL]at h;simp_all
def SE{c}(h:dY f=0)(a:jS 0 c=true):vq f c=true:=by simp[vq,h,a]
def dj:Obj->Bool
 | .cells _ _ _| .stringIter _ _| .view _ _| .number _ _=>true
 | .deferred ds=>(ds.getD []).isEmpty
 | .loop l=>jS 0 l.assign&&jS 0 l.body&&l.pending.all (jS 0)&&dY l.fn==0
 |_=>false
def fO:Mark->Bool
 | .extern _| .noRoom=>true
 |_=>false
def fR:Halt->Prop
 | .unsupported (.initOrder _)| .panic _=>False
 | .blocked| .waiting| .goexit=>False
 |_=>True
def bE(w:World):Prop:=∀(b:Nat) (o:Obj),w.heap[b]?=some o->dj o=true
inductive aG (ρ:Nat->Nat) (PL PM:Program) {α β:Type} (f:α->β):Sem α->Sem β->Prop
 |pure (a:α):aG ρ PL PM f (.pure a) (.pure (f a))
 |load {a:Addr} {k:Value->Sem α} {k':Value->Sem β} (h:∀v,aG ρ PL PM f (k v) (k' (aE ρ v))):aG ρ PL PM f (.load .plain a k) (.load .plain (bB ρ a) k')
 |store {a:Addr} {v:Value} {k:Sem α} {k':Sem β} (h:aG ρ PL PM f k k'):aG ρ PL PM f (.store .plain a v k) (.store .plain (bB ρ a) (aE ρ v) k')
 |new {o:Obj} {k:Nat->Sem α} {k':Nat->Sem β} (ho:dj o=true) (h:∀b,aG ρ PL PM f (k b) (k' (ρ b))):aG ρ PL PM f (.new o k) (.new (fg ρ o) k')
 |shape {r:Nat} {k:Option (TypeId×Nat)->Sem α} {k':Option (TypeId×Nat)->Sem β} (h:∀s,aG ρ PL PM f (k s) (k' s)):aG ρ PL PM f (.shape r k) (.shape (ρ r) k')
 |freeze {a:Addr} {n:Nat} {k:Sem α} {k':Sem β} (h:aG ρ PL PM f k k'):aG ρ PL PM f (.freeze a n k) (.freeze (bB ρ a) n k')
 |frozen {a:Addr} {k:Bool->Sem α} {k':Bool->Sem β} (h:∀b,aG ρ PL PM f (k b) (k' b)):aG ρ PL PM f (.frozen a k) (.frozen (bB ρ a) k')
 |getObj {r:Nat} {k:Obj->Sem α} {k':Obj->Sem β} (h:∀o,dj o=true->aG ρ PL PM f (k o) (k' (fg ρ o))):aG ρ PL PM f (.getObj r k) (.getObj (ρ r) k')
 |setObj {r:Nat} {o:Obj} {k:Sem α} {k':Sem β} (ho:dj o=true) (h:aG ρ PL PM f k k'):aG ρ PL PM f (.setObj r o k) (.setObj (ρ r) (fg ρ o) k')
 |choose {q:Question} {k:Nat->Sem α} {k':Nat->Sem β} (h:∀n,aG ρ PL PM f (k n) (k' n)):aG ρ PL PM f (.choose q k) (.choose q k')
 |program {k:Program->Sem α} {k':Program->Sem β} (h:aG ρ PL PM f (k PL) (k' PM)):aG ρ PL PM f (.program k) (.program k')
 |mark {m:Mark} {k:Sem α} {k':Sem β} (hm:fO m=true) (h:aG ρ PL PM f k k'):aG ρ PL PM f (.mark m k) (.mark m k')
 |panic {v:Value} (h:bW v=true):aG ρ PL PM f (.halt (.panic v)) (.halt (.panic v))
 |dead {h:Halt} {s:Sem β} (d:fR h):aG ρ PL PM f (.halt h) s
 |deadMark {m:Mark} {h:Halt} {s:Sem β} (d:fR h):aG ρ PL PM f (.mark m (.halt h)) s
 |sys {c:Sys} {k:SysRet->Sem α} {s:Sem β} (d:∀r w,∃h w',(k r).run PL w= .halt h w'/\fR h/\(bE w->bE w')):aG ρ PL PM f (.sys c k) s
def aG.bind{j i e c}{f}{g}{s}{s'}{k:j->Sem e}{l:i->Sem c}(h:aG ρ PL PM f s s')(o:∀a,aG ρ PL PM g (k a) (l (f a))):aG ρ PL PM g (s>>=k) (s'>>=l):=by
 show aG ρ PL PM g (s.bind k) (s'.bind l);induction h with
 |pure a=>exact o a
 |load _ b=>exact .load b
 |store _ b=>exact .store (b)
 |new _ _ b=>exact .new ‹_› b
 |shape _ b=>exact .shape b
 |freeze _ b=>exact .freeze (b)
 |frozen _ b=>exact .frozen b
 |getObj _ b=>exact .getObj b
 |setObj _ _ b=>exact .setObj ‹_› b
 |choose _ b=>exact .choose b
 |program _ b=>exact .program (b)
 |mark _ _ b=>exact .mark ‹_› b
 |panic h=>exact .panic h
 |dead d=>exact .dead d
 |deadMark d=>exact .deadMark d
 |sys d=>
  refine .sys λr w=> ?_;have⟨x,m,n,p⟩:=d r w;exact⟨x,m,by rw[ah5,n];rfl,p⟩
def aV(G:Nat)(D:Nat->Prop)(ρ ρ':Nat->Nat):Prop:=((∀x y,ρ' x=ρ' y->x=y)/\∀b,b<G↔ρ' b<G)/\∀b,D b->ρ' b=ρ b
structure dp (G T:Nat) (D:Nat->Prop) (ρ:Nat->Nat) (wL wM:World):Prop where
 inj:∀x y,ρ x=ρ y->x=y
 obj:∀b,D b->∃o,wL.heap[b]?=some o/\dj o=true/\∀ρ',aV G D ρ ρ'->wM.heap[ρ b]?=some (fg ρ' o)
 tape:∀i,wL.drawn+i<T->wM.tape (wM.drawn+i)=wL.tape (wL.drawn+i)
 glob:∀b,b<G↔ρ b<G
 far:2<=G/\G<=wL.heap.size/\G<=wM.heap.size
 out:∀b,D b->G<=b
def mD(a b v:Nat):Nat:=if v=a then b else if v=b then a else v
def t5{a x y}(h:mD a b x=mD a b y):x=y:=by
 unfold mD at h
 grind
def nI(a b):mD a b a=b:=by simp[mD]
def Yq{a G}(h:b<G↔a<G)(v):v<G↔mD a b v<G:=by
 unfold mD
 grind
def oU{a v}(d:v≠a)(c:v≠b):mD a b v=v:=by simp[mD,d,c]
section
variable{G T:Nat}
def aK{o}(h:w.heap[b]?=some o):b<w.heap.size:=(gA h).1
def dp.self(h:dp G T D ρ wL wM):aV G D ρ ρ:=⟨⟨h.inj,h.glob⟩,o_⟩
def dp.ltL(h:dp G T D ρ wL wM)(a:D b):b<wL.heap.size:=let ⟨_,h1,_⟩:=h.obj b a;aK h1
def dp.ltM(h:dp G T D ρ wL wM)(a:D b):ρ b<wM.heap.size:=let ⟨_,_,_,h1⟩:=h.obj b a;aK (h1 ρ h.self)
def dp.dom(h:dp G T D ρ wL wM){x}(k:∀c,aV G D ρ c->c x=ρ x):D x:=by
 refine V8 λl=> ?_;obtain⟨y,j,f,d⟩:∃y,(wM.heap.size<=y\/y<G)/\y≠ρ x/\(y<G↔ρ x<G):=by
  have:=h.far;by_cases n:ρ x<G
  .by_cases i:ρ x=0
   .exact⟨1,o_,o_,o_⟩
   .exact⟨0,o_,o_,o_⟩
  .by_cases i:ρ x=wM.heap.size
   .exact⟨wM.heap.size+1,o_,o_,o_⟩
   grind
 have m:aV G D ρ (λz=>mD (ρ x) y (ρ z)):=by refine⟨⟨λa b e=>h.inj _ _ (t5 e),λb=>(h.glob b).trans (Yq d _)⟩,λb g=>oU (λe=>l (h.inj _ _ e▸g)) ?_⟩;have n:=h.ltM g;have p:=h.out b g;have o:=h.glob b;omega
 have:=k _ m;rw[nI]at this;exact f this
def dp.fresh(h:dp G T D ρ wL wM):∃a:Nat->Nat,((∀x y,a x=a y->x=y)/\∀b,b<G↔a b<G)/\a wL.heap.size=wM.heap.size/\∀b,D b->a b=ρ b:=
 ⟨λz=>mD (ρ wL.heap.size) wM.heap.size (ρ z),⟨λ_ _ e=>h.inj _ _ (t5 e),λb=>(h.glob b).trans (Yq (by have:=h.far;have:=h.glob wL.heap.size;omega) _)⟩,nI _ _,λb c=>oU (λe=>by have:=h.inj _ _ e;have:=h.ltL c;omega) (by have:=h.ltM c;omega)⟩
end
structure jz (G T:Nat) (D:Nat->Prop) (ρ:Nat->Nat) (wL wM:World) (D':Nat->Prop) (ρ':Nat->Nat) (wL' wM':World):Prop where
 rel:dp G T D' ρ' wL' wM'
 ext:∀b,D b->D' b/\ρ' b=ρ b
 new:∀b,D' b->D b\/(wL.heap.size<=b/\wM.heap.size<=ρ' b)
 size:wM.heap.size<=wM'.heap.size
 sizeL:wL.heap.size<=wL'.heap.size
 keep:∀r,r<wM.heap.size->(∀b,D b->ρ b≠r)->wM'.heap[r]?=wM.heap[r]?
 os:wM'.os=wM.os
 output:wM'.output=wM.output
 tape:wM'.tape=wM.tape
 tapeL:wL'.tape=wL.tape
 keepL:∀r,r<wL.heap.size->¬D r->wL'.heap[r]?=wL.heap[r]?
 newL:∀r,wL.heap.size<=r->r<wL'.heap.size->D' r
 drawn:wL.drawn<=wL'.drawn
 drew:wM'.drawn+wL.drawn=wL'.drawn+wM.drawn
def jz.refl{G T}{a}{wL b}(h:dp G T D a wL b):jz G T D a wL b D a wL b:=
 ⟨h,s_,λ_ c=> .inl c,o_,o_,s_,rfl,rfl,rfl,rfl,s_,o_,o_,o_⟩
def jz.trans{G T}{s q}{o j i}{wL p d k wL2 wM2}(h:jz G T D o wL p s j d k)(a:jz G T s j d k q i wL2 wM2):jz G T D o wL p q i wL2 wM2:=by
 refine⟨a.rel,λb e=> ?_,λb e=> ?_,yk h.size a.size,yk h.sizeL a.sizeL,λr l m=> ?_,a.os.trans h.os,a.output.trans h.output,a.tape.trans h.tape,a.tapeL.trans h.tapeL,λr l m=> ?_,λr c g=> ?_,yk h.drawn a.drawn,by have:=h.drew;have:=a.drew;omega⟩
 .obtain⟨c,g⟩:=h.ext b e;obtain⟨f,n⟩:=a.ext b c;simp_all
 .rcases a.new b e with c|⟨c,g⟩
  .rcases h.new b c with f|⟨f,n⟩
   .exact .inl f
   .exact .inr ⟨f,by rw[(a.ext b c).2];exact n⟩
  .exact .inr ⟨yk h.sizeL c,yk h.size g⟩
 .rw[a.keep r (mB l h.size) λb e=> ?_,h.keep r l m];rcases h.new b e with c|⟨_,g⟩
  .rw[(h.ext b c).2];exact m b c
  .omega
 .rw[a.keepL r (mB l h.sizeL) λe=> ?_,h.keepL r l m];rcases h.new r e with o_
  grind
 .by_cases f:r<d.heap.size
  .exact(a.ext r (h.newL r c f)).1
  .exact a.newL r o_ g
def jm(D:Nat->Prop)(ρ:Nat->Nat)(e:Event):Prop:=
 match e.loc with
 | .cell a=>e.sync=false/\∃b,D b/\ρ b=a.block
 | .obj r=>e.sync=false/\∃b,D b/\ρ b=r
 | .mark m=>fO m=true
 |_=>False
def jm.mono{D'}{d a}(h:jm D d e)(f:∀b,D b->D' b/\a b=d b):jm D' a e:=by
 obtain⟨c,k,l⟩:=e;cases c<;>simp[jm]at h⊢<;>first
  |exact h
  |grind
inductive DL (G:Nat) {α β:Type} (F:(Nat->Nat)->α->β) (D:Nat->Prop) (ρ:Nat->Nat):Result α->World->Result β->World->Prop
 |ok {a:α} {a':β} {wL wM:World} (h:∀ρ',aV G D ρ ρ'->a'=F ρ' a):DL G F D ρ (.ok a wL) wL (.ok a' wM) wM
 |panic {v:Value} {wL wM:World} (h:bW v=true):DL G F D ρ (.halt (.panic v) wL) wL (.halt (.panic v) wM) wM
def G8{α:Type}:Result α->World->Prop
 | .ok _ w,w'| .halt (.panic _) w,w'=>w'=w
 |_,_=>False
def sC:Value->Bool
 | .agg _| .tuple _=>false
 |_=>true
def Cn(a)(v):sC (aE a v)=sC v:=by cases v<;>simp[aE,sC]
section
variable{α β:Type}{p:Program}
def iL{m}{a}{k:Sem α}(hv:sC v=false):∃b,(an8 m a v k).run p w= .halt (.stuck b) w:=by cases v<;>simp[sC]at hv<;>exact⟨_,rfl⟩
def ic{m}{a}{k:Sem α}(hv:sC v=true):(an8 m a v k).run p w=match w.cell? a with
 |some _=>if w.frozen? a then .halt (.unsupported (.unsafePointer "a write to bytes that a string shares")) w else k.run p (w.setCell a v)
 |none=>match w.farStore p a v (m== .atomic)with
  | .ok (w,_)=>k.run p w
  | .error h=> .halt h w:=by cases v<;>simp[sC]at hv<;>rfl
def oY{m}{a}{k:Sem α}(hv:sC v=true):(an8 m a v k).runT p w es=match w.cell? a with
 |some _=>if w.frozen? a then(.halt (.unsupported (.unsafePointer "a write to bytes that a string shares")) w,es)else k.runT p (w.setCell a v) (es.push ⟨.cell a,true,m== .atomic⟩)
 |none=>match w.farStore p a v (m== .atomic)with
  | .ok (w,touched)=>k.runT p w (es++touched.toArray.map (⟨.cell ·,true,m== .atomic⟩))
  | .error h=>(.halt h w,es):=by cases v<;>simp[sC]at hv<;>rfl
end
section
variable{G T:Nat}
def I1{a}(h:w.cell? a=some v):∃c e f,w.heap[a.block]?=some (.cells c e f)/\a.spot=none/\c[a.off]?=some v:=by
 unfold AT at h;split at h
 .simp_all
 .cases h
def I3{a}{c}{e}{f}(h:w.heap[a.block]?=some (.cells c e f))(b:a.spot=none):w.cell? a=c[a.off]?:=by unfold AT;simp[h,b]
def zG(a)(v):(aE a v).bytes?=v.bytes?:=by cases v<;>simp[aE,Value.bytes?]
def Co(a)(v)(bs):(aE a v).ofBytes bs=v.ofBytes bs:=by cases v<;>simp[aE,an4]
def qA{u}{bs}(h:v.ofBytes bs=some u):∀a,aE a u=u:=by
 intro a;unfold an4 at h;split at h
 .split at h<;>first|(cases h;simp[aE];done)|cases h
 .split at h
  .cases h;simp[aE]
  .cases h
 .split at h
  .cases h;simp[aE]
  .cases h
 .split at h
  .cases h;simp[aE]
  .cases h
 .cases h
def qy(p)(b)(c)(e):∀f x a,seenCells p (c.map (aE b)) e f x a=seenCells p c e f x a
 |0,_,_=>rfl
 |f+1,x,a=>by
  unfold seenCells;simp[By,qy p b c e f];split
  .rfl
  split
  .rfl
  split
  .rfl
  rename_i i s _;cases c[i]? with
  |none=>rfl
  |some v=>simp[rN,zG]
def BU(p:Program)(g:Nat->Nat){a:Addr}{k:Addr}{b:Bool}{c:Array Value}{e:TypeId}{fr:Nat×Nat}(h:w.heap[a.block]?=some (.cells c e fr))(o:w'.heap[g a.block]?=some (.cells (c.map (aE g)) e fr)):
 w'.seen p (bB g a) u (bB g k) b=(w.seen p a u k b).map λx=>(x.1.map (aE g),x.2):=by
 unfold ai_;simp only[bB,h,o,qy];by_cases n:(k.spot.isSome||a.spot.isSome)=true
 .rw[if_pos n,if_pos n];rfl
 rw[if_neg n,if_neg n];cases plainCell p p.depth u k.off with
 |none=>rfl
 |some j=>
  dsimp only;cases ab1 (λx=>x.length) j.bytes? with
  |none=>rfl
  |some d=>
   dsimp only;cases byteOfCell p p.depth u k.off with
   |none=>rfl
   |some i=>
    dsimp only;by_cases m:p.cellsOf e=0
    .rw[if_pos m,if_pos m];rfl
    rw[if_neg m,if_neg m];cases byteOfCell p p.depth e (a.off%p.cellsOf e)with
    |none=>rfl
    |some l=>
     dsimp only;cases seenCells p c e (d+1) (a.off/p.cellsOf e*p.bytesOf e+l+i) (a.off/p.cellsOf e*p.bytesOf e+l+i+d)with
     |error x=>rfl
     |ok f=>
      cases b with
      |false=>rfl
      |true=>
       match f with
       |[]=>rfl
       |[(_,s,bs)]=>
        show(if (decide (s≠a.off/p.cellsOf e*p.bytesOf e+l+i)||decide (bs.length≠d))=true then _ else _)=ab2 _ (if (decide (s≠a.off/p.cellsOf e*p.bytesOf e+l+i)||decide (bs.length≠d))=true then _ else _);generalize (decide (s≠a.off/p.cellsOf e*p.bytesOf e+l+i)||decide (bs.length≠d))=q;cases q<;>rfl
       |_::_::_=>rfl
def nM{p}{d}{k}{b}{y}(a:w.seen p d u k b= .ok y):∃c e f,w.heap[d.block]?=some (.cells c e f):=by
 refine V8 λq=> ?_;unfold ai_ at a;by_cases j:(k.spot.isSome||d.spot.isSome)=true
 .rw[if_pos j]at a;cases a
 rw[if_neg j]at a;cases n:plainCell p p.depth u k.off with
 |none=>simp_all
 |some g=>
  simp[n]at a;cases m:ab1 (λx=>x.length) g.bytes? with
  |none=>simp_all
  |some i=>
   simp[m]at a;cases l:byteOfCell p p.depth u k.off with
   |none=>simp_all
   |some r=>
    simp_all
def A9(p)(g){a}{k}{b}{c}{e}{fr}(h:w.heap[a.block]?=some (.cells c e fr))(o:w'.heap[g a.block]?=some (.cells (c.map (aE g)) e fr)){j}(hv:w.viewLoad p a u k b= .ok (v,j)):
 w'.viewLoad p (bB g a) u (bB g k) b= .ok (v,j.map (bB g))/\(∀i,aE i v=v)/\∀x∈j,x.block=a.block:=by
 unfold ag0 at hv⊢;rw[BU p g h o];cases m:w.seen p a u k b with
 |error x=>rw[m]at hv;cases hv
 |ok y=>
  obtain⟨t,s,q,first,d,f⟩:=y;rw[m]at hv;simp[ab2,bind,ak8]at hv⊢;cases l:d.ofBytes (f.flatMap λx=>(x.2.2.drop (first- x.2.1)).take (first+((d.bytes?.map (·.length)).getD 0)- max first x.2.1))with
  |none=>simp_all
  |some r=>
   simp[l]at hv⊢;cases hv;refine⟨?_,qA l,λx n=> ?_⟩
   .simp[bB,pure,ak9,ai6]
   grind
def zw{b:Type}(a)(g:Array Value->b->Except String (Array Value))(d:∀c x,g (c.map (aE a)) x=(g c x).map (a14 (aE a))):∀(xs:List b) c,xs.foldlM g (c.map (aE a))=(xs.foldlM g c).map (a14 (aE a))
 |[],_=>rfl
 |x::xs,c=>by
  rw[ak0,ak0,d];cases g c x with
  |error y=>rfl
  |ok e=>exact zw a g d xs e
def jn(p:Program)(ρ:Nat->Nat){at_:Addr}{k:Addr}{b:Bool}{c:Array Value}{e:TypeId}{fr:Nat×Nat}(h:w.heap[at_.block]?=some (.cells c e fr))(h':w'.heap[ρ at_.block]?=some (.cells (c.map (aE ρ)) e fr)){w1:World}{tc:List Addr}(hv:w.viewStore p at_ u k v b= .ok (w1,tc)):
 ∃c1,w1={w with heap:=w.heap.setIfInBounds at_.block (.cells c1 e fr)}/\w'.viewStore p (bB ρ at_) u (bB ρ k) (aE ρ v) b= .ok ({w' with heap:=w'.heap.setIfInBounds (ρ at_.block) (.cells (c1.map (aE ρ)) e fr)},tc.map (bB ρ))/\∀x∈tc,x.block=at_.block:=by
 have hce:∀y,w.seen p at_ u k b= .ok y->y.1=c/\y.2.1=e/\y.2.2.1=fr:=by
  intro y hy;unfold ai_ at hy;simp only[h]at hy;by_cases hk:(k.spot.isSome||at_.spot.isSome)=true
  .rw[if_pos hk]at hy;cases hy
  rw[if_neg hk]at hy;cases h1:plainCell p p.depth u k.off with
  |none=>rw[h1]at hy;cases hy
  |some like=>
   simp only[h1]at hy;cases h2:ab1 (λx=>x.length) like.bytes? with
   |none=>simp only[h2]at hy;cases hy
   |some size=>
    simp only[h2]at hy;cases h3:byteOfCell p p.depth u k.off with
    |none=>simp only[h3]at hy;cases hy
    |some β=>
     simp only[h3]at hy;by_cases hs:p.cellsOf e=0
     .rw[if_pos hs]at hy;cases hy
     rw[if_neg hs]at hy;cases h4:byteOfCell p p.depth e (at_.off%p.cellsOf e)with
     |none=>simp only[h4]at hy;cases hy
     |some b0=>
      simp only[h4]at hy;cases h5:seenCells p c e (size+1) (at_.off/p.cellsOf e*p.bytesOf e+b0+β) (at_.off/p.cellsOf e*p.bytesOf e+b0+β+size)with
      |error x=>simp only[h5]at hy;cases hy
      |ok cells=>
       simp only[h5]at hy;cases b with
       |false=>cases hy;exact⟨rfl,rfl,rfl⟩
       |true=>
        match cells,hy with
        |[],hy=>cases hy
        |[(_,s,bs)],hy=>
         dsimp only[bind,ak8]at hy;rw[if_pos rfl]at hy;split at hy
         .cases hy
         .cases hy;exact⟨rfl,rfl,rfl⟩
        |_::_::_,hy=>cases hy
 unfold a61 at hv⊢;rw[BU p ρ h h',zG];by_cases ht:(!tight p p.depth u)=true
 .rw[if_pos ht]at hv;cases hv
 rw[if_neg ht]at hv⊢;cases hq:w.seen p at_ u k b with
 |error x=>rw[hq]at hv;cases hv
 |ok y=>
  obtain⟨h1,h2,h3⟩:=hce y hq;obtain⟨c1,e1,fr1,first,like,cells⟩:=y;dsimp only at h1 h2 h3;subst h1 h2 h3;rw[hq]at hv;simp only[ab2,bind,ak8]at hv⊢;cases hb:v.bytes? with
  |none=>simp only[hb]at hv;cases hv
  |some bytes=>
   simp only[hb]at hv⊢;by_cases hn:some bytes.length≠ab1 (λx=>x.length) like.bytes?
   .rw[if_pos hn]at hv;cases hv
   rw[if_neg hn]at hv⊢;rw[zw ρ]
   .generalize (List.foldlM (m:=Except String) _ c1 cells)=q at hv⊢;cases q with
    |error x=>cases hv
    |ok c2=>
     cases hv;refine⟨c2,rfl, ?_,λx hx=> ?_⟩
     .simp[bB,pure,ak9,ab2,ai6]
     .obtain⟨y,_,rfl⟩:=ZA.1 hx;rfl
   .intro c x;by_cases h1:(decide (x.2.1<first)||decide (x.2.1+x.2.2.length>first+bytes.length))=true
    .rw[if_pos h1,if_pos h1];rfl
    rw[if_neg h1,if_neg h1];by_cases h2:(decide (fr1.1<=x.1)&&decide (x.1<fr1.2))=true
    .rw[if_pos h2,if_pos h2];rfl
    rw[if_neg h2,if_neg h2,By];cases c[x.1]? with
    |none=>rfl
    |some old=>
     simp only[rN,Co];cases ho:old.ofBytes (List.take x.2.2.length (List.drop (x.2.1- first) bytes))with
     |none=>rfl
     |some new=>
      simp[pure,ak9,ab2,a02,qA ho ρ]
def dp.turn(h:dp G T D ρ wL wM)(d:D b){wL' wM'}{o o'}(A:dj o=true)(B:∀a,aV G D ρ a->o'=fg a o)
 (F:wL'.heap[b]?=some o) (E:wM'.heap[ρ b]?=some o') (q:∀k,k≠b->wL'.heap[k]?=wL.heap[k]?) (p:∀k,k≠ρ b->wM'.heap[k]?=wM.heap[k]?)
 (w:wL'.heap.size=wL.heap.size) (v:wM'.heap.size=wM.heap.size) (n:wL'.tape=wL.tape) (m:wM'.tape=wM.tape) (u:wL'.drawn=wL.drawn) (I:wM'.drawn=wM.drawn) (g:wM'.os=wM.os) (f:wM'.output=wM.output):
 jz G T D ρ wL wM D ρ wL' wM':=by
 refine⟨⟨h.inj,λx z=> ?_,λi C=>by rw[n,m,u,I];exact h.tape i o_,h.glob,by rw[w,v];exact h.far,h.out⟩,s_,λ_ d=> .inl d,o_,o_,λr _ j=>p r λe=>j b d e.symm,g,f,m,n,λr _ j=>q r λe=>j (e▸d),o_,o_,o_⟩;by_cases c:x=b
 .grind
 .obtain⟨y,t,s,H⟩:=h.obj x z;exact⟨y,by simp_all,s,λa l=>by rw[p _ λe=>c (h.inj _ _ e)];exact H a l⟩
def dp.viewDom(h:dp G T D ρ wL wM)(f:D b){a}(g:wL.heap[b]?=some (.view a u)):D a.block:=by obtain⟨o,e,_,d⟩:=h.obj b f;rw[g]at e;cases e;refine h.dom λc i=> ?_;have:=(d c i).symm.trans (d ρ h.self);simp[fg,Option.some.injEq,Obj.view.injEq,and_true]at this;exact congrArg ab3 this
def yb(h:dp G T D ρ wL wM){p}{a}{k}(t:D a.block){m}(hv:wL.farLoad p a k= .ok (v,m)):
 wM.cell? (bB ρ a)=none/\wM.farLoad p (bB ρ a) k= .ok (v,m.map (bB ρ))/\(∀l,aE l v=v)/\∀x∈m,D x.block:=by
 obtain⟨o,w,C,E⟩:=h.obj _ t;have g:=E ρ h.self;unfold YW at hv⊢;cases o<;>simp[dj]at C<;>simp[w]at hv<;>first|(cases hv;done)|skip
 rename_i b u;have r:=h.viewDom t w;cases d:wL.viewLoad p b u a k with
 |error x=>simp_all
 |ok y=>
  rw[d]at hv;cases hv;obtain⟨J,i,B,n⟩:=h.obj _ r;obtain⟨c,e,f,s⟩:∃c e f,wL.heap[b.block]?=some (.cells c e f):=by
   unfold ag0 at d;cases q:wL.seen p b u a k with
   |error x=>rw[q]at d;cases d
   |ok z=>exact nM q
  rw[i]at s;cases s;obtain⟨I,H,F⟩:=A9 p ρ i (n ρ h.self) d;refine⟨?_, ?_,H,λx A=>by simp_all⟩
  .unfold AT;simp[bB,g,fg]
  .simp[bB,g,fg];have j:=I;simp[bB]at j;rw[j]
def xn(h:dp G T D ρ wL wM){p}{a}{bb}(hb:D a.block){w1}{tc}(hsame:∀ρ',aV G D ρ ρ'->aE ρ' v=aE ρ v)(hv:wL.farStore p a v bb= .ok (w1,tc)):
 ∃wM1,wM.cell? (bB ρ a)=none/\wM.farStore p (bB ρ a) (aE ρ v) bb= .ok (wM1,tc.map (bB ρ))/\jz G T D ρ wL wM D ρ w1 wM1/\∀x∈tc,D x.block:=by
 obtain⟨o,hL,hq,hM⟩:=h.obj _ hb;have hM0:=hM ρ h.self;unfold XC at hv⊢;cases o<;>simp[dj]at hq<;>simp[hL]at hv<;>first|(cases hv;done)|skip
 rename_i at_ u;have hd:=h.viewDom hb hL;cases hl:wL.viewStore p at_ u a v bb with
 |error x=>simp_all
 |ok y=>
  rw[hl]at hv;cases hv;obtain⟨o2,hL2,hq2,hM2⟩:=h.obj _ hd;obtain⟨c,e,f,hc⟩:∃c e f,wL.heap[at_.block]?=some (.cells c e f):=by
   unfold a61 at hl;by_cases ht:(!tight p p.depth u)=true
   .rw[if_pos ht]at hl;cases hl
   rw[if_neg ht]at hl;cases hs:wL.seen p at_ u a bb with
   |error x=>rw[hs]at hl;cases hl
   |ok z=>exact nM hs
  rw[hL2]at hc;cases hc;obtain⟨c1,rfl,h1,h3⟩:=jn p ρ hL2 (hM2 ρ h.self) hl;refine⟨{wM with heap:=wM.heap.setIfInBounds (ρ at_.block) (.cells (c1.map (aE ρ)) e f)}, ?_, ?_,h.turn hd (o:= .cells c1 e f) (o':= .cells (c1.map (aE ρ)) e f) rfl (λρ' hA=> ?_) ?_ ?_ (λk hk=> ?_) (λk hk=> ?_) s_ s_ rfl rfl rfl rfl rfl rfl,λx hx=>by simp_all⟩
  .unfold AT;simp[bB,hM0,fg]
  .simp[bB,hM0,fg];have h1':=h1;simp[bB]at h1';rw[h1']
  .obtain⟨c1',he,h1'',_⟩:=jn p ρ' hL2 (by rw[hA.2 _ hd];exact hM2 ρ' hA) hl;have e1:bB ρ' at_=bB ρ at_:=(by simp[bB,hA.2 _ hd]);have e2:bB ρ' a=bB ρ a:=(by simp[bB,hA.2 _ hb]);rw[e1,e2,hsame ρ' hA,h1,hA.2 _ hd]at h1'';have ec:c1'=c1:=by
    have h5:=congrArg (λw=>w.heap[at_.block]?) he
    grind
   subst ec;simp at h1'';have h6:=congrArg (λhp=>hp[ρ at_.block]?) h1''.1;simp only[AI (aK (hM2 ρ h.self)),Option.some.injEq]at h6;exact h6
  .grind
  .simp[aK (hM2 ρ h.self)]
  .grind
  .grind
def aV.of_ran{D'}{a c}{wL' wM'}(h:jz G T D ρ wL wM D' a wL' wM')(e:aV G D' a c):aV G D ρ c:=
 ⟨e.1,λb d=>(e.2 b (h.ext b d).1).trans (h.ext b d).2⟩
end
section
variable{α β:Type}
def mf{xs:Array Obj}{f}(h:k≠i):(xs.modify i f)[k]?=xs[k]?:=by grind
def wo{xs:Array Obj}{o}(h:k≠i):(xs.setIfInBounds i o)[k]?=xs[k]?:=by grind
def yY(a)(o):dj (fg a o)=dj o:=by
 cases o with
 |deferred b=>rcases b with _|_|⟨_,_⟩<;>rfl
 |_=>rfl
def wN{o}(h:dj o=true):o.isChan=false:=by cases o<;>simp[dj]at h<;>rfl
def ew{F}{G T}{k}{l d}{wL i g c}(n:jz G T D l wL i k d g c){s' s1:Sem β}{es1}{r:Result α}{wL'}
 (q:s'.runT PM i es=s1.runT PM c (es++es1)) (o:∀e∈es1,jm k d e)
 (h:∃D' a f wM' b,s1.runT PM c (es++es1)=(f,es++es1++b)/\DL G F D' a r wL' f wM'/\jz G T k d g c D' a wL' wM'/\∀e∈b,jm D' a e):
 ∃D' a f wM' b,s'.runT PM i es=(f,es++b)/\DL G F D' a r wL' f wM'/\jz G T D l wL i D' a wL' wM'/\∀e∈b,jm D' a e:=by
 obtain⟨D',a,f,wM',b,t,p,m,s⟩:=h;refine⟨D',a,f,wM',es1++b,by grind,p,n.trans m,λe j=> ?_⟩;rcases JY.1 j with j|j
 .exact(o e j).mono m.ext
 .grind
def tD{x}(h:∀v,x≠ .panic v)(a:G8 (α:=α) (.halt x w) w'):False:=by cases x<;>first|exact a|exact h _ rfl
def YL{x}(h:fR x)(a:G8 (α:=α) (.halt x w) w'):False:=tD (λv e=>by rw[e]at h;exact h) a
def zj(w:World)(a)(b)(v):w.noCell a b≠ .panic v:=by unfold ao2;split<;>simp
def rn{p}{a}{b}{x}(e:w.farLoad p a b= .error x)(v):x≠ .panic v:=by
 unfold YW at e;split at e
 .grind
 .cases e;exact zj _ _ _ v
def CR{p}{a}{b}{x}(e:w.farStore p a v b= .error x)(u):x≠ .panic u:=by
 unfold XC at e;split at e
 .grind
 .cases e;exact zj _ _ _ u
def MI{b}{c:List Addr}{f}(h:∀x∈c,D x.block):∀e∈(c.map (bB b)).toArray.map (λa=>(⟨.cell a,f,false⟩:Event)),jm D b e:=by intro e d;simp only[List.map_toArray,List.mem_toArray,ZA]at d;obtain⟨a,⟨x,g,rfl⟩,rfl⟩:=d;exact⟨rfl,x.block,h x g,rfl⟩
def eH(hV:∀w a b,YW PM w a b=YW PL w a b)(hS:∀w a v b,XC PM w a v b=XC PL w a v b){G T:Nat}(F:(Nat->Nat)->α->β):∀(s:Sem α) (s':Sem β) (D:Nat->Prop) (l:Nat->Nat) (wL C:World),dp G T D l wL C->(∀g,aV G D l g->aG g PL PM (F g) s s')->
 ∀(es:Array Event) (r:Result α) (wL':World),s.run PL wL=r->G8 r wL'->wL'.drawn<=T->
  ∃D' g r' wM' a8,s'.runT PM C es=(r',es++a8)/\DL G F D' g r wL' r' wM'/\jz G T D l wL C D' g wL' wM'/\∀e∈a8,jm D' g e:=by
 intro s;induction s with
 |pure a=>
  intro s' D l wL C z H es r wL' j I M;cases H l z.self;subst j;have:wL'=wL:=I;subst this;refine⟨D,l, .ok (F l a) C,C,#[],by simp[Mu], .ok λg A=> ?_,jz.refl z,λe J=>by simp at J⟩;have:=H g A;generalize F l a=x at this;cases this;rfl
 |load m a k O=>
  intro s' D l wL C z H es r wL' j I M;cases H l z.self with
  | @load _ _ E h0=>
    have B:D a.block:=z.dom λg A=>by have:=H g A;generalize Q:bB l a=x at this;cases this;exact congrArg ab3 Q.symm
    obtain⟨o,U,R,P⟩:=z.obj _ B;rw[J2]at j;cases Y:wL.cell? a with
    |none=>
     simp only[Y]at j;cases Q:wL.farLoad PL a (a81==a69)with
     |error x=>
      rw[Q]at j;subst j;exact(tD (rn Q) I).elim
     |ok y=>
      obtain⟨v,tc⟩:=y;rw[Q]at j;obtain⟨f1,f2,f3,f4⟩:=yb z B Q;refine ew (jz.refl z) (s1:=E v) (es1:=(tc.map (bB l)).toArray.map (⟨.cell ·,false,false⟩)) ?_ (MI f4) (O v (E v) D l wL C z (λg A=> ?_) _ r wL' j I M)
      .rw[Mu,f1];simp only;rw[hV,f2];rfl
      .have:=H g A;generalize bB l a=x at this;cases this with
       |load h=>
        have:=h v
        rwa [f3 g]at this
    |some v=>
     simp only[Y]at j;obtain⟨c,e,f,L,hs,hv⟩:=I1 Y;rw[U]at L;cases L;have a2:∀g,aV G D l g->C.cell? (bB l a)=some (aE g v):=λg A=>by rw[I3 (w:=C) (a:=bB l a) (P g A) hs];show(c.map (aE g))[a.off]?=_;rw[By,hv];rfl
     have V:∀g,aV G D l g->aE g v=aE l v:=λg A=>Option.some.inj ((a2 g A).symm.trans (a2 l z.self));refine ew (jz.refl z) (s1:=E (aE l v)) (es1:=#[⟨.cell (bB l a),false,false⟩]) ?_ ?_ (O v (E (aE l v)) D l wL C z (λg A=> ?_) _ r wL' j I M)
     .rw[Mu,a2 l z.self];rfl
     .intro e J;simp at J;subst J;exact⟨rfl,a.block,B,rfl⟩
     .have:=H g A;rw[←V g A];generalize bB l a=x at this;cases this with
      |load h=>exact h v
 |store m a v k O=>
  intro s' D l wL C z H es r wL' j I M;cases H l z.self with
  | @store _ _ _ E h0=>
    have t:∀g,aV G D l g->bB l a=bB g a/\aE l v=aE g v/\aG g PL PM (F g) k E:=λg A=>by
     have:=H g A;generalize Q:bB l a=x at this;generalize hy:aE l v=y at this;cases this with
     |store h=>exact⟨rfl,rfl,h⟩
    have B:D a.block:=z.dom λg A=>(congrArg ab3 (t g A).1).symm;obtain⟨o,U,R,P⟩:=z.obj _ B;cases X:sC v with
    |false=>
     obtain⟨ac,hw⟩:=iL (p:=PL) (w:=wL) (m:= .plain) (a:=a) (k:=k) X;rw[hw]at j;subst j;exact I.elim
    |true=>
     rw[ic X]at j;cases Y:wL.cell? a with
     |none=>
      simp only[Y]at j;cases Q:wL.farStore PL a v (a81==a69)with
      |error x=>
       rw[Q]at j;subst j;exact(tD (CR Q) I).elim
      |ok y=>
       obtain⟨w1,tc⟩:=y;rw[Q]at j;obtain⟨ad,f1,f2,f3,f4⟩:=xn z B (λg A=>(t g A).2.1.symm) Q;refine ew f3 (s1:=E) (es1:=(tc.map (bB l)).toArray.map (⟨.cell ·,true,false⟩)) ?_ (MI f4) (O E D l _ _ f3.rel (λg A=>(t g A).2.2) _ r wL' j I M);rw[oY (by rw[Cn];exact X),f1];simp only;rw[hS,f2];rfl
     |some u=>
      simp only[Y]at j;obtain⟨c,e,f,L,hs,hv⟩:=I1 Y;rw[U]at L;cases L;by_cases hf:wL.frozen? a=true
      .rw[if_pos hf]at j;subst j;exact I.elim
      .rw[if_neg hf]at j;have a2:C.cell? (bB l a)=some (aE l u):=by rw[I3 (w:=C) (a:=bB l a) (P l z.self) hs];show(c.map (aE l))[a.off]?=_;rw[By,hv];rfl
       have ab:C.frozen? (bB l a)=wL.frozen? a:=by have:=P l z.self;unfold If;simp only[bB,U,this,fg];rfl
       have K:jz G T D l wL C D l (wL.setCell a v) (C.setCell (bB l a) (aE l v)):=by
        refine z.turn B (o:= .cells (c.setIfInBounds a.off v) e f) (o':= .cells ((c.map (aE l)).setIfInBounds a.off (aE l v)) e f) rfl (λg A=> ?_) ?_ ?_ (λk hk=> ?_) (λk hk=> ?_) (by simp[JX]) (by simp[JX]) rfl rfl rfl rfl rfl rfl
        .have Z:=(P g A).symm.trans (P l z.self);simp only[fg,Option.some.injEq,Obj.cells.injEq,and_true]at Z;simp only[fg,Obj.cells.injEq,and_true];rw[←Z,(t g A).2.1,a02]
        .simp[JX,Zv,U,hs]
        .have:=P l z.self;simp[JX,Zv,bB,this,hs,fg]
        .exact mf hk
        .exact mf hk
       refine ew K (s1:=E) (es1:=#[⟨.cell (bB l a),true,false⟩]) ?_ ?_ (O E D l _ _ K.rel (λg A=>(t g A).2.2) _ r wL' j I M)
       .rw[oY (by rw[Cn];exact X),a2,ab];simp only[hf];rfl
       .intro e J;simp at J;subst J;exact⟨rfl,a.block,B,rfl⟩
 |new o k O=>
  intro s' D l wL C z H es r wL' j I M;cases H l z.self with
  | @new _ _ E R h0=>
    have t:∀g,aV G D l g->fg l o=fg g o/\∀b,aG g PL PM (F g) (k b) (E (g b)):=λg A=>by
     have:=H g A;generalize Q:fg l o=x at this;cases this with
     |new _ h=>exact⟨rfl,h⟩
    obtain⟨a5,hi,hn,J⟩:=z.fresh;have a6:∀g,aV G (λb=>D b\/b=wL.heap.size) a5 g->aV G D l g:=λg A=>⟨A.1,λb L=>(A.2 b (.inl L)).trans (J b L)⟩;have S:jz G T D l wL C (λb=>D b\/b=wL.heap.size) a5 {wL with heap:=wL.heap.push o} {C with heap:=C.heap.push (fg l o)}:=by
     refine⟨⟨hi.1,λb L=> ?_,z.tape,hi.2,by have:=z.far;simp only[al4];omega,λb L=> ?_⟩,λb L=>⟨.inl L,J b L⟩,λb L=> ?_,s_,s_,λr hr _=> ?_,rfl,rfl,rfl,rfl,λr hr _=> ?_,λr Z h2=> .inr (by simp only[al4]at h2;omega),oS _,Nat.add_comm _ _⟩
     .rcases L with L|rfl
      .obtain⟨ob,Z,h2,h3⟩:=z.obj b L;refine⟨ob, ?_,h2,λg A=> ?_⟩
       .rw[Zq,if_neg (by have:=aK Z;omega)];exact Z
       .rw[J b L,Zq,if_neg (by have:=z.ltM L;omega)];exact h3 g (a6 g A)
      .refine⟨o,s_,R,λg A=> ?_⟩;rw[hn,(t g (a6 g A)).1];simp
     .rcases L with L|rfl
      .exact z.out b L
      .exact z.far.2.1
     .rcases L with L|rfl
      .exact .inl L
      .exact .inr ⟨oS _,by rw[hn];exact oS _⟩
     .rw[Zq,if_neg o_]
     .rw[Zq,if_neg o_]
    refine ew S (s1:=E C.heap.size) (es1:=#[]) (by simp[Mu]) (λe J=>by simp at J) (O wL.heap.size (E C.heap.size) _ a5 _ _ S.rel (λg A=> ?_) _ r wL' j I M);have Z:=(t g (a6 g A)).2 wL.heap.size;rwa [A.2 _ (.inr rfl),hn]at Z
 |shape N k O=>
  intro s' D l wL C z H es r wL' j I M;cases H l z.self with
  | @shape _ _ E h0=>
    have t:∀g,aV G D l g->l N=g N/\∀b,aG g PL PM (F g) (k b) (E b):=λg A=>by
     have:=H g A;generalize Q:l N=x at this;cases this with
     |shape h=>exact⟨rfl,h⟩
    have B:D N:=z.dom λg A=>(t g A).1.symm;obtain⟨o,U,R,P⟩:=z.obj _ B;have a9:C.shape? (l N)=wL.shape? N:=by have:=P l z.self;unfold World.shape?;rw[U,this];cases o<;>simp[dj]at R<;>simp[fg]
    refine ew (jz.refl z) (s1:=E (wL.shape? N)) (es1:=#[]) (by simp[Mu,a9]) (λe J=>by simp at J) (O _ (E (wL.shape? N)) D l wL C z (λg A=>(t g A).2 _) _ r wL' j I M)
 |freeze a n k O=>
  intro s' D l wL C z H es r wL' j I M;cases H l z.self with
  | @freeze _ _ _ E h0=>
    have t:∀g,aV G D l g->bB l a=bB g a/\aG g PL PM (F g) k E:=λg A=>by
     have:=H g A;generalize Q:bB l a=x at this;cases this with
     |freeze h=>exact⟨rfl,h⟩
    have B:D a.block:=z.dom λg A=>(congrArg ab3 (t g A).1).symm;obtain⟨o,U,R,P⟩:=z.obj _ B;have K:jz G T D l wL C D l (wL.freeze a n) (C.freeze (bB l a) n):=by
     by_cases hn:n=0
     .have e1:wL.freeze a n=wL:=(by simp[a17,hn]);have e2:C.freeze (bB l a) n=C:=(by simp[a17,hn]);rw[e1,e2];exact jz.refl z
     .have a4:=P l z.self;refine z.turn B (o:=match o with| .cells c a3 (lo,hi)=> .cells c a3 (if lo==hi then(a.off,a.off+n)else(min lo a.off,max hi (a.off+n)))|o=>o) (o':=match fg l o with| .cells c a3 (lo,hi)=> .cells c a3 (if lo==hi then(a.off,a.off+n)else(min lo a.off,max hi (a.off+n)))|o=>o) ?_ (λg A=> ?_) ?_ ?_ (λk hk=> ?_) (λk hk=> ?_) ?_ ?_ ?_ ?_ ?_ ?_ ?_ ?_
      .cases o<;>first|exact R|(simp[dj]at R;done)|rfl
      .have Z:=(P g A).symm.trans (P l z.self);rw[Option.some.injEq]at Z;rw[←Z];cases o<;>simp[dj]at R<;>rfl
      .simp only[a17,if_neg hn,Zv,U];cases o<;>simp[dj]at R<;>simp
      .simp only[a17,if_neg hn,Zv,bB,a4];cases o<;>simp[dj]at R<;>simp[fg]
      .simp only[a17,if_neg hn];exact mf hk
      .simp only[a17,if_neg hn];exact mf hk
      all_goals simp[a17,hn]
    refine ew K (s1:=E) (es1:=#[]) (by simp[Mu]) (λe J=>by simp at J) (O E D l _ _ K.rel (λg A=>(t g A).2) _ r wL' j I M)
 |frozen a k O=>
  intro s' D l wL C z H es r wL' j I M;cases H l z.self with
  | @frozen _ _ E h0=>
    have t:∀g,aV G D l g->bB l a=bB g a/\∀b,aG g PL PM (F g) (k b) (E b):=λg A=>by
     have:=H g A;generalize Q:bB l a=x at this;cases this with
     |frozen h=>exact⟨rfl,h⟩
    have B:D a.block:=z.dom λg A=>(congrArg ab3 (t g A).1).symm;obtain⟨o,U,R,P⟩:=z.obj _ B;have aa:C.frozen? (bB l a)=wL.frozen? a:=by have:=P l z.self;unfold If;simp only[bB,U,this];cases o<;>simp[dj]at R<;>rfl
    refine ew (jz.refl z) (s1:=E (wL.frozen? a)) (es1:=#[]) (by simp[Mu,aa]) (λe J=>by simp at J) (O _ (E (wL.frozen? a)) D l wL C z (λg A=>(t g A).2 _) _ r wL' j I M)
 |getObj N k O=>
  intro s' D l wL C z H es r wL' j I M;cases H l z.self with
  | @getObj _ _ E h0=>
    have t:∀g,aV G D l g->l N=g N/\∀o,dj o=true->aG g PL PM (F g) (k o) (E (fg g o)):=λg A=>by
     have:=H g A;generalize Q:l N=x at this;cases this with
     |getObj h=>exact⟨rfl,h⟩
    have B:D N:=z.dom λg A=>(t g A).1.symm;obtain⟨o,U,R,P⟩:=z.obj _ B;have V:∀g,aV G D l g->fg g o=fg l o:=λg A=>Option.some.inj ((P g A).symm.trans (P l z.self));rw[J2,U]at j;have a1:∀c e f,o≠ .cells c e f:=λc e f h=>by subst h;simp only at j;subst j;exact I.elim
    have W:(k o).run PL wL=r:=by cases o<;>first|exact j|exact absurd rfl (a1 _ _ _)
    refine ew (jz.refl z) (s1:=E (fg l o)) (es1:=#[⟨.obj (l N),false,false⟩]) ?_ ?_ (O o (E (fg l o)) D l wL C z (λg A=>by rw[←V g A];exact(t g A).2 o R) _ r wL' W I M)
    .have:=P l z.self;have Y:=wN (o:=fg l o) (by rw[yY];exact R);rw[Mu,this];cases o<;>simp[dj]at R<;>first|exact absurd rfl (a1 _ _ _)|(simp only[fg]at Y⊢;rw[Y];rfl)
    .intro e J;simp at J;subst J;exact⟨rfl,N,B,rfl⟩
 |setObj N o k O=>
  intro s' D l wL C z H es r wL' j I M;cases H l z.self with
  | @setObj _ _ _ E a7 h0=>
    have t:∀g,aV G D l g->l N=g N/\fg l o=fg g o/\aG g PL PM (F g) k E:=λg A=>by
     have:=H g A;generalize Q:l N=x at this;generalize hy:fg l o=y at this;cases this with
     |setObj _ h=>exact⟨rfl,rfl,h⟩
    have B:D N:=z.dom λg A=>(t g A).1.symm;obtain⟨o0,U,R,P⟩:=z.obj _ B;rw[J2,U]at j;have a1:∀c e f,o0≠ .cells c e f:=λc e f h=>by subst h;simp only at j;subst j;exact I.elim
    have W:k.run PL {wL with heap:=wL.heap.setIfInBounds N o}=r:=by cases o0<;>first|exact j|exact absurd rfl (a1 _ _ _)
    have a4:=P l z.self;have K:jz G T D l wL C D l {wL with heap:=wL.heap.setIfInBounds N o} {C with heap:=C.heap.setIfInBounds (l N) (fg l o)}:=by
     refine z.turn B (o:=o) (o':=fg l o) a7 (λg A=>(t g A).2.1) ?_ ?_ (λk hk=> ?_) (λk hk=> ?_) s_ s_ rfl rfl rfl rfl rfl rfl
     .simp[aK U]
     .simp[aK a4]
     .exact wo hk
     .exact wo hk
    refine ew K (s1:=E) (es1:=#[⟨.obj (l N),true,false⟩]) ?_ ?_ (O E D l _ _ K.rel (λg A=>(t g A).2.2) _ r wL' W I M)
    .have Y:=wN (o:=fg l o) (by rw[yY];exact a7);generalize fg l o=x at Y⊢;rw[Mu,a4];cases o0<;>simp[dj]at R<;>first|exact absurd rfl (a1 _ _ _)|(simp only[fg,Y];rfl)
    .intro e J;simp at J;subst J;exact⟨rfl,N,B,rfl⟩
 |choose q k O=>
  intro s' D l wL C z H es r wL' j I M;cases H l z.self with
  | @choose _ _ E h0=>
    have t:∀g,aV G D l g->∀b,aG g PL PM (F g) (k b) (E b):=λg A=>by
     cases H g A with
     |choose h=>exact h
    rw[J2]at j;by_cases hf:q.forced=true
    .rw[if_pos hf]at j;refine ew (jz.refl z) (s1:=E 0) (es1:=#[]) (by simp[Mu,hf]) (λe J=>by simp at J) (O 0 (E 0) D l wL C z (λg A=>t g A 0) _ r wL' j I M)
    .rw[if_neg hf]at j;have S:jz G T D l wL C D l {wL with drawn:=wL.drawn+1} {C with drawn:=C.drawn+1}:=by refine⟨⟨z.inj,z.obj,λi hi=> ?_,z.glob,z.far,z.out⟩,λ_ L=>⟨L,rfl⟩,λ_ L=> .inl L,oS _,oS _,λ_ _ _=>rfl,rfl,rfl,rfl,rfl,λ_ _ _=>rfl,λr Z h2=>absurd h2 (a29.2 Z),Nat.le_succ _,by show C.drawn+1+wL.drawn=wL.drawn+1+C.drawn;omega⟩;have:=z.tape (1+i) (by have:wL.drawn+1+i<T:=hi;omega);rwa [←ad3,←ad3]at this
     have a0:=λes1=>O _ (E (q.cut (wL.tape wL.drawn q))) D l _ _ S.rel (λg A=>t g A _) es1 r wL' j I M;have ht:C.tape C.drawn=wL.tape wL.drawn:=by obtain⟨_,_,_,_,_,_,_,h3,_⟩:=a0 #[];have:wL.drawn+1<=wL'.drawn:=h3.drawn;exact z.tape 0 o_
     exact ew S (s1:=E (q.cut (wL.tape wL.drawn q))) (es1:=#[]) (by simp[Mu,hf,ht]) (λe J=>by simp at J) (a0 _)
 |sys c k O=>
  intro s' D l wL C z H es r wL' j I M;cases H l z.self with
  |sys d=>
   obtain⟨x,w',Q,hd,_⟩:=d (wL.sys c).1 (wL.sys c).2;rw[J2,Q]at j;subst j;exact(YL hd I).elim
 |program k O=>
  intro s' D l wL C z H es r wL' j I M;cases H l z.self with
  | @program _ E h0=>
    have t:∀g,aV G D l g->aG g PL PM (F g) (k PL) (E PM):=λg A=>by
     cases H g A with
     |program h=>exact h
    exact ew (jz.refl z) (s1:=E PM) (es1:=#[]) (by simp[Mu]) (λe J=>by simp at J) (O PL (E PM) D l wL C z t _ r wL' j I M)
 |mark m k O=>
  intro s' D l wL C z H es r wL' j I M;cases H l z.self with
  | @mark _ _ E hm h0=>
    have t:∀g,aV G D l g->aG g PL PM (F g) k E:=λg A=>by
     cases H g A with
     |mark _ h=>exact h
     |deadMark d=>rw[J2,J2]at j;subst j;exact(YL d I).elim
    refine ew (jz.refl z) (s1:=E) (es1:=#[⟨.mark m,false,true⟩]) rfl ?_ (O E D l wL C z t _ r wL' j I M);intro e J;simp at J;subst J;exact hm
  |deadMark d=>rw[J2,J2]at j;subst j;exact(YL d I).elim
 |halt h=>
  intro s' D l wL C z H es r wL' j I M;subst j;cases H l z.self with
  | @panic v hp=>
    have:wL'=wL:=I;subst this;exact⟨D,l,_,C,#[],by simp[Mu], .panic hp,jz.refl z,λe J=>by simp at J⟩
  |dead d=>exact(YL d I).elim
end
structure bO (PL PM:Program):Prop where
 info:∀t,PL.info? t=PM.info? t
 under:∀t,PL.underlying t=PM.underlying t
 zero:∀t i z,PL.info? t=some i->i.zero=some z->bW z=true
 rt:PL.rt=PM.rt
 cells:∀t,PL.cellsOf t=PM.cellsOf t
 bytes:∀t,PL.bytesOf t=PM.bytesOf t
 byteOf:∀t o,byteOfCell PL PL.depth t o=byteOfCell PM PM.depth t o
 lies:∀e n o u m,liesAt PL PL.depth e n o u m=liesAt PM PM.depth e n o u m
 atBytes:∀e n o b,cellAtBytes PL PL.depth e n o b=cellAtBytes PM PM.depth e n o b
 held:∀e,PL.holdsStoodIn PL.depth e=PM.holdsStoodIn PM.depth e
 guard:∀t,PL.eqGuardType PL.depth t=PM.eqGuardType PM.depth t
 stood:∀t,PL.stoodInHeld t=PM.stoodInHeld t
 types:PL.types.size=PM.types.size
 packed:∀t,PL.holdsPacked PL.depth t=PM.holdsPacked PM.depth t
section
variable{α β:Type}{f:α->β}
def aS(a){b}(h:b=f a):aG ρ PL PM f (pure a:Sem α) (pure b):=h▸aG.pure a
def fZ(a)(s):aG ρ PL PM f (stuck a) s:= .dead trivial
def dN(a:bO PL PM)(t):aG ρ PL PM id (typeInfo t) (typeInfo t):=by
 refine .program ?_;show aG ρ PL PM id (match PL.info? t with|some i=>pure i|none=>stuck "no such type") (match PM.info? t with|some i=>pure i|none=>stuck "no such type");rw[a.info t];split
 .exact aS _ rfl
 .exact fZ _ _
def aZ(a:bO PL PM)(t):aG ρ PL PM id (underlying t) (underlying t):=by
 refine .program ?_;show aG ρ PL PM id (match PL.underlying t with|some i=>pure i|none=>stuck "no such type") (match PM.underlying t with|some i=>pure i|none=>stuck "no such type");rw[a.under t];split
 .exact aS _ rfl
 .exact fZ _ _
def oy(a:bO PL PM)(t):aG ρ PL PM (aE ρ) (zeroValue t) (zeroValue t):=by
 unfold zeroValue;show aG ρ PL PM (aE ρ) (typeInfo t>>=λi=>match i.zero with|some v=>pure v|none=>unsupported _) (typeInfo t>>=λi=>match i.zero with|some v=>pure v|none=>unsupported _);refine .program ?_;show aG ρ PL PM _ ((match PL.info? t with|some i=>pure i|none=>stuck "no such type" :Sem TypeInfo).bind _) ((match PM.info? t with|some i=>pure i|none=>stuck "no such type" :Sem TypeInfo).bind _);rw[←a.info t];cases c:PL.info? t with
 |none=>exact fZ _ _
 |some i=>
  show aG ρ PL PM _ (match i.zero with|some v=>pure v|none=>unsupported _) (match i.zero with|some v=>pure v|none=>unsupported _);cases b:i.zero with
  |none=>exact .dead trivial
  |some z=>exact aS _ (eA ρ z (a.zero t i z c b)).symm
def eT(a:bO PL PM)(t):aG ρ PL PM id (sizeOf t) (sizeOf t):=
 (dN a t).bind λ_=>aS _ rfl
def xI(a:bO PL PM)(t):aG ρ PL PM id (isAgg t) (isAgg t):=
 (aZ a t).bind λd=>by show aG ρ PL PM id _ _;cases d<;>exact aS _ rfl
def kS(b)(a)(n):bB b (a.add n)=(bB b a).add n:=by unfold Addr.add bB;split<;>rfl
def gj(a)(v):(aE a v).cells=v.cells.map (aE a):=by cases v<;>simp[aE,a68]
def vL(a):aG ρ PL PM (aE ρ) (load a) (load (bB ρ a)):= .load λv=> .pure v
def Nk(a)(v):aG ρ PL PM id (store a v) (store (bB ρ a) (aE ρ v)):= .store (.pure ())
def FV(o)(a:dj o=true):aG ρ PL PM ρ (newObj o) (newObj (fg ρ o)):= .new a λb=> .pure b
def nz(a:Addr):∀(n i:Nat) (b:Array Value),aG ρ PL PM (a14 (aE ρ)) (loadCellsFrom a i n b) (loadCellsFrom (bB ρ a) i n (b.map (aE ρ)))
 |0,_,b=>aS _ rfl
 |n+1,i,b=>by unfold loadCellsFrom;refine aG.bind (f:=aE ρ) (by rw[←kS];exact vL _) λv=> ?_;have:=nz a n (i+1) (b.push v);rwa [am0]at this
def iV(a)(n):aG ρ PL PM (a14 (aE ρ)) (loadCells a n) (loadCells (bB ρ a) n):=by have:=nz (ρ:=ρ) (PL:=PL) (PM:=PM) a n 0 #[];simpa[loadCells]using this
def jv(a):∀b i,aG ρ PL PM id (storeCells a b i) (storeCells (bB ρ a) (b.map (aE ρ)) i)
 |[],_=>by unfold storeCells;exact aS _ rfl
 |v::r,i=>by unfold storeCells;exact aG.bind (f:=id) (by rw[←kS];exact Nk _ _) λ_=>jv a r (i+1)
def ln(c:bO PL PM)(t)(a):aG ρ PL PM (aE ρ) (loadVar t a) (loadVar t (bB ρ a)):=by
 unfold loadVar;refine(xI c t).bind λb=> ?_;cases b with
 |true=>exact(eT c t).bind λn=>(iV a n).bind λd=>aS _ (by simp[aE])
 |false=>exact vL a
def Ds(b:bO PL PM)(t)(a)(v):aG ρ PL PM id (storeVar t a v) (storeVar t (bB ρ a) (aE ρ v)):=by
 unfold storeVar;refine(eT b t).bind λn=> ?_;rw[gj,ZO];show aG ρ PL PM id (if v.cells.size≠n then _ else _) (if v.cells.size≠n then _ else _);split
 .exact(fZ _ _:aG ρ PL PM id _ _).bind λa=>by rw[Ye];exact jv ..
 .rw[Ye];exact jv ..
def i0(e)(cs):aG ρ PL PM (bB ρ) (newRow e cs) (newRow e (cs.map (aE ρ))):=
 (FV (.cells cs e) rfl).bind λ_=>aS _ rfl
def Kz(t)(v):aG ρ PL PM (bB ρ) (newVar t v) (newVar t (aE ρ v)):=by unfold newVar;rw[gj];exact i0 _ _
def Bf(a:bO PL PM)(t)(cs)(off):aG ρ PL PM (aE ρ) (part t cs off) (part t (cs.map (aE ρ)) off):=by
 unfold part;refine(xI a t).bind λb=> ?_;cases b with
 |true=>exact(eT a t).bind λn=>aS _ (by simp[aE,ai7])
 |false=>
  show aG ρ PL PM (aE ρ) (match cs[off]? with|some v=>pure v|none=>stuck _) (match (cs.map (aE ρ))[off]? with|some v=>pure v|none=>stuck _);rw[By];cases cs[off]? with
  |none=>exact fZ _ _
  |some v=>exact aS _ rfl
def rB(v):aG ρ PL PM id (asIntOf v) (asIntOf (aE ρ v)):=by
 cases v<;>simp[aE,asIntOf]<;>first|exact aS _ rfl|exact fZ _ _|skip
 rename_i a;cases a with
 |none=>exact fZ _ _
 |some a=>exact .dead trivial
def u6(v):aG ρ PL PM id (asInt v) (asInt (aE ρ v)):=(rB v).bind λ_=>aS _ rfl
def zV(v):aG ρ PL PM id (asBool v) (asBool (aE ρ v)):=by cases v<;>simp[aE,asBool]<;>first|exact aS _ rfl|exact fZ _ _
def Ys(v:Value):aG ρ PL PM id (asString v) (asString (aE ρ v)):=by cases v<;>simp only[aE,asString]<;>first|exact aS _ rfl|exact fZ _ _
def Nv(v):aG ρ PL PM (a14 (aE ρ)) (asAgg v) (asAgg (aE ρ v)):=by cases v<;>simp[aE,asAgg]<;>first|exact aS _ rfl|exact fZ _ _
def Dr(v):aG ρ PL PM (bB ρ) (VJ v) (VJ (aE ρ v)):=by
 cases v<;>simp[aE,VJ]<;>first|exact fZ _ _|skip
 rename_i a;cases a with
 |none=>exact fZ _ _
 |some a=>exact aS _ rfl
end
section
variable{α β:Type}{f:α->β}
def cT{c}[Decidable c]{A B}{b a}(e:aG ρ PL PM f A b)(d:aG ρ PL PM f B a):aG ρ PL PM f (if c then A else B) (if c then b else a):=by grind
def zM(a):(bB ρ a).block=ρ a.block:=rfl
def Z5(a:Addr):(bB ρ a).off=a.off:=rfl
def R9(a):(bB ρ a).spot=a.spot:=rfl
def Cd:RuntimeError->Bool
 | .bounds _ _ _ _| .error _| .plain _| .nilDeref=>true
 |_=>false
def lm(b:bO PL PM){e}(a:Cd e=true):aG ρ PL PM f (runtimePanic e) (runtimePanic e):= .program (by simp[JU,b.rt];cases e<;>cases a<;>exact .panic (by rfl))
def mn(g:bO PL PM){e}(d:Cd e=true){b a}(k:b->Sem α)(c:a->Sem β):aG ρ PL PM f (runtimePanic e>>=k) (runtimePanic e>>=c):= .program (by simp[JU,g.rt];cases e<;>cases d<;>exact .panic (by rfl))
theorem aL{s:Sem α}{s':Sem β}(h:aG ρ PL PM f s s':=by
 first
 |exact pH hP _ _ _ _ _ none
 |with_reducible first
  |exact aZ hP _
  |exact eT hP _
  |exact dN hP _
  |exact Dr _
  |exact rB _
  |exact u6 _
  |exact xI hP _
  |exact oy hP _
  |exact zV _
  |exact Nv _
  |exact Ys _
  |exact Kz _ _
  |exact i0 _ _
  |exact ln hP _ _
  |exact Ds hP _ _ _
  |exact vL _
  |exact iV _ _
  |exact jv _ _ _
  |exact Bf hP _ _ _
  |exact nu _
  |exact zO _
  |exact zL _
  |exact Ky _
  |exact nA hP _
  |exact zU hP _ _ _ _
  |exact Kx hP _ _ _
  |exact i2 hP _ _
  |exact yo hP _ _ _
  |exact pH hP _ _ _ _ _ _
  |exact nC hP _
  |exact Nl hP _ _ _ _ _
  |exact lr _
  |exact zT hP _
  |exact xE hP _ _ _
  |exact sW _ _ _
  |exact UO _
  |exact Vr hP _
  |exact vd _
  |exact Rb _ _
  |exact jj _
  |exact QF _
  |exact Ra _ _
  |exact R8 hi _ _
  |exact R8 hF.1 _ _
  |exact xF hF.1 _ _
  |exact yr _ _
  |exact Dw hi _ _ _ _ _
  |exact oI _ _ _
  |exact ih _ _ _
  |exact Yw _ _ _ _
  |exact Vs hP _ _ _ _
  |exact YB _ _ _ _
  |exact WO hP _ _ _ _ _
  |exact YC _ _ _
  |exact R6 _ _ _
  |exact Dz _
  |exact jx _ _ _
  |exact ny _
  |exact tR _ _
  |exact tQ _ _
  |exact tX _
  |exact tS _
  |exact yt _ _ _
  |exact oI _ _ _
  |exact qo _ _ _ _
  |exact NS _ _ _ _
  |exact Yx _ _ _ _
  |exact QK _ _ _ _ _ _
  |exact G2 hP hF _ _ _
  |exact G3 hP hF _ _ _
  |exact US hP _ _ _
  |exact sV hP hF _ _
 |exact FV _ rfl
 ):aG ρ PL PM f s s':=h
theorem aU{s:Sem α}{s':Sem β}(h:aG ρ PL PM f s s':=by
 try simp only[id,aE,zM,Z5,R9,Option.map_none,Option.map_some,Option.isSome_map,Array.getElem?_map,pure_bind,bind_assoc]
 first
 |exact .dead trivial
 |exact .program (.dead trivial)
 |with_reducible exact lm hP rfl
 |with_reducible exact mn hP rfl _ _
 |exact aS _ (by first|rfl|(simp[aE,goInt,kS,Function.comp_def,apply_ite (bB ρ),apply_ite (Option.map (bB ρ))];done)|(simp[aE,bB];done))
 |exact aL
 |refine cT ?_ ?_
 |(apply aG.bind;(· exact aL);intro a)
 |refine .choose λn=> ?_
 |exact .getObj λo ho=>by cases o<;>first|exact .dead trivial|(simp[dj]at ho;done)
 |(refine .program ?_;try simp only[Sem.bind,hP.held,hP.cells,hP.bytes,hP.byteOf,hP.lies,hP.atBytes,hP.guard,hP.stood,hP.packed])
 |cases (a:TypeDesc)
 |cases (x:Value)
 |cases (y:Value)
 |cases (op:BinOp)
 |cases (a:Option _)
 |cases (a:Bool)
 |(split<;>try simp_all only[Option.map_some,Option.map_none,Option.some.injEq,reduceCtorEq,Value.slice.injEq,Value.pointer.injEq,Value.map.injEq,Value.chan.injEq])
 all_goals first|contradiction|exact aU
 ):aG ρ PL PM f s s':=h
def zU(a:bO PL PM)(k)(x y)(c):aG ρ PL PM f (boundsPanic k x y c) (boundsPanic k x y c):=by
 unfold boundsPanic;dsimp only;split
 .exact .choose λn=>lm (e:= .bounds (DN.wrap x) y (n==1) c) a rfl
 .exact lm (e:= .bounds (DN.wrap x) y _ c) a rfl
theorem Nw(hP:bO PL PM)(t):aG ρ PL PM (aE ρ) (a70 t true (.tuple #[])) (a70 t true (.tuple #[])):=by unfold a70;exact aU
theorem UQ(t)(v):aG ρ PL PM (aE ρ) (ag8 t v) (ag8 t (aE ρ v)):=by unfold ag8;exact aU
theorem iG(hP:bO PL PM)(t)(v):aG ρ PL PM (aE ρ) (tw t v) (tw t (aE ρ v)):=by unfold tw;exact aU
theorem FT(hP:bO PL PM)(t)(v z):aG ρ PL PM id (a09 t v z) (a09 t (aE ρ v) (aE ρ z)):=by unfold a09;exact aU
def nu(r):aG ρ PL PM id (shape r) (shape (ρ r)):= .shape λs=> .pure s
def zL(r):aG ρ PL PM (ab1 λx=>(bB ρ x.1,x.2)) (viewAt r) (viewAt (ρ r)):=by
 unfold viewAt;refine(nu r).bind λs=> ?_;cases s
 .exact .getObj λo _=>by cases o<;>exact aS _ rfl
 .exact aS _ rfl
theorem Ky(a):aG ρ PL PM id (noView a) (noView (bB ρ a)):=by unfold noView;exact aU
theorem nA(hP:bO PL PM)(a):aG ρ PL PM id (byteOf a) (byteOf (bB ρ a)):=by unfold byteOf;rw[R9];cases a.spot<;>exact aU
def Kx(d:bO PL PM)(a)(c b):aG ρ PL PM (bB ρ) (partAt a c b) (partAt (bB ρ a) c b):=by unfold partAt;refine(nA d a).bind λx=> ?_;refine(nA d {block:=a.block,off:=a.off+c}).bind λy=>aS _ ?_;simp;split<;>rfl
theorem i2(hP:bO PL PM)(a)(b):aG ρ PL PM (bB ρ) (fieldPlace a b) (fieldPlace (bB ρ a) b):=by unfold fieldPlace;exact aU
theorem FX(hP:bO PL PM)(t)(v)(i):aG ρ PL PM (aE ρ) (V9 t v i) (V9 t (aE ρ v) i):=by unfold V9;exact aU
theorem lp(hP:bO PL PM)(t)(x a):aG ρ PL PM (aE ρ) (Y0 t x a) (Y0 t (aE ρ x) (aE ρ a)):=by unfold Y0;exact aU
theorem yo(hP:bO PL PM)(v)(y)(c):aG ρ PL PM id (Tv v y c) (Tv (aE ρ v) y c):=by unfold Tv;exact aU
theorem pH(hP:bO PL PM)(s)(len cap)(b hi a):aG ρ PL PM id (Ng s len cap b hi a) (Ng s len cap (b.map (aE ρ)) (hi.map (aE ρ)) (a.map (aE ρ))):=by unfold Ng;cases a<;>cases hi<;>cases b<;>exact aU
def nC(b:bO PL PM)(v):aG ρ PL PM (bB ρ) (asAddr v) (asAddr (aE ρ v)):=by
 cases v<;>simp[aE,asAddr]<;>first|exact fZ _ _|skip
 rename_i a;cases a with
 |none=>exact lm b rfl
 |some a=>exact aS _ rfl
theorem Nl(hP:bO PL PM)(t)(x)(b hi a):aG ρ PL PM (aE ρ) (YT t x b hi a) (YT t (aE ρ x) (b.map (aE ρ)) (hi.map (aE ρ)) (a.map (aE ρ))):=by unfold YT;exact aU
theorem FU(hP:bO PL PM)(t)(x)(b hi a):aG ρ PL PM (aE ρ) (Mv t x b hi a) (Mv t (aE ρ x) (b.map (aE ρ)) (hi.map (aE ρ)) (a.map (aE ρ))):=by unfold Mv;exact aU
theorem Nn(hP:bO PL PM)(t)(x a):aG ρ PL PM (aE ρ) (a44 t x a) (a44 t (aE ρ x) (aE ρ a)):=by unfold a44;exact aU
theorem Nq(hP:bO PL PM)(t)(v)(i):aG ρ PL PM (aE ρ) (a90 t v i) (a90 t (aE ρ v) i):=by unfold a90;exact aU
theorem FY(x)(i):aG ρ PL PM (aE ρ) (ad4 x i) (ad4 (aE ρ x) i):=by unfold ad4;exact aU
def Dy(fn)(b:pW fn=true)(first a):aG ρ PL PM (aE ρ) (a75 fn first a) (a75 fn (first.map (aE ρ)) (a.map (aE ρ))):=
 aS _ (by rw[aE,uD ρ b])
def lr(n):aG ρ PL PM id (askRoom n) (askRoom n):=by
 unfold askRoom;split
 .exact .mark rfl (.pure ())
 .exact aS _ rfl
def PH(a)(z:Array Value)(i:Nat):(z.map (aE a))[i]! =aE a (z[i]!):=by
 have b:aE a (default:Value)=default:=eA a _ (by rfl)
 grind
def sG(a)(z:Array Value)(n):((a71 n).map λx=>(z.map (aE a))[x%(z.map (aE a)).size]!)=((a71 n).map λx=>z[x%z.size]!).map (aE a):=by rw[an5];apply ag1;intro i _;rw[PH,ZO];rfl
end
section
variable{α β:Type}{f:α->β}
def Bh(e:bO PL PM)(t)(l c):aG ρ PL PM (aE ρ) (ZB t l c) (ZB t (aE ρ l) (aE ρ c)):=by
 unfold ZB;refine(aZ e t).bind λd=> ?_;cases d with
 |slice b=>
  refine(u6 l).bind λl=>(u6 c).bind λc=>(dN e b).bind λi=> ?_;dsimp only[id];refine cT ?_ ?_
  .refine cT (mn e rfl _ _) (cT (mn e rfl _ _) ?_);exact aG.bind (.choose λn=> .pure n) λn=>mn e rfl _ _
  .refine(lr _).bind λ_=>(eT e b).bind λg=> ?_;dsimp only[id];refine cT ?_ ?_
   .have h:=sG ρ #[] ((DN.wrap c).toNat*g);rw[al5]at h;refine aG.bind (f:=bB ρ) ?_ λa=>aS _ (by simp[aE]);have:=i0 (ρ:=ρ) (PL:=PL) (PM:=PM) b ((a71 ((DN.wrap c).toNat*g)).map λx=>(#[]:Array Value)[x%(#[]:Array Value).size]!)
    grind
   .refine(oy e b).bind λz=> ?_;refine aG.bind (f:=bB ρ) ?_ λa=>aS _ (by simp[aE]);rw[gj,sG];exact i0 _ _
 |_=>exact .dead trivial
def uT(a)(off):∀(l:List (Value×Nat)) (cs:Array Value),
 (l.map λx=>(aE a x.1,x.2)).foldl (λcs x=>cs.setIfInBounds (off+x.2) x.1) (cs.map (aE a))=(l.foldl (λcs x=>cs.setIfInBounds (off+x.2) x.1) cs).map (aE a)
 |[],_=>rfl
 |x::l,cs=>by rw[JS,al6,al6,←a02,uT a off l]
def py(c)(a):∀b cells,
 a19 a (cells.map (aE c)) (b.map λx=>(x.1,aE c x.2))=(a19 a cells b).map (a14 (aE c))
 |[],_=>rfl
 |(i,v)::rest,cells=>by
  rw[JS];unfold a19;cases a i with
  |none=>rfl
  |some p=>
   have⟨off,size⟩:=p;simp only[gj,ZO];split
   .rfl
   .rw[←py c a rest]
    congr 1
    simp only[←ab4];rw[←(uT c off v.cells.zipIdx.toList cells)]
    congr 1
    simp[List.zipIdx_map]
def Ig{a b:Type}{g g':a->Sem b}(h:∀x,aG ρ PL PM id (g x) (g' x)):∀l:List a,aG ρ PL PM id (l.mapM g) (l.mapM g')
 |[]=>by simp;exact aS _ rfl
 |x::l=>by simp;exact(h x).bind λy=>(Ig h l).bind λc=>aS _ rfl
def QI{a b:Type}{g g':a->Sem b}(h:∀x,aG ρ PL PM id (g x) (g' x))(xs:Array a):aG ρ PL PM id (xs.mapM g) (xs.mapM g'):=by rw[a12,a12,map_eq_pure_bind,map_eq_pure_bind];exact(Ig h _).bind λc=>aS _ rfl
theorem Nu(hP:bO PL PM)(t)(b):aG ρ PL PM (aE ρ) (al_ t b) (al_ t (b.map λx=>(x.1,aE ρ x.2))):=by
 unfold al_;refine(oy hP t).bind λz=>(aZ hP t).bind λd=> ?_;have e:(b.map λx=>(x.1,aE ρ x.2)).toList=b.toList.map λx=>(x.1,aE ρ x.2):=s_
 cases d<;>try exact aU
 .refine(eT hP _).bind λg=> ?_;rw[gj,e,py];dsimp only[id];generalize a19 _ _ _=a;cases a<;>exact aU
 .refine aG.bind (QI (λx=>aU) _) λc=> ?_;dsimp only[id];rw[gj,e,py];generalize a19 _ _ _=a;cases a<;>exact aU
def yu(j:bO PL PM)(t)(f)(b):aG ρ PL PM (aE ρ) (a82 t f b) (a82 t f (b.map λx=>(x.1,aE ρ x.2))):=by
 unfold a82;have k:(b.map λx=>(x.1,aE ρ x.2)).toList=b.toList.map λx=>(x.1,aE ρ x.2):=s_
 refine(aZ j t).bind λd=> ?_;cases d with
 |slice e=>
  refine(eT j e).bind λg=> ?_;dsimp only[id];refine cT (.dead trivial) (cT ?_ ?_)
  .have h:=sG ρ #[] (f*g);rw[al5]at h;have l:=py ρ (λi=>some (i*g,g)) b.toList ((a71 (f*g)).map λx=>(#[]:Array Value)[x%(#[]:Array Value).size]!);rw[←h]at l;show aG ρ PL PM (aE ρ) (match a19 _ _ _ with|some c=>_|_=>_) (match a19 _ _ _ with|some c=>_|_=>_);rw[k,l];cases a19 (λi=>some (i*g,g)) ((a71 (f*g)).map λx=>(#[]:Array Value)[x%(#[]:Array Value).size]!) b.toList with
   |none=>exact .dead trivial
   |some c=>exact(i0 e c).bind λa=>aS _ (by simp[aE])
  .refine(oy j e).bind λz=> ?_;show aG ρ PL PM (aE ρ) (match a19 _ _ _ with|some c=>_|_=>_) (match a19 _ _ _ with|some c=>_|_=>_);rw[gj,sG,k,py];cases a19 (λi=>some (i*g,g)) ((a71 (f*g)).map λx=>z.cells[x%z.cells.size]!) b.toList with
   |none=>exact .dead trivial
   |some c=>exact(i0 e c).bind λa=>aS _ (by simp[aE])
 |_=>exact .dead trivial
theorem Yw(op:BinOp)(k:IntKind)(x y:Int):aG ρ PL PM (aE ρ) (al0 op k x y) (al0 op k x y):=by unfold al0;exact aU
theorem Vs(hP:bO PL PM)(op)(k)(x y):aG ρ PL PM (aE ρ) (an9 op k x y) (an9 op k x y):=by unfold an9;exact aU
theorem YB(op:BinOp)(k:IntKind)(x y:Int):aG ρ PL PM (aE ρ) (am1 op k x y) (am1 op k x y):=by unfold am1;exact aU
theorem WO(hP:bO PL PM)(op)(k)(x)(k2)(y):aG ρ PL PM (aE ρ) (ap_ op k x k2 y) (ap_ op k x k2 y):=by unfold ap_;exact aU
theorem YC(op:BinOp)(x y:Int):aG ρ PL PM (aE ρ) (ao_ op x y) (ao_ op x y):=by unfold ao_;exact aU
theorem R6(op)(x y):aG ρ PL PM (aE ρ) (al1 op x y) (al1 op x y):=by unfold al1;exact aU
theorem Nj(op)(x):aG ρ PL PM (aE ρ) (Op.unary op x) (Op.unary op (aE ρ x)):=by cases x<;>cases op<;>first|exact aU|(rename_i a;cases a<;>exact aU)
end
section
variable{α β:Type}{f:α->β}
def wH(k:∀x y,ρ x=ρ y->x=y)(a b):(bB ρ a==bB ρ b)=(a==b):=by
 have⟨j,i,g⟩:=a;have⟨f,d,c⟩:=b;by_cases h:(⟨j,i,g⟩:Addr)=⟨f,d,c⟩
 .rw[h];simp
 .have l:bB ρ ⟨j,i,g⟩≠bB ρ ⟨f,d,c⟩:=λe=>h (by
   simp[bB,Addr.mk.injEq]at e⊢
   grind)
  grind
def nm(c:∀x y,ρ x=ρ y->x=y)(a b):(ρ a==ρ b)=(a==b):=by grind
def zO(a):aG ρ PL PM id (frozen a) (frozen (bB ρ a)):= .frozen λb=> .pure b
theorem QF(a):aG ρ PL PM id (stringish a) (stringish (bB ρ a)):=by
 unfold stringish;refine(zO a).bind λb=>cT aU ((nu a.block).bind λs=> ?_);cases s
 .exact aU
 .exact .frozen λb=> .pure b
theorem Ra(a b):aG ρ PL PM id (mayBeOne a b) (mayBeOne (bB ρ a) (bB ρ b)):=by unfold mayBeOne;exact aU
theorem R8(c:∀x y,ρ x=ρ y->x=y)(a b):aG ρ PL PM id (sameAddr a b) (sameAddr (bB ρ a) (bB ρ b)):=by unfold sameAddr;rw[zM,zM,nm c,wH c];exact aU
theorem xF(hi:∀x y,ρ x=ρ y->x=y)(a b):aG ρ PL PM id (samePointer a b) (samePointer (a.map (bB ρ)) (b.map (bB ρ))):=by cases a<;>cases b<;>unfold samePointer<;>exact aU
end
section
variable{α β:Type}{f:α->β}
def tU{a d:Type}(r){g g':a->d->Sem (ForInStep d)}(h:∀c s,aG ρ PL PM id (g c s) (g' (r c) s)):∀(l:List a) b,aG ρ PL PM id (forIn l b g) (forIn (l.map r) b g')
 |[],b=>by simp;exact aS _ rfl
 |c::l,b=>by
  simp only[JS,List.forIn_cons];refine(h c b).bind λs=> ?_;cases s with
  |done x=>exact aS _ rfl
  |yield x=>exact tU r h l x
def tV{a d:Type}(r){g g':a->d->Sem (ForInStep d)}(h:∀c s,aG ρ PL PM id (g c s) (g' (r c) s))(xs:Array a)(b):aG ρ PL PM id (forIn xs b g) (forIn (xs.map r) b g'):=by rw[←ab5,←ab5,Ye];exact tU r h _ _
theorem tX(x):aG ρ PL PM (aE ρ) (a3_ x) (a3_ (aE ρ x)):=by
 unfold a3_;cases x<;>try exact aU
 rename_i a l c;cases a
 .exact aU
 .simp[aE,rN];refine(iV _ l).bind λb=>(tV (aE ρ) (λx s=> ?_) b Zz).bind λs=>aU;cases x<;>exact aU
theorem ny(a):aG ρ PL PM id (markStringish a) (markStringish (bB ρ a)):=by
 unfold markStringish;refine(nu a.block).bind λs=> ?_;cases s
 .exact aU
 .exact aG.freeze (.pure ())
def tR(e)(s):aG ρ PL PM (aE ρ) (a66 e s) (a66 e s):=by
 unfold a66;refine aG.bind (.choose λn=> .pure n) λc=> ?_;dsimp only[id];refine aG.bind ?_ λa=>(ny a).bind λ_=>aS _ (by simp[aE]);have h:=i0 (ρ:=ρ) (PL:=PL) (PM:=PM) e ((s.data.map λb=>Value.int .u8 b.toNat)++pq (c- s.size) (Value.int .u8 0));have g:((s.data.map λb=>Value.int .u8 b.toNat)++pq (c- s.size) (Value.int .u8 0)).map (aE ρ)=(s.data.map λb=>Value.int .u8 b.toNat)++pq (c- s.size) (Value.int .u8 0):=by
  refine kX λv d=> ?_;obtain d|d:=JY.1 d
  .obtain⟨b,_,rfl⟩:=ah6.1 d;simp[aE]
  .obtain⟨_,rfl⟩:=aa2.1 d;simp[aE]
 rwa [g]at h
theorem UN(hP:bO PL PM)(a)(t)(args):aG ρ PL PM (aE ρ) (YQ a t args) (YQ a t (args.map (aE ρ))):=by unfold YQ;rw[By];cases a[0]?<;>cases args[0]?<;>exact aU
theorem UP(hP:bO PL PM)(a)(t)(args):aG ρ PL PM (aE ρ) (ai8 a t args) (ai8 a t (args.map (aE ρ))):=by unfold ai8;rw[By];cases a[0]?<;>cases args[0]?<;>exact aU
theorem Dz(x):aG ρ PL PM id (Zm x) (Zm (aE ρ x)):=by unfold Zm;exact aU
def jx(size n)(x):aG ρ PL PM (a14 (aE ρ)) (Tw size n x) (Tw size n (aE ρ x)):=by
 cases x with
 |slice a l c=>
  cases a with
  |none=>simp[aE,al7];exact aS _ s_
  |some a=>simp[aE,rN];exact iV a _
 |string s=>
  simp[aE];refine aS _ (kX λv d=> ?_).symm;obtain⟨b,_,rfl⟩:=ah6.1 d;simp[aE]
 |_=>simp[aE];exact .dead trivial
theorem QJ(c:bO PL PM)(b)(t)(args):aG ρ PL PM (aE ρ) (Yf b t args) (Yf b t (args.map (aE ρ))):=by
 unfold Yf;rw[By,By];cases b[0]?<;>cases args[0]?<;>cases args[1]?<;>try exact .dead trivial
 rename_i x v;refine(aZ c _).bind λa=> ?_;cases a<;>try exact .dead trivial
 cases x<;>try exact .dead trivial
 simp[aE];refine(Dz v).bind λn=>(eT c _).bind λd=>(jx _ _ v).bind λe=> ?_;rename_i a _ _;cases a
 .exact aU
 .simp;exact aU
theorem QG(x y):aG ρ PL PM (aE ρ) (a76 x y) (a76 (aE ρ x) (aE ρ y)):=by cases x<;>cases y<;>unfold a76<;>first|exact aU|(rename_i b;cases b<;>exact aU)
def zS:∀(l:List Value) x,aG ρ PL PM (aE ρ) (l.foldlM a76 x) ((l.map (aE ρ)).foldlM a76 (aE ρ x))
 |[],x=>aS _ rfl
 |y::l,x=>by simp;exact(QG x y).bind λz=>zS l z
theorem UL(a)(t)(args):aG ρ PL PM (aE ρ) (ae4 a t args) (ae4 a t (args.map (aE ρ))):=by
 unfold ae4;rw[Ye];cases args.toList
 .exact aU
 .exact zS _ _
theorem QH(x y):aG ρ PL PM (aE ρ) (a77 x y) (a77 (aE ρ x) (aE ρ y)):=by cases x<;>cases y<;>unfold a77<;>first|exact aU|(rename_i b;cases b<;>exact aU)
def zR:∀(l:List Value) x,aG ρ PL PM (aE ρ) (l.foldlM a77 x) ((l.map (aE ρ)).foldlM a77 (aE ρ x))
 |[],x=>aS _ rfl
 |y::l,x=>by simp;exact(QH x y).bind λz=>zR l z
theorem UM(a)(t)(args):aG ρ PL PM (aE ρ) (ae5 a t args) (ae5 a t (args.map (aE ρ))):=by
 unfold ae5;rw[Ye];cases args.toList
 .exact aU
 .exact zR _ _
theorem tT(hP:bO PL PM)(t)(v):aG ρ PL PM (aE ρ) (ZT t v) (ZT t (aE ρ v)):=by unfold ZT;exact aU
def pO(P:Program)(s:Sem α):Prop:=∀w,∃h w',s.run P w= .halt h w'/\True
def pO.after{c}{s}{k:c->Sem α}(h:∀a,pO PL (k a)):pO PL (s>>=k):=λw=>by
 rw[Rk];cases e:s.run PL w with
 |ok a b=>exact h a b
 |halt x b=>simp_all
def pA(v):pO PL (goPanic v:Sem α):=λw=>⟨_,w,rfl,trivial⟩
def bE.push(h:bE w){o}(c:dj o=true):bE {w with heap:=w.heap.push o}:=by
 intro b x a;simp[Zq]at a;split at a
 .simp_all
 .exact h b x a
def YM(e):pO PL (runtimePanic e:Sem α):=by unfold runtimePanic;refine pO.after λp=> ?_;cases e<;>first|exact pA _|exact pO.after λ_=>pO.after λ_=>pA _
end
section
variable{α β:Type}{f:α->β}
theorem yr(a)(n):aG ρ PL PM id (ab6 a n) (ab6 (bB ρ a) n):=by unfold ab6;exact aU
theorem Dw(hi:∀x y,ρ x=ρ y->x=y)(size l n)(base)(x):aG ρ PL PM id (ae_ size l n base x) (ae_ size l n (base.map (bB ρ)) (aE ρ x)):=by
 unfold ae_;cases base with
 |none=>
  simp;cases x<;>try exact aU
  rename_i b _ _;cases b<;>exact aU
 |some a=>
  refine(yr a _).bind λh=> ?_;refine aG.bind (by rw[←kS];exact zO _) λc=> ?_;simp;refine cT aU ?_;cases x<;>try exact aU
  rename_i b _ _;cases b
  .exact aU
  .simp[aE,rN,zM,nm hi];exact aU
def ox(a)(z)(n):ZP (z.map (aE a)) n=(ZP z n).map (aE a):=by unfold ZP;have:=sG a z (n*z.size);simp_all
def qL(size n)(b)(l c):aG ρ PL PM (a14 (aE ρ)) (Tw size n (.slice b l c)) (Tw size n (.slice (b.map (bB ρ)) l c)):=by have:=jx (ρ:=ρ) (PL:=PL) (PM:=PM) size n (.slice b l c);simpa only[aE]using this
def zK(b:bO PL PM)(e)(n size){k}{a}(h:∀cs,aG ρ PL PM f (k cs) (a (cs.map (aE ρ)))):
 aG ρ PL PM f ((if n*size=0 then pure #[]else do pure (ZP (←zeroValue e).cells n))>>=k) ((if n*size=0 then pure #[]else do pure (ZP (←zeroValue e).cells n))>>=a):=by refine aG.bind (cT (aS _ s_) ?_) h;exact(oy b e).bind λz=>aS _ (by rw[gj,ox])
theorem KA(f:bO PL PM)(v:∀x y,ρ x=ρ y->x=y)(o)(t)(args):aG ρ PL PM (aE ρ) (Zn o t args) (Zn o t (args.map (aE ρ))):=by
 unfold Zn;rw[By,By];cases o[0]?<;>cases args[0]?<;>cases args[1]?<;>try exact .dead trivial
 rename_i s x;refine(aZ f _).bind λe=> ?_;cases e<;>try exact .dead trivial
 cases s<;>try exact .dead trivial
 rename_i e h g j;simp only[aE];refine(eT f e).bind λb=> ?_;dsimp only[id];cases o[1]?
 case' some t1=>
  refine(aZ f t1).bind λd=> ?_;dsimp only[id];cases d
  case int k=>
   simp only[pure_bind,BZ,↓reduceIte,ad5];refine(u6 x).bind λl=>cT (mn f rfl _ _) ((dN f e).bind λi=>cT (.choose λn=>mn (e:= .error (if n==1 then "makeslice: len out of range" else "growslice: len out of range")) f rfl _ _) (cT (zK f e _ b λm=> ?_) ?_))
   .obtain _|a:=h
    .exact aU
    .simp only[rN,←kS,Ye];exact aU
   .refine(dN f e).bind λi=>cT (mn f rfl _ _) ((dN f e).bind λu=>cT (mn f rfl _ _) (.choose λc=>(dN f e).bind λr=>(lr _).bind λ_=>(qL b g h g j).bind λp=>zK f e _ b λm=>(oy f e).bind λz=> ?_));rw[gj,ox,←Yg,←Yg];exact aU
 all_goals
  simp only[pure_bind,BZ,↓reduceIte,ab7];refine(Dz x).bind λn=>cT ((jx b n x).bind λm=> ?_) ((dN f e).bind λi=>cT (mn f rfl _ _) ((dN f e).bind λu=>cT ?_ (.choose λc=>(dN f e).bind λr=>(lr _).bind λ_=>(qL b g h g j).bind λp=>(jx b n x).bind λm=>(oy f e).bind λz=> ?_)))
  .obtain _|a:=h
   .exact aU
   .simp only[rN,←kS,Ye];exact aU
  .rw[bind_assoc,bind_assoc];refine(Dw v b g n h x).bind λq=> ?_;cases q
   .exact .mark rfl (.dead trivial)
   .exact .dead trivial
  .rw[gj,ox,←Yg,←Yg];exact aU
end
section
variable{α β:Type}{f:α->β}
theorem zT(hP:bO PL PM)(t):aG ρ PL PM id (elemOf t) (elemOf t):=by unfold elemOf;exact aU
theorem xE(hP:bO PL PM)(a)(u)(n):aG ρ PL PM id (variablesAt a u n) (variablesAt (bB ρ a) u n):=by unfold variablesAt;exact aU
def sW:∀n a c,aG ρ PL PM id (loadBytes a c n) (loadBytes (bB ρ a) c n)
 |0,a,c=>aS _ rfl
 |n+1,a,c=>by
  unfold loadBytes;refine(vL a).bind λv=> ?_;cases v with
  |int k b=>
   simp[aE];cases k with
   |u8=>rw[←kS];exact sW n _ _
   |_=>exact .dead trivial
  |_=>simp;exact .dead trivial
theorem UO(r):aG ρ PL PM id (cellsIn r) (cellsIn (ρ r)):=by
 unfold cellsIn;refine(nu r).bind λs=> ?_;cases s
 .refine aG.getObj λo _=> ?_;cases o<;>first|exact aS _ rfl|exact aS _ s_
 .exact aU
theorem vw(hP:bO PL PM)(ts)(t)(args):aG ρ PL PM (aE ρ) (a79 ts t args) (a79 ts t (args.map (aE ρ))):=by
 rcases args with⟨_|⟨x,_|⟨v,_|_⟩⟩⟩<;>try exact .dead trivial
 rw[show(Array.mk [x,v]).map (aE ρ)=#[aE ρ x,aE ρ v] by simp];cases x<;>try exact .dead trivial
 rename_i p;simp[aE];unfold a79;refine aG.bind (u6 v) λn=> ?_;cases ts[0]?<;>try exact .dead trivial
 refine cT aU (cT aU ?_);cases p
 .exact aU
 .refine cT aU ((zT hP _).bind λe=>(xE hP _ e _).bind λq=>cT ((sW ..).bind λs=> .freeze aU) aU)
def rA(f:bO PL PM)(d)(t)(args):aG ρ PL PM (aE ρ) (a58 d t args) (a58 d t (args.map (aE ρ))):=by
 obtain⟨l⟩:=args;obtain _|⟨x,_|⟨y,l⟩⟩:=l
 .exact .dead trivial
 .rw[show(Array.mk [x]).map (aE ρ)=#[aE ρ x] by simp];cases x with
  |slice b l c=>
   rw[show aE ρ (.slice b l c)= .slice (b.map (bB ρ)) l c by simp[aE]];cases b with
   |none=>exact aS (ad6 none) (by simp[aE])
   |some a=>
    unfold a58;show aG ρ PL PM (aE ρ) (if c≠0 then _ else _) (if c≠0 then _ else _);refine cT (aS _ (by simp[aE])) ?_;refine(zL a.block).bind λv=> ?_;rw[ai9];refine cT (aS _ (by simp[aE])) ?_;refine(zT f t).bind λe=> ?_;refine(FV (.view a e) rfl).bind λn=> ?_;exact aS _ (by simp[aE,bB])
  |_=>exact .dead trivial
 .exact .dead trivial
theorem yt(s)(b)(k):aG ρ PL PM (aE ρ) (af1 s b k) (af1 s b k):=by unfold af1;exact aU
theorem oI(s)(b)(k):aG ρ PL PM (aE ρ) (a40 s b k) (a40 s b k):=by unfold a40;exact aU
theorem qo(s)(a b)(k):aG ρ PL PM (aE ρ) (a8_ s a b k) (a8_ s a b k):=by unfold a8_;refine(oI s a k).bind λx=> ?_;cases x<;>exact aU
theorem tS(x):aG ρ PL PM (aE ρ) (a30 x) (a30 (aE ρ x)):=by
 unfold a30;cases x<;>try exact aU
 rename_i a l c;cases a
 .exact aU
 .simp[aE,rN];refine(iV _ l).bind λb=>(tV (aE ρ) (λx s=> ?_) b Zz).bind λs=>aU;cases x<;>exact aU
def yP(b)(s):∀n i a,a.map (aE b)=a->(a22 s n i a).map (aE b)=a22 s n i a
 |0,i,a,h=>h
 |n+1,i,a,h=>by
  unfold a22;split
  .exact yP b s n _ _ (by rw[am0,h];simp[aE])
  .exact h
def tQ(e)(s):aG ρ PL PM (aE ρ) (ab8 e s) (ab8 e s):=by
 unfold ab8;refine .choose λc=> ?_;have b:∀n,(a22 s s.size 0 #[]++pq n (Value.int .i32 0)).map (aE ρ)=a22 s s.size 0 #[]++pq n (Value.int .i32 0):=λn=>by rw[Yg,yP ρ s s.size 0 #[] s_,aa3];simp[aE]
 refine aG.bind (f:=bB ρ) (by have:=i0 (ρ:=ρ) (PL:=PL) (PM:=PM) e (a22 s s.size 0 #[]++pq (c-(a22 s s.size 0 #[]).size) (.int .i32 0));simp_all) λa=>aS _ (by simp[aE])
theorem Vr(hP:bO PL PM)(a):aG ρ PL PM (bB ρ) (al2 a) (al2 (bB ρ a)):=by unfold al2;exact aU
theorem Rb(a)(b):aG ρ PL PM (aE ρ) (asNumber a b) (asNumber (bB ρ a) b):=by unfold asNumber;exact aU
theorem Dq(hP:bO PL PM)(src dst)(x):aG ρ PL PM (aE ρ) (ab9 src dst x) (ab9 src dst (aE ρ x)):=by unfold ab9;refine(aZ hP src).bind λd=>(aZ hP dst).bind λa=> ?_;cases x<;>cases d<;>cases a<;>exact aU
def jy(b)(l c):aG ρ PL PM (aE ρ) (a3_ (.slice b l c)) (a3_ (.slice (b.map (bB ρ)) l c)):=by
 have:=tX (ρ:=ρ) (PL:=PL) (PM:=PM) (.slice b l c)
 rwa [show aE ρ (.slice b l c)= .slice (b.map (bB ρ)) l c by simp[aE]]at this
def jw(b)(l c):aG ρ PL PM (aE ρ) (a30 (.slice b l c)) (a30 (.slice (b.map (bB ρ)) l c)):=by
 have:=tS (ρ:=ρ) (PL:=PL) (PM:=PM) (.slice b l c)
 rwa [show aE ρ (.slice b l c)= .slice (b.map (bB ρ)) l c by simp[aE]]at this
def G0(g:bO PL PM)(src dst)(x):aG ρ PL PM (aE ρ) (convert src dst x) (convert src dst (aE ρ x)):=by
 have f:=Dq (ρ:=ρ) g src dst x;unfold convert;refine(aZ g src).bind λd=> ?_;refine(aZ g dst).bind λh=> ?_;dsimp only[id];cases x with
 |slice b l c=>
  rw[show aE ρ (.slice b l c)= .slice (b.map (bB ρ)) l c by simp[aE]]at f⊢;cases b with
  |none=>cases h<;>first|exact f|(cases d<;>first|exact .dead trivial|exact f|(refine(aZ g _).bind λe=> ?_;cases e<;>first|exact .dead trivial|(rename_i k;cases k<;>first|exact .dead trivial|exact jy _ _ _|exact jw ..)))
  |some a=>cases h<;>first|exact f|(cases d<;>first|exact .dead trivial|exact f|(refine(aZ g _).bind λe=> ?_;cases e<;>first|exact .dead trivial|(rename_i k;cases k<;>first|exact .dead trivial|exact jy _ _ _|exact jw ..))|(refine(aZ g _).bind λe=> ?_;cases src==dst<;>first|exact .dead trivial|(cases e<;>first|exact .dead trivial|(rename_i k;cases k<;>first|exact .dead trivial|exact(ny a).bind λ_=>aS _ (by simp[aE])))))
 |pointer p=>
  rw[show aE ρ (.pointer p)= .pointer (p.map (bB ρ)) by simp[aE]]at f⊢;cases p<;>cases h<;>first|exact f|(cases d<;>first|exact .dead trivial|exact f|(refine(aZ g _).bind λe=> ?_;cases e<;>first|exact .dead trivial|(rename_i k;cases k<;>first|exact .dead trivial|exact jy _ _ _|exact jw ..)))
 |_=>
  simp[aE]at f⊢;cases h<;>first|exact aS _ (by simp[aE])|exact yt _ _ _|exact oI _ _ _|exact qo _ _ _ _|exact f|(refine(aZ g _).bind λe=> ?_;cases e<;>first|exact .dead trivial|(rename_i k;cases k<;>first|exact .dead trivial|exact tR _ _|exact tQ _ _))|(cases d<;>first|exact .dead trivial|exact f|(refine(aZ g _).bind λe=> ?_;cases e<;>first|exact .dead trivial|(rename_i k;cases k<;>first|exact .dead trivial|exact jy _ _ _|exact jw ..)))
end
inductive eN {α:Type}:Sem α->Prop
 |pure (a:α):eN (.pure a)
 |choose {q:Question} {k:Nat->Sem α} (h:∀n,eN (k n)):eN (.choose q k)
 |halt {h:Halt} (d:fR h):eN (.halt h)
def eN.bind{b c}{s}{k:b->Sem c}(h:eN s)(f:∀a,eN (k a)):eN (s>>=k):=by
 show eN (s.bind k);induction h with
 |pure a=>exact f a
 |choose _ e=>exact .choose e
 |halt d=>exact .halt d
def eN.ite{a}{c}[Decidable c]{A B:Sem a}(d:eN A)(b:eN B):eN (if c then A else B):=by grind
theorem sU{α:Type}{s:Sem α}(h:eN s:=by
 try simp only[pure_bind]
 first
 |exact .pure _
 |exact .halt trivial
 |with_reducible exact lG _ _ _ _
 |with_reducible exact vp _ _ _ _ _
 |refine eN.ite ?_ ?_
 |refine .choose λn=> ?_
 |refine eN.bind (lG _ _ _ _) λ_=> ?_
 |refine eN.bind (Yp _ _ _ _) λ_=> ?_
 |refine eN.bind (t6 _ _ _ _) λv=> ?_
 |refine eN.bind (Yr _ _ _ _) λv=> ?_
 |refine eN.bind (qT _ _ _) λv=> ?_
 |cases (v:Value)
 |cases (op:BinOp)
 |split
 all_goals exact sU):eN s:=h
theorem t6(op)(k)(x y):eN (a88 op k x y):=by unfold a88;exact sU
theorem Yr(op:BinOp)(k:FloatKind)(x y:Nat):eN (ad0 op k x y):=by unfold ad0;exact sU
theorem qT(s)(b)(k):eN (a40 s b k):=by unfold a40;exact sU
theorem lG(op)(k)(x y):eN (ak1 op k x y):=by unfold ak1;exact sU
theorem Yp(op:BinOp)(k:FloatKind)(x y:Nat):eN (am2 op k x y):=by unfold am2;exact sU
theorem j6(s)(x)(k):eN (al8 s x k):=by unfold al8;exact sU
theorem xU(a b c d):eN (ai0 a b c d):=by unfold ai0;exact sU
theorem vp(s a b c d):eN (ag2 s a b c d):=by unfold ag2;exact sU
theorem wh(a b c d):eN (ag9 a b c d):=by unfold ag9;exact sU
section
variable{α β:Type}{f:α->β}
def eN.alike{s:Sem α}(h:eN s):aG ρ PL PM id s s:=by
 induction h with
 |pure a=>exact .pure a
 |choose _ b=>exact .choose b
 |halt d=>exact .dead d
theorem NS(op)(k)(x y):aG ρ PL PM (aE ρ) (a88 op k x y) (a88 op k x y):=by unfold a88;exact aU
theorem Yx(op:BinOp)(k:FloatKind)(x y:Nat):aG ρ PL PM (aE ρ) (ad0 op k x y) (ad0 op k x y):=by unfold ad0;exact aU
theorem QK(op)(k)(a b c d):aG ρ PL PM (aE ρ) (aj_ op k a b c d) (aj_ op k a b c d):=by
 unfold aj_;cases op<;>first
  |exact aU
  |exact(lG ..).alike.bind λ_=>(lG ..).alike.bind λ_=>aU
  |exact(Yp ..).alike.bind λ_=>(Yp ..).alike.bind λ_=>aU
  |(refine(j6 ..).alike.bind λ_=>(j6 ..).alike.bind λ_=>(j6 ..).alike.bind λ_=>(j6 ..).alike.bind λ_=> ?_
    first
     |refine(xU ..).alike.bind λ_=> ?_
     |refine(wh ..).alike.bind λ_=> ?_
    exact(j6 ..).alike.bind λ_=>(j6 ..).alike.bind λ_=>aU)
theorem vd(r):aG ρ PL PM (ab1 λx=>(bB ρ x.1,x.2)) (numberAt r) (numberAt (ρ r)):=by unfold numberAt;exact(nu r).bind λs=>cT aU (.getObj λo _=>by cases o<;>exact aS _ rfl)
theorem jj(a):aG ρ PL PM (λx=>(bB ρ x.1,x.2)) (behindNumber a) (behindNumber (bB ρ a)):=by unfold behindNumber;refine(vd a.block).bind λx=> ?_;cases x<;>exact aU
theorem oz(hP:bO PL PM)(a)(t)(x y):aG ρ PL PM (aE ρ) (ac_ a t #[x,y]) (ac_ a t #[aE ρ x,aE ρ y]):=by
 cases x<;>try exact .dead trivial
 rename_i p;simp[aE];unfold ac_;refine aG.bind (u6 y) λn=> ?_;cases p<;>exact aU
theorem pI(hP:bO PL PM)(t)(x y):aG ρ PL PM (aE ρ) (movedNumber t x y) (movedNumber t (aE ρ x) (aE ρ y)):=by
 unfold movedNumber;refine(aZ hP t).bind λd=>cT aU ?_;have b:=oz (ρ:=ρ) hP #[] t x y;cases x<;>simp[aE]at b⊢<;>try exact b
 rename_i p;cases p
 .exact b
 rename_i a;refine(jj a).bind λz=> ?_;have c:=oz (ρ:=ρ) hP #[] t (.pointer (some z.1)) y;simp[aE,rN]at c;refine c.bind λv=> ?_;cases v<;>try exact aU
 rename_i q;cases q
 .exact aU
 .simp;exact aU
theorem vx(hP:bO PL PM)(t)(x y):aG ρ PL PM (aE ρ) (movedPointer t x y) (movedPointer t (aE ρ x) (aE ρ y)):=by
 unfold movedPointer;have a:=oz (ρ:=ρ) hP #[] t x y;cases x<;>simp[aE]at a⊢<;>try exact a
 rename_i p;cases p
 .exact a
 refine(vd _).bind λz=> ?_;rw[ai9];exact cT aU a
def NL(PL PM:Program)(ρ:Nat->Nat):Prop:=(∀x y,ρ x=ρ y->x=y)/\∀b,b<PL.globals.size↔ρ b<PM.globals.size
def sV(c:bO PL PM)(d:NL PL PM ρ)(a b):aG ρ PL PM id (aj0 a b) (aj0 (bB ρ a) (bB ρ b)):=by
 unfold aj0;refine .program ?_;simp only[JU];have f:((bB ρ a).block !=(bB ρ b).block)=(a.block !=b.block):=by have:=nm d.1 a.block b.block;simp[bne,bB,this]
 have e:decide ((bB ρ a).block≥PM.globals.size)=decide (a.block≥PL.globals.size):=by have:=d.2 a.block;exact decide_eq_decide.2 (by simp[bB];omega)
 rw[f,e];refine cT (.dead trivial) ?_;refine(nA c a).bind λx=>(nA c b).bind λy=>aS _ rfl
def G2(c:bO PL PM)(d:NL PL PM ρ)(k)(a b):aG ρ PL PM (aE ρ) (Op.addrSub k a b) (Op.addrSub k (bB ρ a) (bB ρ b)):=
 (sV c d a b).bind λx=>aS _ (by simp[aE])
def G3(c:bO PL PM)(d:NL PL PM ρ)(op)(a b):aG ρ PL PM (aE ρ) (Op.addrCmp op a b) (Op.addrCmp op (bB ρ a) (bB ρ b)):=
 (sV c d a b).bind λx=>by cases op<;>first|exact aS _ (by simp[aE])|exact .dead trivial
theorem US(hP:bO PL PM)(k)(a)(n):aG ρ PL PM (aE ρ) (am3 k a n) (am3 k (bB ρ a) n):=by unfold am3;exact aU
end
section
variable{α β:Type}{f:α->β}
def zP{d a:Type}{g g':d->a->Sem (ForInStep a)}(h:∀c s,aG ρ PL PM id (g c s) (g' c s))(xs:Array d)(b):aG ρ PL PM id (forIn xs b g) (forIn xs b g'):=by have:=tV id h xs b;simp_all
def zQ{a}{g g':Nat->a->Sem (ForInStep a)}(h:∀c s,aG ρ PL PM id (g c s) (g' c s))(r:Std.Legacy.Range)(b):aG ρ PL PM id (forIn r b g) (forIn r b g'):=by rw[a45,a45];have:=tU id h (List.range' r.start r.size r.step) b;simp_all
def QP(ρ:Nat->Nat)(PL PM:Program)(d:Nat):Prop:=∀(t:TypeId) (x y:Value),aG ρ PL PM id (a2_ d t x y) (a2_ d t (aE ρ x) (aE ρ y))
theorem Ns(hP:bO PL PM){d}(ih:QP ρ PL PM d)(t)(xs)(y):aG ρ PL PM id (a2_ (d+1) t (.agg xs) y) (a2_ (d+1) t (aE ρ (.agg xs)) (aE ρ y)):=by
 unfold QP at ih;unfold a2_;refine(aZ hP t).bind λe=> ?_;cases e<;>cases y<;>try exact aU
 .simp only[aE,id];refine(eT hP _).bind λz=> ?_;exact(zQ (λi a=>aU) _ (none,())).bind λa=>aU
 .simp only[aE,id];refine .program ?_;simp only[JU];rw[←hP.stood];exact cT aU ((zP (λb a=>aU) _ (none,())).bind λa=>aU)
theorem FZ(hP:bO PL PM){d}(ih:QP ρ PL PM d)(t)(a)(v1)(y):aG ρ PL PM id (a2_ (d+1) t (.iface a v1) y) (a2_ (d+1) t (aE ρ (.iface a v1)) (aE ρ y)):=by
 unfold a2_;refine(aZ hP t).bind λe=> ?_;cases e<;>cases y<;>try exact aU
 simp only[aE,id];refine cT aU ((dN hP a).bind λi=>cT (.program (.program ?_)) (ih a v1 _));simp[JU];rw[←hP.packed];unfold typeStr;exact aU
theorem Nr(hP:bO PL PM)(hF:NL PL PM ρ)(d)(t)(a)(y):aG ρ PL PM id (a2_ (d+1) t (.pointer a) y) (a2_ (d+1) t (aE ρ (.pointer a)) (aE ρ y)):=by
 unfold a2_;refine(aZ hP t).bind λe=> ?_;cases y
 case pointer b=>
  have hi:=hF.1;simp only[aE];cases e<;>cases a<;>cases b<;>try exact aU
  .rename_i a b;simp only[id,rN];refine(jj a).bind λu=>(jj b).bind λv=> .program ?_;have c:decide (ρ u.1.block<PM.globals.size)=decide (u.1.block<PL.globals.size):=decide_eq_decide.2 (hF.2 u.1.block).symm;simp only[JU];rw[zM,zM,nm hF.1,c,wH hF.1];exact aU
  .exact xF hF.1 (some _) (some _)
  .simp[id,rN,wH hF.1];exact aU
 case int k n=>cases e<;>cases a<;>rcases n with(_|n)|n<;>exact aU
 all_goals cases e<;>cases a<;>exact aU
end
section
variable{α β:Type}{f:α->β}
def SA(c:∀x y,ρ x=ρ y->x=y)(a b:Option Nat):(a.map ρ==b.map ρ)=(a==b):=by cases a<;>cases b<;>first|rfl|grind
theorem eQ{s s':Sem Bool}(h:aG ρ PL PM id s s':=by simp only[aE,Option.map_none,Option.map_some];unfold Op.equalIn;refine(aZ hP t).bind λe=> ?_;dsimp only[id];cases e<;>first|exact .dead trivial|exact aS _ rfl|with_reducible exact lm hP rfl|exact cT (aS _ rfl) (lm hP rfl)|exact cT (aS _ rfl) (.dead trivial)|exact aS _ (SA hF.1 _ _)):aG ρ PL PM id s s':=h
theorem xK(hP:bO PL PM)(hF:NL PL PM ρ):∀d,QP ρ PL PM d
 |0=>λ_ _ _=> .dead trivial
 |d+1=>λt x y=>by
  have ih:=xK hP hF d;cases x<;>first|exact Ns hP ih t _ y|exact FZ hP ih t _ _ y|exact Nr hP hF d t _ y|skip
  all_goals cases y<;>first|exact eQ|(rename_i a;cases a<;>exact eQ)|(rename_i a p;cases a<;>cases p<;>exact eQ)|(rename_i a p;cases p<;>rcases a with(_|a)|a<;>exact eQ)|(rename_i a _ _;cases a<;>exact eQ)|(rename_i a _ _ _ _;cases a<;>exact eQ)|(rename_i a _ _ _ _ _;cases a<;>exact eQ)|(rename_i a _ _ p;cases a<;>cases p<;>exact eQ)|(rename_i a _ _ p _ _;cases a<;>cases p<;>exact eQ)
end
section
variable{α β:Type}{f:α->β}
theorem xJ(hP:bO PL PM):∀(d:Nat) (t:TypeId) (x y:Value),aG ρ PL PM id (aj1 d t x y) (aj1 d t (aE ρ x) (aE ρ y))
 |0,t,x,y=> .dead trivial
 |d+1,t,x,y=>by
  have ih:=xJ hP d;unfold aj1;refine(aZ hP t).bind λe=> ?_;cases e<;>try exact aU
  all_goals cases x<;>cases y<;>try exact aU
  .simp only[aE,id];refine(eT hP _).bind λz=> ?_;exact(zQ (λi st=>by exact aU) _ (none,())).bind λst=>by exact aU
  .simp only[aE,id];exact(zP (λfd st=>by exact aU) _ (none,())).bind λst=>by exact aU
theorem Np(hP:bO PL PM)(op)(t)(a b)(x y):aG ρ PL PM id (eqGuard op t a b x y) (eqGuard op t a b (aE ρ x) (aE ρ y)):=by unfold eqGuard;have c:=xJ (ρ:=ρ) hP Op.maxDepth t x y;refine cT aU ?_;cases x<;>cases y<;>simp only[aE]at c⊢<;>first|exact aS _ rfl|exact cT aU (c.bind λq=>aU)|(refine .program (.program ?_);simp only[JU];rw[←hP.guard];exact cT aU (c.bind λq=>aU))
def ip(x y:Value):Bool:=
 match x,y with
 | .int _ _, .int _ _| .float _ _, .float _ _| .complex _ _ _, .complex _ _ _| .string _, .string _=>true
 |_,_=>false
def BM(x y):ip (aE ρ x) (aE ρ y)=ip x y:=by cases x<;>cases y<;>simp[aE,ip]
def I9(t){x y}(h:ip x y=false):binOp .eql t x y=(do pure (.bool (←Op.equal t x y))):=by cases x<;>cases y<;>first|rfl|(simp[ip]at h;done)
def I8(t){x y}(h:ip x y=false):binOp .neq t x y=(do pure (.bool (!(←Op.equal t x y)))):=by cases x<;>cases y<;>first|rfl|(simp[ip]at h;done)
theorem yv(hP:bO PL PM)(op)(t){x y}(h:ip x y=true):aG ρ PL PM (aE ρ) (binOp op t x y) (binOp op t (aE ρ x) (aE ρ y)):=by
 cases x<;>cases y<;>first|(cases h;done)|skip
 all_goals cases op<;>simp[aE,binOp]<;>exact aU
theorem Bl(hP:bO PL PM)(op)(t)(k)(n)(p)(c:op≠ .eql)(b:op≠ .neq):aG ρ PL PM (aE ρ) (binOp op t (.int k n) (.pointer p)) (binOp op t (.int k n) (.pointer (p.map (bB ρ)))):=by have a:=pI (ρ:=ρ) hP t (.pointer p) (.int k n);simp[aE]at a;cases op<;>first|exact a|contradiction|(cases p<;>simp<;>exact aU)
theorem Bj(hP:bO PL PM)(op)(t)(k)(n)(p)(e:op≠ .eql)(c:op≠ .neq):aG ρ PL PM (aE ρ) (binOp op t (.pointer p) (.int k n)) (binOp op t (.pointer (p.map (bB ρ))) (.int k n)):=by have a:=λn=>pI (ρ:=ρ) hP t (.pointer p) (.int k n);have b:=vx (ρ:=ρ) hP t (.pointer p) (.int k n);simp[aE]at a b;cases op<;>first|exact a _|exact(aZ hP t).bind λd=>cT b (a n)|contradiction|(cases p<;>simp<;>exact aU)
def Bi(hP:bO PL PM)(hF:NL PL PM ρ)(op)(t)(p q)(b:op≠ .eql)(a:op≠ .neq):aG ρ PL PM (aE ρ) (binOp op t (.pointer p) (.pointer q)) (binOp op t (.pointer (p.map (bB ρ))) (.pointer (q.map (bB ρ)))):=by cases op<;>first|contradiction|(cases p<;>cases q<;>first|exact .dead trivial|exact(jj _).bind λx=>(jj _).bind λy=>G2 hP hF _ x.1 y.1|exact(jj _).bind λx=>(jj _).bind λy=>G3 hP hF _ x.1 y.1)
def N7(op)(t){x y}(c:ip x y=false)(b:op≠ .eql)(a:op≠ .neq)(g:∀p,x= .pointer p->(∀k n,y≠ .int k n)/\∀q,y≠ .pointer q)(f:∀p,y= .pointer p->∀k n,x≠ .int k n):∃h,binOp op t x y= .halt h/\fR h:=by
 cases x with
 |pointer p=>
  have xQ:=g p rfl;cases y with
  |int k n=>simp_all
  |pointer q=>simp_all
  |_=>cases p<;>cases op<;>first|exact⟨_,rfl,trivial⟩|exact absurd rfl b|exact absurd rfl a
 |int k n=>
  cases y with
  |pointer q=>simp_all
  |_=>cases op<;>first|exact⟨_,rfl,trivial⟩|exact absurd rfl b|exact absurd rfl a|(simp[ip]at c;done)
 |_=>
  cases y with
  |pointer q=>cases q<;>cases op<;>first|exact⟨_,rfl,trivial⟩|exact absurd rfl b|exact absurd rfl a
  |_=>cases op<;>first|exact⟨_,rfl,trivial⟩|exact absurd rfl b|exact absurd rfl a|(simp[ip]at c;done)
def UR(a:bO PL PM)(j:NL PL PM ρ)(op)(t)(x y):aG ρ PL PM (aE ρ) (binOp op t x y) (binOp op t (aE ρ x) (aE ρ y)):=by
 cases d:ip x y with
 |true=>exact yv a op t d
 |false=>
  have c:=(BM (ρ:=ρ) x y).trans d;by_cases i:op= .eql
  .subst i;rw[I9 t d,I9 t c];exact aG.bind (xK a j _ t x y) λb=>aS _ (by simp[aE])
  .by_cases g:op= .neq
   .subst g;rw[I8 t d,I8 t c];exact aG.bind (xK a j _ t x y) λb=>aS _ (by simp[aE])
   .by_cases f:(∀p,x= .pointer p->(∀k n,y≠ .int k n)/\∀q,y≠ .pointer q)/\∀p,y= .pointer p->∀k n,x≠ .int k n
    .have⟨h,e,l⟩:=N7 op t d i g f.1 f.2;rw[e];exact .dead l
    .cases x with
     |pointer p=>
      cases y with
      |int k n=>
       have:=Bj (ρ:=ρ) a op t k n p i g
       rwa [show aE ρ (.pointer p)= .pointer (p.map (bB ρ)) by simp[aE],show aE ρ (.int k n)= .int k n by simp[aE]]
      |pointer q=>
       have:=Bi a j op t p q i g
       rwa [show aE ρ (.pointer p)= .pointer (p.map (bB ρ)) by simp[aE],show aE ρ (.pointer q)= .pointer (q.map (bB ρ)) by simp[aE]]
      |_=>exact absurd ⟨λ_ _=>⟨λ_ _ h=>by simp at h,λ_ h=>by simp at h⟩,λ_ h=>by simp at h⟩ f
     |int k n=>
      cases y with
      |pointer q=>
       have:=Bl (ρ:=ρ) a op t k n q i g
       rwa [show aE ρ (.pointer q)= .pointer (q.map (bB ρ)) by simp[aE],show aE ρ (.int k n)= .int k n by simp[aE]]
      |_=>exact absurd ⟨λ_ h=>by simp at h,λ_ h=>by simp at h⟩ f
     |_=>exact absurd ⟨λ_ h=>by simp at h,λ_ _ _ _ h=>by simp at h⟩ f
end
def Ly(ρ:Nat->Nat):Place->Place
 | .val v=> .val (aE ρ v)
 | .var a=> .var (bB ρ a)
section
variable{α β:Type}{f:α->β}
def FW(b:bO PL PM)(t)(x):aG ρ PL PM (aE ρ) (x.get t) ((Ly ρ x).get t):=by
 cases x with
 |val v=>exact aS _ rfl
 |var a=>exact ln b t a
theorem tW(hP:bO PL PM):∀(l:List FieldStep) (t:TypeId) (x:Place),aG ρ PL PM (λy=>(y.1,Ly ρ y.2)) (follow l t x) (follow l t (Ly ρ x))
 |[],t,x=>aS _ rfl
 |s::rest,t,x=>by
  have ih:=tW hP rest;unfold follow;refine(aZ hP s.struct).bind λe=> ?_;dsimp only[id];cases e<;>try exact aU
  rename_i fs;dsimp only;cases fs[s.index]? with
   |none=>exact .dead trivial
   |some fd=>
    dsimp only;refine cT ?_ ?_
    .refine(FW hP t x).bind λv=> ?_;refine(nC hP v).bind λa=> ?_;refine(i2 hP a fd).bind λb=> ?_;exact ih fd.type (.var b)
    .cases x with
     |var a=>
      refine(i2 hP a fd).bind λb=> ?_;exact ih fd.type (.var b)
     |val v=>
      cases v with
      |agg cs=>
       simp only[Ly,aE];refine(Bf hP fd.type cs fd.offset).bind λu=> ?_;exact ih fd.type (.val u)
      |_=>exact .dead trivial
def lq(l){k:Loop->Sem α}{a:Loop->Sem β}(h:∀r,dj (.loop r)=true->aG ρ PL PM f (k r) (a (Av ρ r))):aG ρ PL PM f (Zw l>>=k) (Zw (ρ l)>>=a):=by
 unfold Zw;refine .getObj λo b=> ?_;cases o with
 |loop r=>exact h r b
 |_=>exact .dead trivial
def qM(b:bO PL PM)(l):aG ρ PL PM id (Yh l) (Yh (ρ l)):=by
 unfold Yh;refine lq l λr a=>.setObj a ?_;show aG ρ PL PM id (match r.state with| .ready=>_| .done=>_| .busy=>_| .exhausted=>_) (match r.state with| .ready=>_| .done=>_| .busy=>_| .exhausted=>_);cases r.state with
 |ready=>exact aS _ rfl
 |_=>exact lm b rfl
def vj(l)(a)(c:a.all (jS 0)=true):aG ρ PL PM (aE ρ) (RN l a) (RN (ρ l) a):=by unfold RN;refine lq l λr b=>.setObj ?_ (aS _ (by simp[aE]));simp[dj,jL]at b⊢;simp_all
def oB(b:bO PL PM)(l):aG ρ PL PM id (QR l) (QR (ρ l)):=by unfold QR;refine lq l λr a=> ?_;show aG ρ PL PM id (if (r.state==am4)=true then _ else _) (if (r.state==am4)=true then _ else _);refine cT (mn b rfl _ _) ?_;exact .setObj a (aS _ rfl)
def oH(b):aG ρ PL PM (ag_ (kR ρ)) (UU b) (UU (ρ b)):=by
 unfold UU;refine .getObj λo c=> ?_;cases o with
 |deferred a=>
  cases a with
  |none=>exact .dead trivial
  |some a=>exact .setObj rfl (aS _ rfl)
 |_=>exact .dead trivial
def oA(fn)(tmps)(params)(assign body)(a)(g:jS 0 assign=true)(f:jS 0 body=true)(e:dY fn=0):
 aG ρ PL PM (λx=>(ρ x.1,x.2.map (kR ρ))) (Hb fn tmps params assign body a) (Hb fn (tmps.map (aE ρ)) params assign body (a.map ρ)):=by
 unfold Hb;have c:∀d,dj (.loop {state:= .ready,pending:=none,fn,tmps,params,assign,body,defers:=d})=true:=λd=>by simp[dj,g,f,e]
 cases a with
 |none=>
  refine .new rfl λb=> ?_;exact .new (c b) λn=>aS _ (by simp[kR,Ss])
 |some l=>
  simp;refine lq l λr h=> ?_;exact .new (c _) λn=>aS _ rfl
end
def m0(ρ:Nat->Nat):Next->Next
 | .value v=> .value (aE ρ v)
 | .enter f args=> .enter f (args.map (aE ρ))
 | .round l f tmps a b=> .round (ρ l) f (tmps.map (aE ρ)) a b
 |n=>n
section
variable{α β:Type}{f:α->β}
theorem FR(hP:bO PL PM)(ts)(t)(p)(a b):aG ρ PL PM (aE ρ) (a78 ts t #[p, .s a, .s b]) (a78 ts t #[aE ρ p, .s a, .s b]):=by
 cases p<;>try exact .dead trivial
 rename_i p;simp[aE];unfold a78;cases p
 .refine .choose λn=>cT aU ?_;cases ts[0]?<;>exact aU
 .show aG ρ PL PM (aE ρ) (pure (ad6 (some _))) (pure (ad6 (some (bB ρ _))));exact aU
theorem qK(c:bO PL PM)(t)(x)(b)(w):aG ρ PL PM (aE ρ) (receiverAt t x b w) (receiverAt t (Ly ρ x) b w):=by
 unfold receiverAt;refine(aZ c t).bind λd=> ?_;have e:=FW (ρ:=ρ) c t x;cases d<;>cases b<;>try (cases x<;>first|exact e|exact aU)
 refine e.bind λv=> ?_;cases w
 .simp;exact(nC c v).bind λa=>ln c _ a
 .exact(FR c _ _ v _ _).bind λp=>(nC c p).bind λa=>ln c _ a
def xH(b:bO PL PM)(t)(v)(path)(a):aG ρ PL PM (aE ρ) (receiverVia t v path a) (receiverVia t (aE ρ v) path a):=by unfold receiverVia;exact(tW b path.toList t (.val v)).bind λy=>qK b y.1 y.2 a none
def zN(a:bO PL PM):∀(n:Nat) (t:TypeId) (v:Value) (name:String),aG ρ PL PM (λy=>(y.1,aE ρ y.2)) (method n t v name) (method n t (aE ρ v) name)
 |0,t,v,name=> .dead trivial
 |n+1,t,v,name=>by
  have d:=zN a n;unfold method;refine(dN a t).bind λi=> ?_;dsimp only[id];cases i.methods.find? (·.name==name)with
  |none=>exact .dead trivial
  |some m=>
   refine(tW a m.path.toList t (.val v)).bind λy=> ?_;dsimp only;cases m.func with
   |none=>
    refine(FW a y.1 y.2).bind λu=> ?_;cases u with
    |iface c b=>simp only[aE];exact d c b name
    |nilIface=>simp only[aE];exact lm a rfl
    |_=>simp only[aE];exact .dead trivial
   |some p=>exact(qK a y.1 y.2 p.2 _).bind λr=>aS _ rfl
def DF(hP:bO PL PM):∀(l:List FieldStep) (t:TypeId) (x:Option Value),aG ρ PL PM (λy=>y.map λz=>(z.1,z.2.map (aE ρ))) (followBlind l t x) (followBlind l t (x.map (aE ρ)))
 |[],t,x=>aS _ rfl
 |s::rest,t,x=>by
  have ih:=DF hP rest;unfold followBlind;refine(aZ hP s.struct).bind λe=> ?_;dsimp only[id];cases e<;>try exact .dead trivial
  rename_i fs;dsimp only;cases fs[s.index]?<;>try exact .dead trivial
  rename_i fd;dsimp only;cases s.deref<;>cases x<;>try first|exact aS _ rfl|exact ih fd.type none
  .rename_i v;cases v<;>try exact .dead trivial
   simp only[rN,aE];exact(Bf hP fd.type _ fd.offset).bind λu=>ih fd.type (some u)
  .rename_i v;cases v<;>try exact .dead trivial
   rename_i p;simp only[rN,aE];cases p
   .exact aS _ rfl
   .exact ih fd.type none
def vf(hP:bO PL PM):∀(n:Nat) (t:TypeId) (v:Value) (name:String),aG ρ PL PM id (nilAhead n t v name) (nilAhead n t (aE ρ v) name)
 |0,t,v,name=>aS _ rfl
 |n+1,t,v,name=>by
  have ih:=vf hP n;unfold nilAhead;refine(dN hP t).bind λi=> ?_;dsimp only[id];cases i.methods.find? (·.name==name)with
  |none=>exact .dead trivial
  |some m=>
   refine(DF hP m.path.toList t (some v)).bind λy=> ?_;cases y
   .exact aS _ rfl
   rename_i z;obtain⟨xt,x⟩:=z;simp only[ab2];cases m.func
   .cases x
    .exact aS _ rfl
    rename_i u;cases u<;>simp only[rN,aE]<;>first|exact ih _ _ name|exact aS _ rfl|exact .dead trivial
   rename_i p;obtain⟨g,b⟩:=p;cases b
   .refine(aZ hP xt).bind λd=> ?_;cases d<;>cases x<;>try exact aS _ rfl
    rename_i u;cases u<;>simp only[id,rN,aE]<;>first|exact aS _ rfl|(rename_i q;cases q<;>exact aS _ rfl)
   .cases x<;>exact aS _ rfl
def jl(ρ:Nat->Nat)(PL PM:Program)(g:FuncId):Prop:=
 ∀fn,PL.funcs[g]?=some fn→fn.name≠ "runtime.NumGoroutine" ∧
  ((fn.body.isSome=true∧∃fn',PM.funcs[g]?=some fn'∧fn'.body.isSome=true∧fn'.name≠ "runtime.NumGoroutine")∨
   (fn.body=none∧a32 fn=none∧a91 fn=none∧(fn.name.endsWith ".init" && !fn.name.startsWith "(" && !fn.name.startsWith "gosem.")=false)∨
   (fn.body=none/\a32 fn=none/\PM.funcs[g]?=some fn/\∃e,a91 fn=some e/\∀args,aG ρ PL PM (aE ρ) (e args) (e (args.map (aE ρ)))))
def pJ(g)(q:jl ρ PL PM g)(args):aG ρ PL PM (m0 ρ) (callFunc g args) (callFunc g (args.map (aE ρ))):=by
 unfold callFunc;refine .program ?_;simp only[JU];cases s:PL.funcs[g]? with
 |none=>exact .dead trivial
 |some j=>
  have⟨p,r⟩:=q j s;have b:(j.name== "runtime.NumGoroutine")=false:=by simpa using p
  dsimp only;rw[b];simp only[BZ,↓reduceIte];obtain⟨c,d,i,h,f⟩|⟨c,m,l,k⟩|⟨c,m,i,e,l,k⟩:=r
  .have a:(d.name== "runtime.NumGoroutine")=false:=(by simpa using f);rw[i];dsimp only;rw[a];have o:j.body.isNone=false:=(by simp_all);have n:d.body.isNone=false:=(by simp_all);rw[o,n];simp;exact aS _ rfl
  .rw[c,m,l,k];exact .deadMark trivial
  .rw[i];dsimp only;rw[b,c,m,l];refine .mark rfl ?_;exact(k args).bind λv=>aS _ rfl
def mp(a:bO PL PM)(b:∀g,jl ρ PL PM g)(r)(name)(args):aG ρ PL PM (m0 ρ) (callMethod r name args) (callMethod (aE ρ r) name (args.map (aE ρ))):=by
 unfold callMethod;cases r with
 |iface t v=>
  simp[aE];refine .program ?_;simp[JU];rw[←a.types];refine(zN a _ t v name).bind λy=> ?_;have:=pJ y.1 (b y.1) (#[y.2]++args);simp_all
 |nilIface=>simp[aE];exact lm a rfl
 |_=>simp;exact .dead trivial
def Gc(a):∀(l:List (Tmp×Value)) (tmps:Array Value),(l.map λx=>(x.1,aE a x.2)).foldl (λb x=>b.setIfInBounds x.1 x.2) (tmps.map (aE a))=(l.foldl (λb x=>b.setIfInBounds x.1 x.2) tmps).map (aE a)
 |[],tmps=>rfl
 |x::l,tmps=>by simp;rw[←a02,Gc a l]
def Ni(l)(args):aG ρ PL PM (m0 ρ) (ZI l args) (ZI (ρ l) (args.map (aE ρ))):=by
 unfold ZI;refine lq l λr a=> ?_;rw[ZO];refine cT (.dead trivial) (aS _ ?_);simp only[m0,Av,Next.round.injEq,true_and,and_true];have:=Gc ρ (r.params.zip args).toList r.tmps;rw[←ab4,←ab4,←this]
 congr 1
 simp[Array.zip_eq_zipWith,List.zipWith_map_right,List.map_zipWith]
end
section
variable{α β:Type}{f:α->β}
def cz{s s'}(h:aG ρ PL PM (aE ρ) s s'):aG ρ PL PM (m0 ρ) (do pure (.value (←s))) (do pure (.value (←s'))):=h.bind λ_=>aS _ rfl
def Be{s s'}(h:aG ρ PL PM id s s'):aG ρ PL PM (m0 ρ) (do s;pure .skip) (do s';pure .skip):=h.bind λ_=>aS _ rfl
def G1(c:bO PL PM)(e:NL PL PM ρ)(b)(d:Pj b=true)(a)(t)(cs)(args):aG ρ PL PM (m0 ρ) (builtin b a t cs args) (builtin b a t cs (args.map (aE ρ))):=by
 cases b with
 |append=>exact cz (KA c e.1 a t args)
 |cap=>exact cz (UP c a t args)
 |copy=>exact cz (QJ c a t args)
 |len=>exact cz (UN c a t args)
 |min=>exact cz (UL a t args)
 |max=>exact cz (UM a t args)
 |unsafeSliceData=>exact cz (rA c a t args)
 |unsafeString=>exact cz (vw c a t args)
 |_=>simp[Pj]at d
def vi(e:bO PL PM)(c:∀g,jl ρ PL PM g)(fn)(cap args):aG ρ PL PM (m0 ρ) (invoke (.fn fn cap) args) (invoke (.fn (kQ ρ fn) (cap.map (aE ρ))) (args.map (aE ρ))):=by
 cases fn with
 |func g=>
  have:=pJ g (c g) (args++cap);rw[Yg]at this;exact this
 |method a=>
  unfold invoke;simp only[kQ];rw[By];cases args[0]? with
  |none=>exact .dead trivial
  |some r=>
   have:=mp e c r a (args.extract 1 args.size);simp_all
 |methodOf t a=>
  unfold invoke;simp only[kQ];rw[By];cases args[0]? with
  |none=>exact .dead trivial
  |some r=>
   simp;refine(aZ e t).bind λd=> ?_;dsimp only[id];have i:=mp e c r a (args.extract 1 args.size);have h:=mp e c (.iface t r) a (args.extract 1 args.size);rw[ai7]at i h;rw[show aE ρ (.iface t r)= .iface t (aE ρ r) by simp[aE]]at h
   grind
 |via t b g f=>
  unfold invoke;simp only[kQ];rw[By];cases args[0]? with
  |none=>exact .dead trivial
  |some r=>
   simp;refine(xH e t r b f).bind λv=> ?_;have:=pJ g (c g) (#[v]++args.extract 1 args.size);simp_all
 |yield l=>exact Ni l args
variable{ev':Operand->Value}{z:Nat}
def evs(b:∀x,nG z x=true->ev' x=aE ρ (ev x)){xs:Array Operand}(h:xs.all (nG z)=true):xs.map ev'=(xs.map ev).map (aE ρ):=by grind
def evo(a:∀x,nG z x=true->ev' x=aE ρ (ev x)){x:Option Operand}(h:x.all (nG z)=true):x.map ev'=(x.map ev).map (aE ρ):=by
 cases x with
 |none=>rfl
 |some x=>simp_all
def evp(c:∀x,nG z x=true->ev' x=aE ρ (ev x)){a:Array (Nat×Operand)}(h:(a.all λx=>nG z x.2)=true):(a.map λ(i,x)=>(i,ev' x))=(a.map λ(i,x)=>(i,ev x)).map λx=>(x.1,aE ρ x.2):=by
 rw[an5]
 grind
def QL(i:bO PL PM)(n:NL PL PM ρ)(m:∀g,jl ρ PL PM g)(l:∀x,nG z x=true->ev' x=aE ρ (ev x))(c)(t)(h:rc z c=true):
 aG ρ PL PM (m0 ρ) (do let d←resolve ev c t;invoke d.target d.args) (do let d←resolve ev' c t;invoke d.target d.args):=by
 unfold resolve;simp only[rc,jL]at h;rw[evs l h.1];have f:=h.2;cases a:c.callee with
 |builtin b=>
  rw[a]at f;exact G1 i n b f ..
 |invoke r k=>simp_all
 |value g=>
  rw[a]at f;dsimp only;rw[l g f];unfold XD;cases ev g with
  |func o first j=>
   simp only[aE,pure_bind];rw[←Yg];exact vi i m o j _
  |nilFunc=>
   simp[aE,pure_bind];exact lm (e:= .nilDeref) i rfl
  |_=>simp;exact .dead trivial
def Du(c:bO PL PM)(v)(x g)(h:ev x=v)(d:ev' g=aE ρ v){o'}(i:o.op= .nilCheck x)(f:o'.op= .nilCheck g):aG ρ PL PM (m0 ρ) (execOp ev o) (execOp ev' o'):=by
 unfold execOp;rw[i,f];dsimp only;rw[h,d];cases v<;>simp only[aE]<;>try first|exact lm c rfl|exact aS _ (by simp[m0,aE];done)
 .rename_i p;cases p
  .exact lm c rfl
  .exact aS (ae6 (.pointer (some _))) (by simp[m0,aE])
 .rename_i j first b
  cases j<;>try exact aS (ae6 (.func _ first b)) (by simp[m0,aE])
  rename_i a;have e:aG ρ PL PM (m0 ρ) (pure (.value (.func (.method a) first b))) (pure (.value (.func (.method a) (first.map (aE ρ)) (b.map (aE ρ))))):=aS _ (by simp[m0,aE,kQ]);simp only[kQ];rw[By];cases first[0]?
  .exact e
  rename_i u;cases u<;>simp only[rN,aE]<;>try first|exact lm c rfl|exact e
  refine .program ?_;simp only[JU];rw[←c.types];exact(vf c _ _ _ a).bind λq=>cT (.dead trivial) e
def Bg(a:bO PL PM)(h:NL PL PM ρ)(i:∀g,jl ρ PL PM g)(c:∀x,nG z x=true->ev' x=aE ρ (ev x))(o)(b:oK z o.op=true):aG ρ PL PM (m0 ρ) (execOp ev o) (execOp ev' o):=by
 by_cases f:∃x,o.op= .nilCheck x
 .have⟨x,e⟩:=f;rw[e]at b;exact Du a (ev x) x x rfl (c x b) e e
 unfold execOp;cases d:o.op
 case nilCheck x=>simp_all
 all_goals rw[d]at b
 all_goals try simp only[oK,jL]at b
 all_goals try simp only[c,evs c,evp c,evo c,b]
 all_goals first
  |(cases b;done)
  |exact aS _ rfl
  |exact QL a h i c _ o.type b
  |exact cz (Nw a _)
  |exact cz (UQ _ _)
  |exact cz (Nu a _ _)
  |exact cz (yu a ..)
  |exact cz (iG a _ _)
  |exact Be (FT a ..)
  |exact cz ((Np a ..).bind λ_=>UR a h ..)
  |exact cz (Nj _ _)
  |exact cz (G0 a ..)
  |exact cz (tT a _ _)
  |exact cz (Dy _ b.1.1 _ _)
  |exact cz (Bh a ..)
  |exact cz (FU a ..)
  |exact cz (FX a ..)
  |exact cz (Nq a ..)
  |exact cz (lp a ..)
  |exact cz (Nn a ..)
  |exact cz (FY _ _)
  |exact(zV _).bind λq=>aS _ (by cases q<;>rfl)
end
def dx(ρ:Nat->Nat):Item->Item
 | .inRangeFunc l=> .inRangeFunc (ρ l)
 | .endRangeFunc l=> .endRangeFunc (ρ l)
 | .call d w r s=> .call (kR ρ d) w r (s.map (aE ρ))
 | .extern r a=> .extern r (a.map (aE ρ))
 |i=>i
def kZ:Value->Bool
 | .pointer (some a)=>a.block==fP
 |_=>false
def js(ρ:Nat->Nat)(v:Value):Value:=if kZ v=true then v else aE ρ v
def oF(z:Nat)(ρ:Nat->Nat)(v:Value):Value:=if z=1 then js ρ v else v
def jX(ρ:Nat->Nat)(fn:FuncId)(tmps:Array Value):Array Value:=
 tmps.mapIdx λi v=>if qH (dY fn) i=true then oF (dY fn) ρ v else aE ρ v
def bF(ρ:Nat->Nat)(fr:Frame):Frame:=
 {fr with tmps:=jX ρ fr.fn fr.tmps,todo:=fr.todo.map (dx ρ),defers:=fr.defers.map (kR ρ),roundOf:=fr.roundOf.map ρ}
def mc(z:Nat):Item->Bool
 | .code c=>jS z c
 | .inLoop b| .inScope b=>jS z b
 | .inBlock _=>true
 | .inRegion ops l=>ops.all (Br z)||(eB z ops&&(l==[0,1]||l==[1]||l==[]))
 | .inRangeFunc _| .endRangeFunc _| .beginRound=>z==0
 | .call ..| .extern ..=>false
def ei(ds:List Deferred):Bool:=ds.all λd=>match d.target with
 | .collected _=>true
 | .fn (.func g) _=>g==gI
 |_=>false
def SD:FrameMode->Bool
 | .panicking ch=> !ch.isEmpty&&ch.all λe=>bW e.v&& !e.goexit
 |_=>true
structure OkB (fr:Frame):Prop where
 defers:ei fr.defers=true
 mode:SD fr.mode=true
 kind:fr.kind= .normal\/fr.kind= .deferred
 round:dY fr.fn≠0->fr.roundOf=none
def GM(z:Nat):Item->Bool
 | .inRegion _ _=>false
 |i=>mc z i
def lP(z:Nat):List Item->Bool
 |[]=>true
 |i::k=>mc z i&&k.all (GM z)
def W9{z}{i}(h:GM z i=true):mc z i=true:=by cases i<;>first|exact h|cases h
def AD{z}{k}(h:k.all (GM z)=true):lP z k=true:=by
 cases k with
 |nil=>rfl
 |cons i k=>
  simp[Yi,jL]at h;simp[lP,jL];exact⟨W9 h.1,h.2⟩
structure jk (fr:Frame):Prop extends OkB fr where
 todo:lP (dY fr.fn) fr.todo=true
def oC(fr:Frame):Prop:=fr.mode= .run->∀ops k,fr.todo= .inRegion ops [1]::k->eB 3 ops=true->∃(o:Oper) (d:Tmp),ops[1]?=some o/\o.guard=none/\o.dst=none/\
 ((o.op= .panic (.tmp d)/\(fr.tmps[d]?=none\/∃t s,fr.tmps[d]?=some (.iface t (.string s))))\/(∃c,o.op= .defer c/\c.args.isEmpty=true/\c.callee= .value (.tmp d)/\(fr.tmps[d]?=none\/∃a b,fr.tmps[d]?=some (.func (.func gI) a b))))
def gT(h:∀ops k,fr.todo≠ .inRegion ops [1]::k):oC fr:=λ_ ops k e=>absurd e (h ops k)
def tA(h:fr.mode≠ .run):oC fr:=λe=>absurd e h
def GX(b:∀ops k,fr.todo= .inRegion ops [1]::k->eB 3 ops=false):oC fr:=λ_ ops k e a=>by simp_all
def sq{z}(h:ops.all (Br z)=true):eB 3 ops=false:=by
 cases a:eB 3 ops with
 |false=>rfl
 |true=>
  have⟨l⟩:=ops;unfold eB at a;split at a
  .rename_i o p e;simp only at e;subst e;have c:=V6.1 h p s_;simp at a;have a:=a.2;split at a
   .rename_i b;simp[Br,oK,DU,b]at c
   .rename_i b;simp[Br,oK,DU,b]at c
   .cases a
  .cases a
def yW(a)(fn)(tmps):(jX a fn tmps).size=tmps.size:=by simp[jX]
def fW(a)(fn)(tmps)(t)(h:qH (dY fn) t=false):(jX a fn tmps)[t]?=(tmps[t]?).map (aE a):=by simp[jX,a36,h,BZ,↓reduceIte]
def lN(a)(fn)(tmps)(t)(h:qH (dY fn) t=true):(jX a fn tmps)[t]?=(tmps[t]?).map (oF (dY fn) a):=by simp[jX,a36,h,↓reduceIte]
def nR(a){fn}(h:dY fn=0)(tmps):jX a fn tmps=tmps.map (aE a):=by
 have:dY fn=0:=by simpa using h
 apply a23
 .simp[jX]
 .intro i c b;simp[jX,this,Yt]
def gh(a):aE a undef=undef:=eA a undef rfl
def fX(fr)(x)(h:nG (dY fr.fn) x=true):(bF ρ fr).eval x=aE ρ (fr.eval x):=by
 cases x with
 |tmp t=>
  have a:qH (dY fr.fn) t=false:=by simp[nG,a41]at h;exact h
  have:=fW ρ fr.fn fr.tmps t a;simp[a04,bF,JQ];rw[this];cases fr.tmps[t]? with
  |none=>exact(gh ρ).symm
  |some v=>rfl
 |const v=>simp[a04];exact(eA ρ v h).symm
 |func g=>simp[a04,aE,kQ]
 |global g=>cases h
def C3(a)(fn)(tmps)(d)(v)(h:qH (dY fn) d=false):(jX a fn tmps).setIfInBounds d (aE a v)=jX a fn (tmps.setIfInBounds d v):=by
 apply a67;intro i;by_cases f:qH (dY fn) i=true
 .rw[lN a fn _ i f];have b:d≠i:=λe=>by simp_all
  rw[sN b,sN b,lN a fn _ i f]
 .have c:qH (dY fn) i=false:=by simpa using f
  rw[fW a fn _ i c];by_cases g:d=i
  .subst g;rw[VE,VE,yW];simp_all
  .rw[sN g,sN g,fW a fn _ i c]
def tx(fr:Frame):Prop:=∀ops j rest k,fr.todo= .inRegion ops (j::rest)::k->ops.all (Br (dY fr.fn))=true
def jk.noPair{fr:Frame}(h:jk fr)(hz:dY fr.fn=1):tx fr:=λops j rest k e=>by
 have:=h.todo;rw[e]at this;simp only[lP,jL,mc,ZC]at this;rcases this.1 with h|h
 .exact h
 .have h1:=h.1;unfold eB at h1;split at h1
  .simp[hz]at h1
  .cases h1
def eL(fr:Frame):Prop:=(∀o d,fr.oper?=some o->o.dst=some d->qH (dY fr.fn) d=false)/\tx fr
def tN(h:∀ops j rest k,fr.todo≠ .inRegion ops (j::rest)::k):eL fr:=by refine⟨λo d a=> ?_,λops j rest k e=>absurd e (h ops j rest k)⟩;unfold a46 at a;simp_all
def gG(fr)(v)(h:jk fr)(z:eL fr):(bF ρ fr).finish (aE ρ v)=bF ρ (fr.finish v):=by
 have⟨y,f,b,m,u,x,g⟩:=fr;cases b with
 |nil=>rfl
 |cons i k=>
  have p:=h.todo;simp[lP,jL]at p;cases i with
  |inRegion c b=>
   cases b with
   |nil=>rfl
   |cons j t=>
    have q:∀d,(c[j]?).bind (·.dst)=some d->qH (dY y) d=false:=λd e=>by
     cases n:c[j]? with
     |none=>simp_all
     |some o=>rw[n]at e;exact z.1 o d n e
    simp[bF,ZD,JS,dx];cases e:(c[j]?).bind (·.dst)with
    |none=>simp
    |some d=>simp[C3 ρ y f d v (q d e)]
  |inRangeFunc l=>rfl
  |beginRound=>rfl
  |call d w r s=>cases p.1
  |extern r a=>cases p.1
  |_=>rfl
def zg(fr)(v)(h:jk fr)(F:tx fr):jk (fr.finish v)/\(oC fr->oC (fr.finish v)):=by
 have⟨G,y,b,o,A,B,g⟩:=fr;have x:=h;have⟨⟨u,t,q,p⟩,c⟩:=h;cases b with
 |nil=>exact⟨x,id⟩
 |cons i k=>
  simp only[lP,jL]at c;cases i with
  |inRegion n b=>
   cases b with
   |nil=>exact⟨x,id⟩
   |cons j m=>
    have f:=F n j m k rfl;refine⟨⟨⟨u,t,q,p⟩, ?_⟩,λ_ _ z E e C=> ?_⟩
    .simp only[ZD,lP,jL];exact⟨by simp[mc,f,aj2],c.2⟩
    .simp[ZD,List.cons.injEq,ah7.injEq]at e;rw[←e.1.1,sq f]at C;cases C
  |inRangeFunc l=>exact⟨⟨⟨u,t,q,p⟩,by simp only[ZD,lP,jL];exact⟨c.1,c.2⟩⟩,λ_=>gT λ_ _ e=>by simp[ZD]at e⟩
  |beginRound=>
   refine⟨⟨⟨u,t,q,p⟩,AD c.2⟩,λ_=>gT λn E e=> ?_⟩;simp[ZD]at e;have D:=c.2;rw[e]at D;simp[GM]at D
  |call d w r s=>cases c.1
  |extern r a=>cases c.1
  |_=>exact⟨x,id⟩
def dU(fr:Frame)(v):(fr.finish v).kind=fr.kind:=by unfold ZD;split<;>rfl
def mt:CallKind->List Frame->Prop
 |_,[]=>True
 |kd,c::r=>jk c/\(eL c\/(kd= .deferred/\c.mode≠ .run))/\mt c.kind r
def qi(m:∃fn a,PL.funcs[f]?=some fn/\PM.funcs[f]?=some a/\fn.ntmps=a.ntmps/\fn.body=a.body)(args)(l:∀v∈args,kZ v=false)(j:dY f≠2)(e):yj PM f (args.map (aE ρ)) e=bF ρ (yj PL f args e):=by
 have⟨fn,a,s,r,q,p⟩:=m;simp[yj,bF,s,r,rN,IN,IS,q,p,JS,aa7,dx,al7,ZO]
 congr 1
 apply a67;intro i;by_cases b:qH (dY f) i=true
 .rw[lN ρ f _ i b,←By,Yg,aa3];have c:dY f=1:=by unfold qH at b;simp_all
  have g:∀v,oF (dY f) ρ v=js ρ v:=λv=>by simp[oF,c]
  have o:args.map (oF (dY f) ρ)=args.map (aE ρ):=ag1 λv k=>by rw[g];simp[js,l v k]
  have n:oF (dY f) ρ undef=undef:=(g _).trans (gh ρ);rw[o,n]
 .have d:qH (dY f) i=false:=by simpa using b
  rw[fW ρ f _ i d,←By,Yg,aa3,gh]
def Bt:Next->Bool
 | .value _| .skip| .enter ..| .round ..=>true
 |_=>false
def de(P:Program)(s:Sem Next):Prop:=∀w n w',s.run P w= .ok n w'->Bt n=true
def de.pure{n:Next}(h:Bt n=true):de P (pure n):=λw m a e=>by cases e;exact h
def de.halt(x):de P (.halt x):=λw m a e=>by cases e
def de.after{b}{s}{k:b->Sem Next}(h:∀a,de P (k a)):de P (s>>=k):=λw n f e=>by
 rw[Rk]at e;cases d:s.run P w with
 |ok a c=>rw[d]at e;exact h a c n f e
 |halt x c=>simp_all
def de.ite{c}[Decidable c]{A B}(b:de P A)(a:de P B):de P (if c then A else B):=by grind
def de.rt(e):de P (runtimePanic e):=λw n c h=>by have xQ:=YM (PL:=P) (α:=Next) e w;simp_all
def gE(s):de P (do pure (.value (←s))):=de.after λ_=> .pure rfl
def tH(s):de P (do s;pure .skip):=de.after λ_=> .pure rfl
def mj(g)(m:jl ρ P PM g)(args):de P (callFunc g args):=by
 unfold callFunc;intro w n j h;rw[Rk]at h
 change (match P.funcs[g]? with|none=>_|some b=>_:Sem Next).run P w=_ at h
 cases d:P.funcs[g]? with
 |none=>simp_all
 |some b=>
  rw[d]at h;have⟨l,o⟩:=m b d;have c:(b.name== "runtime.NumGoroutine")=false:=by simpa using l
  simp only[c,BZ,↓reduceIte]at h;obtain⟨a,_⟩|⟨a,i,f,p⟩|⟨a,i,_,e,f,_⟩:=o
  .have k:b.body.isNone=false:=(by simp_all);simp only[k,BZ,↓reduceIte]at h;cases h;rfl
  .simp_all
  .rw[a,i,f]at h;exact de.after (λ_=>gE (e args)) w n j h
def oG(a:∀g,jl ρ P PM g)(r)(name)(args):de P (callMethod r name args):=by
 unfold callMethod;cases r with
 |iface t v=>exact de.after λp=>de.after λy=>mj y.1 (a y.1) _
 |nilIface=>exact de.rt _
 |_=>exact de.halt _
def Fu(l)(args):de P (ZI l args):=by unfold ZI;refine de.after λr=> ?_;exact de.ite (de.halt _) (.pure rfl)
def qF(b:∀g,jl ρ P PM g)(fn)(cap args):de P (invoke (.fn fn cap) args):=by
 cases fn with
 |func g=>exact mj g (b g) _
 |method a=>
  unfold invoke;dsimp only;cases args[0]? with
  |none=>exact de.halt _
  |some r=>exact oG b _ _ _
 |methodOf t a=>
  unfold invoke;dsimp only;cases args[0]? with
  |none=>exact de.halt _
  |some r=>exact de.after λd=>oG b _ _ _
 |via t c g e=>
  unfold invoke;dsimp only;cases args[0]? with
  |none=>exact de.halt _
  |some r=>exact de.after λd=>mj g (b g) _
 |yield l=>exact Fu l args
def AN(b)(c:Pj b=true)(a)(t)(cs)(args):de P (builtin b a t cs args):=by cases b<;>first|exact gE _|(simp[Pj]at c;done)
def JP(j:∀g,jl ρ P PM g)(ev){z}(c)(t)(i:rc z c=true):de P (do let d←resolve ev c t;invoke d.target d.args):=by
 unfold resolve;simp[rc,jL]at i;have e:=i.2;cases a:c.callee with
 |builtin b=>rw[a]at e;exact AN b e _ _ _ _
 |invoke r h=>simp_all
 |value g=>
  dsimp only;unfold XD;cases ev g with
  |func k first f=>exact qF j k f _
  |nilFunc=>exact de.rt .nilDeref
  |_=>exact de.halt _
def zu(f:∀g,jl ρ P PM g)(ev){z}(o)(e:oK z o.op=true):de P (execOp ev o):=by
 unfold execOp;cases d:o.op with
 |move x=>exact .pure rfl
 |assign x=>exact .pure rfl
 |pick a b c=>exact de.after λ_=> .pure rfl
 |store t a x=>exact tH _
 |nilCheck x=>
  dsimp only;split<;>first
   |exact de.rt _
   |exact .pure rfl
   |(split<;>first
      |exact de.rt _
      |exact .pure rfl
      |(refine de.after λ_=>de.after λ_=> ?_;exact de.ite (de.halt _) (.pure rfl)))
 |call c=>rw[d]at e;exact JP f ev c o.type e
 |_=>first
  |exact gE _
  |(rw[d]at e;cases e)
def iW(P:Program)(fr:Frame)(cs:List Frame):Next->Goroutine
 | .value v=>{frame:=fr.finish v,callers:=cs,status:= .running,dying:=none}
 | .enter f args=>{frame:=yj P f args .normal,callers:=fr::cs,status:= .running,dying:=none}
 | .round l f tmps a b=>{frame:=YU l f tmps a b .normal,callers:=fr::cs,status:= .running,dying:=none}
 |_=>{frame:=fr.finish undef,callers:=cs,status:= .running,dying:=none}
def eO(fr:Frame):Prop:=∀d w r s k,fr.todo≠ .call d w r s::k
def jk.noCall{fr:Frame}(h:jk fr):eO fr:=λd w r s k e=>by have:=h.todo;rw[e]at this;simp[lP,mc]at this
section
variable{s:Sem Next}
def ee(g:eO fr){n}(b:s.runT P w #[]=(.ok n w',es))(c:Bt n=true):
 stepG.apply P true fr cs none s w= .go (iW P fr cs n) w' (seen P fr.fn (if fr.kind== .early then #[]else es)):=by
 unfold stepG.apply;simp only[b,↓reduceIte];cases n with
 |enter f a=>
  simp[u5,iW,Mx];split
  .rename_i e;exact absurd e (g _ _ _ _ _)
  .rfl
 |_=>first
  |(simp[Bt]at c;done)
  |simp[u5,iW]
def nD{a}{x}(h:u5 es x= .go g w a):∃es1,x= .go g w es1:=by cases x<;>simp[u5,a24.injEq,reduceCtorEq]at h;simp_all
def uU{m}(h:endFatal P fr cs none m w= .go g w' es)(a:g.dying=none):False:=by
 unfold endFatal at h;dsimp only at h;split at h
 .simp[dieOf,a24.injEq]at h
  grind
 .cases h
 .cases h
def mN(d)(fr)(h):(bF d fr).raise h=bF d (fr.raise h):=by have⟨i,f,e,c,b,g,a⟩:=fr;cases b<;>rfl
def EE(ch:List PanicEntry):Bool:= !ch.isEmpty&&ch.all λe=>bW e.v&& !e.goexit
def OkB.raise{fr}(h:OkB fr){i}(c:EE i=true):OkB (fr.raise i):=by
 have⟨o,k,j,d,b,l,a⟩:=fr;have⟨g,m,f,e⟩:=h;cases b with
 |panicking n=>
  refine⟨g, ?_,f,e⟩;simp[SD,EE,jL,ap0,af2]at m c⊢;simp_all
 |run=>exact⟨g,c,f,e⟩
 |returning=>exact⟨g,c,f,e⟩
def wJ(fr:Frame)(g):(fr.raise g).todo=fr.todo/\(fr.raise g).fn=fr.fn:=by have⟨h,e,d,c,b,f,a⟩:=fr;cases b<;>exact⟨rfl,rfl⟩
def jk.raise{fr}(h:jk fr){a}(b:EE a=true):jk (fr.raise a):=⟨h.toOkB.raise b,by rw[(wJ fr a).1,(wJ fr a).2];exact h.todo⟩
def kW(fr:Frame)(g):oC (fr.raise g):=tA (by have⟨h,e,d,c,b,f,a⟩:=fr;cases b<;>simp[ap0])
def kT(fr:Frame)(g):(fr.raise g).kind=fr.kind:=by have⟨h,e,d,c,b,f,a⟩:=fr;cases b<;>rfl
def zF{fr}(h:eL fr):oC fr:=λ_ b k e a=>by rw[sq (h.2 _ _ _ _ e)]at a;cases a
def pj{fr}(h:jk fr)(a:eL fr)(v):jk (fr.finish v)/\oC (fr.finish v):=⟨(zg fr v h a.2).1,(zg fr v h a.2).2 (zF a)⟩
def j8(fr:Frame)(cs:List Frame)(v:Value):Goroutine:={frame:=fr.raise [{v,recovered:=false}],callers:=cs,status:= .running,dying:=none}
def wQ(a:s.runT P w #[]=(.halt (.panic v) w',es)):
 stepG.apply P true fr cs none s w= .go (j8 fr cs v) w' (seen P fr.fn (if fr.kind== .early then #[]else es)):=by unfold stepG.apply;simp only[a,↓reduceIte,u5,Mx];rfl
def sR(o:eO fr)(t:de P s)(h:stepG.apply P listen fr cs none s w= .go g w' es)
 (hq:g.status= .running) (p:∀x w1,s.run P w= .halt x w1->fR x\/∃v,x= .panic v)
 (i:g.dying=none):(∃n,s.run P w= .ok n w'/\Bt n=true/\g=iW P fr cs n)\/∃v,s.run P w= .halt (.panic v) w'/\g=j8 fr cs v:=by
 have d:(if listen=true then s.runT P w #[]else(s.run P w,#[])).1=s.run P w:=by
  split
  .simp_all
  .rfl
 unfold stepG.apply at h;generalize (if listen=true then s.runT P w #[]else(s.run P w,#[]))=q at h d;have⟨r,z⟩:=q;simp only at d;subst d;simp only at h;cases b:s.run P w with
 |ok n w1=>
  rw[b]at h;have l:=t w n w1 b;cases n with
  |enter f j=>
   simp at h;obtain⟨rfl,rfl,_⟩:=h;refine .inl ⟨_,rfl,rfl, ?_⟩;simp[iW];split
   .rename_i e;exact absurd e (o _ _ _ _ _)
   .rfl
  |_=>first
   |(simp[Bt]at l;done)
   |(simp at h
     obtain⟨rfl,rfl,_⟩:=h;exact .inl ⟨_,rfl,rfl,rfl⟩)
 |halt x w1=>
  rw[b]at h;have a:=p x w1 b;cases x with
  |panic v=>
   simp at h;obtain⟨rfl,rfl,_⟩:=h;exact .inr ⟨v,rfl,rfl⟩
  |goexit=>rcases a with h|⟨_,h⟩<;>cases h
  |blocked=>rcases a with h|⟨_,h⟩<;>cases h
  |waiting=>rcases a with h|⟨_,h⟩<;>cases h
  |unsupported u=>
   cases u with
   |initOrder k=>rcases a with h|⟨_,h⟩<;>cases h
   |_=>simp[u5]at h
  |stuck m=>simp[u5]at h
  |exit c=>simp[u5]at h
  |throw m=>
   simp[endThrow,dieOf,u5,a24.injEq]at h
   grind
  |fatal m=>
   have⟨y,A⟩:=nD h;exact(uU A i).elim
end
def dT(P)(fn)(es):∀e∈seen P fn es,e∈es:=by
 intro e b;unfold seen at b;dsimp only at b;revert b;refine Array.foldl_induction (motive:=λ_ (x:Bool×Array Event)=>e∈x.2->e∈es) s_ ?_
 grind
structure fc (G:Nat) (D:Nat->Prop) (ρ:Nat->Nat) (base:List Frame) (gL gM:Goroutine):Prop where
 frame:∀ρ',aV G D ρ ρ'->gM.frame=bF ρ' gL.frame
 callers:∀ρ',aV G D ρ ρ'->gM.callers=gL.callers.map (bF ρ')++base
 ok:jk gL.frame/\oC gL.frame
 oks:mt gL.frame.kind gL.callers
 run:gL.status= .running/\gM.status= .running/\gL.dying=none/\gM.dying=none
def GL(a)(n):Bt (m0 a n)=Bt n:=by cases n<;>rfl
def oe{f g:Value->Value}{xs:Array Value}(h:xs.map f=xs.map g)(hv:v∈xs):f v=g v:=by simp_all
def dp.noTab{G T}{c}{wL d}(h:dp G T D c wL d)(g:fP<G)(hv:∀b,aV G D c b->aE b v=aE c v):kZ v=false:=by
 cases v with
 |pointer p=>
  cases p with
  |none=>rfl
  |some a=>
   have e:=h.dom λb f=>by have:=hv b f;simp[aE,rN,ad6.injEq,Option.some.injEq]at this;exact congrArg ab3 this
   have:=h.out _ e;simp[kZ,beq_eq_false_iff_ne];omega
 |_=>rfl
section
variable{G T:Nat}{base:List Frame}
def jT(PL PM:Program)(f:FuncId):Prop:=∃fn fn',PL.funcs[f]?=some fn/\PM.funcs[f]?=some fn'/\fn.ntmps=fn'.ntmps/\fn.body=fn'.body/\∃c,fn.body=some c/\vq f c=true
def lV(hG:fP<G)(hV:∀w a b,YW PM w a b=YW PL w a b)(hS:∀w a v b,XC PM w a v b=XC PL w a v b)(P:dp G T D ρ wL wM)
 {fr'} {cs'} (y:∀g,aV G D ρ g->fr'=bF g fr) (B:∀g,aV G D ρ g->cs'=cs.map (bF g)++base) (ok:jk fr) (A:mt fr.kind cs) (o:eL fr)
 {s s'} (Y:∀g,aV G D ρ g->aG g PL PM (m0 g) s s') (h4:de PL s) (hI:∀x w1,s.run PL wL= .halt x w1->fR x\/∃v,x= .panic v)
 (hE:∀f args w1,s.run PL wL= .ok (.enter f args) w1->jT PL PM f)
 (hR:∀l f tmps a b w1,s.run PL wL= .ok (.round l f tmps a b) w1->jS 0 a=true/\jS 0 b=true/\dY f=0)
  {I} {wL'} {R} (h:stepG.apply PL listen fr cs none s wL= .go I wL' R) (hT:wL'.drawn<=T) (hq:I.status= .running) (hd:I.dying=none):
 ∃D' g gM wM' F,stepG.apply PM true fr' cs' none s' wM= .go gM wM' F/\fc G D' g base I gM/\jz G T D ρ wL wM D' g wL' wM'/\∀e∈F,jm D' g e:=by
 obtain⟨n,u,Z,rfl⟩|⟨v,u,rfl⟩:=sR ok.noCall h4 h hq hI hd
 rotate_left
 .have⟨D',p,r',wM',S,W,V,z,U⟩:=eH hV hS m0 s s' D ρ wL wM P Y #[] _ wL' u rfl hT;cases V with
  |panic hp=>
   have q:=λg (j:aV G D' p g)=>aV.of_ran z j;refine⟨D',p,_,wM',_,wQ W,⟨λg j=> ?_,λg j=>B g (q g j),⟨ok.raise (by simp[EE,hp]),kW _ _⟩,by rw[j8,kT];exact A,rfl,rfl,rfl,rfl⟩,z,λe N=> ?_⟩
   .show fr'.raise _=bF g (fr.raise _);rw[y g (q g j),mN]
   .have:=dT _ _ _ e N;simp_all
 have⟨D',p,r',wM',S,W,V,z,U⟩:=eH hV hS m0 s s' D ρ wL wM P Y #[] _ wL' u rfl hT;cases V with
 | @ok _ n' _ _ m=>
   have O:eO fr':=by
    intro d w r s k e;rw[(y ρ P.self)]at e;have:=ok.noCall;cases K:fr.todo with
    |nil=>simp[bF,K]at e
    |cons i t=>
     simp only[bF,K,JS,List.cons.injEq]at e;cases i<;>simp[dx]at e;exact this _ _ _ _ _ K
   have M:Bt n'=true:=(by rw[m p z.rel.self,GL];exact Z);refine⟨D',p,_,wM',_,(ee (cs:=cs') O W M), ?_,z,λe N=> ?_⟩
   .have q:=λg (j:aV G D' p g)=>aV.of_ran z j;cases n with
    |value v=>
     refine⟨λg j=> ?_,λg j=> ?_,pj ok o v,by show mt (fr.finish v).kind cs;rw[dU];exact A, ?_⟩
     .rw[m g j];show fr'.finish (aE g v)=bF g (fr.finish v);rw[y g (q g j),gG fr v ok o]
     .rw[m g j];exact B g (q g j)
     .rw[m p z.rel.self];exact⟨rfl,rfl,rfl,rfl⟩
    |skip=>
     refine⟨λg j=> ?_,λg j=> ?_,pj ok o undef,by show mt (fr.finish undef).kind cs;rw[dU];exact A, ?_⟩
     .rw[m g j];show fr'.finish undef=bF g (fr.finish undef);rw[y g (q g j),←gG fr undef ok o,gh]
     .rw[m g j];exact B g (q g j)
     .rw[m p z.rel.self];exact⟨rfl,rfl,rfl,rfl⟩
    |enter f args=>
     have⟨fn,Q,H,J,C,q4,c,q5,X⟩:=hE f args wL' u;have ha:∀v∈args,kZ v=false:=λv hv=>by refine z.rel.noTab hG λg j=> ?_;have:=(m g j).symm.trans (m p z.rel.self);simp only[m0,Next.enter.injEq,true_and]at this;simp_all
     refine⟨λg j=> ?_,λg j=> ?_, ?_, ?_, ?_⟩
     .rw[m g j];exact qi ⟨fn,Q,H,J,C,q4⟩ args ha (GN X) .normal
     .rw[m g j];show fr'::cs'=_;rw[y g (q g j),B g (q g j)];rfl
     .refine⟨⟨⟨rfl,rfl, .inl rfl,λ_=>rfl⟩, ?_⟩,gT λ_ _ e=>by cases e⟩;simp only[iW,yj,H,IS,q5,IN,lP,aa8,a89];exact GO X
     .exact⟨ok, .inl o,A⟩
     .rw[m p z.rel.self];exact⟨rfl,rfl,rfl,rfl⟩
    |round l f tmps a b=>
     obtain⟨H,J,C⟩:=hR l f tmps a b wL' u;refine⟨λg j=> ?_,λg j=> ?_, ?_, ?_, ?_⟩
     .rw[m g j];show YU (g l) f (tmps.map (aE g)) a b .normal=bF g (YU l f tmps a b .normal);simp only[YU,bF,nR g C,JS,aa7,dx,rN]
     .rw[m g j];show fr'::cs'=_;rw[y g (q g j),B g (q g j)];rfl
     .have hz:dY f=0:=(by simpa using C);refine⟨⟨⟨rfl,rfl, .inl rfl,λe=>absurd C e⟩, ?_⟩,gT λ_ _ e=>by cases e⟩;simp[iW,YU,hz,lP,mc,GM,H,J]
     .exact⟨ok, .inl o,A⟩
     .rw[m p z.rel.self];exact⟨rfl,rfl,rfl,rfl⟩
    |_=>simp[Bt]at Z
   .have:=dT _ _ _ e N;simp_all
end
def rp(a)(id):∀k,exitTo id (k.map (dx a))=(exitTo id k).map (ag_ (dx a))
 |[]=>rfl
 |i::k=>by
  have b:=rp a id k;cases i with
  |inBlock c=>
   simp[JS,dx,exitTo]
   grind
  |_=>simp;exact b
def tJ(z)(id):∀k {t:List Item},exitTo id k=some t->k.all (GM z)=true->t.all (GM z)=true
 |[],t,h,_=>by cases h
 |i::k,t,h,ha=>by
  simp only[Yi,jL]at ha;cases i with
  |inBlock a=>
   simp[exitTo]at h;split at h
   .simp_all
   .exact tJ z id k h ha.2
  |_=>simp[exitTo]at h;exact tJ z id k h ha.2
def fE(a)(fn)(ops)(tmps)(j):yielded ops (jX a fn tmps) j=yielded ops tmps j:=by
 unfold yielded;cases (ops[j]?).bind (·.dst)with
 |none=>rfl
 |some d=>
  simp;by_cases h:qH (dY fn) d=true
  .rw[lN a fn tmps d h];cases tmps[d]? with
   |none=>rfl
   |some v=>
    by_cases b:dY fn=1
    .by_cases c:kZ v=true
     .simp[oF,b,js,c]
     .simp[rN,oF,b,js,c];cases v<;>simp[aE]
    .simp[oF,b]
  .rw[fW a fn tmps d (by simpa using h)];cases tmps[d]? with
   |none=>rfl
   |some v=>cases v<;>simp[aE]
def E7{G}{base}{fr'}{cs'}(f:∀a,aV G D ρ a->fr'=bF a fr)(g:∀a,aV G D ρ a->cs'=cs.map (bF a)++base)(c:jk fr)(d:mt fr.kind cs)
 {t h} (j:∀a,aV G D ρ a->h=t.map (dx a)) (e:lP (dY fr.fn) t=true) (b:∀ops k,t= .inRegion ops [1]::k->eB 3 ops=false):
 fc G D ρ base {frame:={fr with todo:=t},callers:=cs,status:= .running,dying:=none} {frame:={fr' with todo:=h},callers:=cs',status:= .running,dying:=none}:=by refine⟨λa i=> ?_,g,⟨⟨⟨c.defers,c.mode,c.kind,c.round⟩,e⟩,GX b⟩,d,rfl,rfl,rfl,rfl⟩;rw[f a i,j a i];rfl
section
variable{G T:Nat}{base:List Frame}
def co(fr:Frame):Option (List Item):=
 match fr.todo with
 | .inRegion _ []::k=>some k
 | .inScope _::k=>some k
 | .inBlock _::k=>some k
 | .inLoop b::k=>some (.code b:: .inLoop b::k)
 | .code c::k=>
   match c with
   | .label _=>some k
   | .skip=>some k
   | .region _ ops false=>some (.inRegion ops (px ops.size)::k)
   | .exit id=>exitTo id k
   | .scope b=>some (.code b:: .inScope b::k)
   | .loop b=>some (.code b:: .inLoop b::k)
   | .block id b=>some (.code b:: .inBlock id::k)
   | .cond x a b=>match fr.eval x with| .bool q=>some (.code (if q then a else b)::k)|_=>none
   | .seq a b=>some (.code a:: .code b::k)
   |_=>none
 |_=>none
def jE{t}(h:co fr=some t):
 stepG.exec P main listen fr cs none w= .go {frame:={fr with todo:=t},callers:=cs,status:= .running,dying:=none} w:=by
 have⟨o,l,todo,g,m,n,d⟩:=fr;unfold co at h;unfold stepG.exec
 grind
def yZ(o:jk fr){t}(h:co fr=some t):co (bF ρ fr)=some (t.map (dx ρ)):=by
 have m:=λx j=>fX (ρ:=ρ) fr x j;have l:=o.todo;unfold co at h⊢;rw[show(bF ρ fr).todo=fr.todo.map (dx ρ)from rfl];cases n:fr.todo with
 |nil=>simp_all
 |cons i k=>
  rw[n]at h l;simp[lP,jL]at l;cases i with
  |code c=>
   cases c with
   |region id g f=>cases f<;>first|(cases h;rfl)|cases h
   |exit id=>
    simp[JS,dx]at h⊢;rw[rp,h];rfl
   |cond x a b=>
    have j:nG (dY fr.fn) x=true:=by have:=l.1;simp[mc,jS,jL]at this;simp_all
    simp[JS,dx]at h⊢;rw[m x j];split at h
    .rename_i q e;cases h;rw[e];simp[aE,dx]
    .cases h
   |_=>first|(cases h;rfl)|cases h
  |inRegion g d=>cases d<;>first|(cases h;rfl)|cases h
  |_=>first|(cases h;rfl)|cases h
def Af{z}{k}(h:k.all (GM z)=true):∀ops a,k= .inRegion ops [1]::a->eB 3 ops=false:=λops a e=>by subst e;simp[GM]at h
def Ca(w:jk fr){t}(h:co fr=some t):lP (dY fr.fn) t=true/\∀ops k,t= .inRegion ops [1]::k->eB 3 ops=false:=by
 have r:=w.todo;unfold co at h;cases u:fr.todo with
 |nil=>simp_all
 |cons i k=>
  rw[u]at h r;simp only[lP,jL]at r;have⟨d,g⟩:=r;have f:lP (dY fr.fn) k=true/\∀ops p,k= .inRegion ops [1]::p->eB 3 ops=false:=⟨AD g,Af g⟩;have j:∀{c:Code} {l:List Item} ops p,a35 c::l= .inRegion ops [1]::p->eB 3 ops=false:=s_;cases i with
  |code c=>
   cases c with
   |region id ops o=>
    cases o with
    |false=>
     cases h;simp only[mc,jS,ab7,Bool.true_and,ZC]at d;refine⟨?_,λs p e=> ?_⟩
     .simp only[lP,jL];refine⟨?_,g⟩;obtain d|d:=d
      .simp[mc,d,aj2]
      .have y:px ops.size=[0,1]:=by
        have⟨l⟩:=ops;unfold eB at d;split at d
        .rename_i e;simp only at e;subst e;rfl
        .cases d
       simp[mc,d,y]
     .simp at e;have:=e.1.2;cases v:ops.size with
      |zero=>simp_all
      |succ n=>rw[v,List.range_succ_eq_map]at this;simp at this
    |true=>cases h
   |exit id=>have:=tJ _ id k h g;exact⟨AD this,Af this⟩
   |cond x a b=>
    simp only at h;simp[mc,jS,jL]at d;split at h
    .rename_i q e;cases h;cases q
     .exact⟨by simp[lP,mc,d.2,g],j⟩
     .exact⟨by simp[lP,mc,d.1.2,g],j⟩
    .cases h
   |seq a b=>
    cases h;simp[mc,jS,jL]at d;exact⟨by simp[lP,GM,mc,d.1,d.2,g],j⟩
   |block id b=>cases h;simp[mc,jS]at d;exact⟨by simp[lP,GM,mc,d,g],j⟩
   |loop b=>cases h;simp[mc,jS]at d;exact⟨by simp[lP,GM,mc,d,g],j⟩
   |scope b=>cases h;simp[mc,jS]at d;exact⟨by simp[lP,GM,mc,d,g],j⟩
   |skip=>simp_all
   |label l=>simp_all
   |_=>cases h
  |inRegion ops m=>grind
  |inLoop b=>cases h;simp[mc]at d;exact⟨by simp[lP,GM,mc,d,g],j⟩
  |inBlock id=>simp_all
  |inScope b=>simp_all
  |_=>cases h
def Cc{fr'}{cs'}(l:dp G T D ρ wL wM)(b:∀a,aV G D ρ a->fr'=bF a fr)(e:∀a,aV G D ρ a->cs'=cs.map (bF a)++base)(c:jk fr)(d:mt fr.kind cs)
 {t} (h:co fr=some t) (j mM k lM):∃i g,stepG.exec PL j k fr cs none wL= .go i wL/\stepG.exec PM mM lM fr' cs' none wM= .go g wM/\fc G D ρ base i g:=by have f:co fr'=some (t.map (dx ρ)):=b ρ l.self▸yZ c h;refine⟨_,_,jE h,jE f,E7 b e c d (λa m=> ?_) (Ca c h).1 (Ca c h).2⟩;have n:co fr'=some (t.map (dx a)):=b a m▸yZ c h;simp_all
end
section
variable{α β:Type}{f:α->β}
def uK(h:bE w)(a)(b):fR (w.noCell a b):=by
 unfold ao2;split
 .rename_i c e d;have:=h _ _ d;cases this
 .trivial
 .trivial
def AO{p}(h:bE w){a}{b}{x}(e:w.farLoad p a b= .error x):fR x:=by
 unfold YW at e;split at e
 .split at e<;>cases e;trivial
 .cases e;exact uK h _ _
def y9{p}(h:bE w){a}{b}{x}(e:w.farStore p a v b= .error x):fR x:=by
 unfold XC at e;split at e
 .split at e<;>cases e;trivial
 .cases e;exact uK h _ _
def bE.set(h:bE w)(r){o}(c:dj o=true):bE {w with heap:=w.heap.setIfInBounds r o}:=by
 intro b x a;dsimp only at a;rw[VE]at a;split at a
 .simp_all
 .exact h b x a
def bE.modify(h:bE w)(r){g}(d:∀o,dj o=true->dj (g o)=true):bE {w with heap:=w.heap.modify r g}:=by
 intro b x a;dsimp only at a;rw[Zv]at a;split at a
 .cases c:w.heap[b]? with
  |none=>simp_all
  |some o=>
   rw[c]at a;exact Option.some.inj a▸d o (h b o c)
 .exact h b x a
def bE.setCell(h:bE w)(a)(v):bE (w.setCell a v):=by unfold JX;refine h.modify a.block λo b=> ?_;cases o<;>first|exact b|(dsimp only;split<;>rfl)|rfl
def bE.freeze(h:bE w)(a)(n):bE (w.freeze a n):=by
 unfold a17;split
 .exact h
 .refine h.modify a.block λo b=> ?_;cases o<;>first|exact b|rfl
def mm{p}{g}(h:bE w){a}{b}{l}(e:w.farStore p a v b= .ok (g,l)):bE g:=by
 unfold XC at e;split at e
 .rename_i d u q;split at e
  .rename_i r f;cases e;cases i:w.seen p d u a b with
   |error x=>
    unfold a61 at f;by_cases j:(!tight p p.depth u)=true
    .rw[if_pos j]at f;cases f
    .rw[if_neg j,i]at f;cases f
   |ok y=>
    have⟨c,o,m,k⟩:=nM i;have⟨s,n,_⟩:=jn p (w':={w with heap:=w.heap.setIfInBounds d.block (.cells (c.map (aE λx=>x)) o m)}) (λx=>x) k (by grind) f;rw[n];exact h.set d.block rfl
  .cases e
 .cases e
def eo{s}{s'}(h:aG ρ PL PM f s s'):∀w,bE w->∀k w',s.run PL w= .halt k w'->fR k\/∃v,k= .panic v:=by
 induction h with
 |pure a=>simp_all
 | @load a l t h g=>
   intro w b k w' e;rw[J2]at e;cases n:w.cell? a with
   |some v=>grind
   |none=>
    rw[n]at e;cases i:w.farLoad PL a (a81==a69)with
    |ok y=>grind
    |error x=>
     rw[i]at e;cases e;exact .inl (AO b i)
 | @store a v l t h g=>
   intro w b k w' e;cases j:sC v with
   |false=>
    have⟨A,B⟩:=iL (p:=PL) (w:=w) (m:= .plain) (a:=a) (k:=l) j;rw[B]at e;cases e;exact .inl trivial
   |true=>
    rw[ic j]at e;cases n:w.cell? a with
    |some u=>
     simp[n]at e;split at e
     .cases e;exact .inl trivial
     .exact g _ (b.setCell a v) k w' e
    |none=>
     simp[n]at e;cases i:w.farStore PL a v (a81==a69)with
     |ok y=>rw[i]at e;exact g y.1 (mm b i) k w' e
     |error x=>
      rw[i]at e;cases e;exact .inl (y9 b i)
 |new z h g=>intro w b k w' e;exact g _ _ (b.push z) k w' e
 |shape h g=>intro w b k w' e;exact g _ w b k w' e
 |freeze h g=>intro w b k w' e;exact g _ (b.freeze _ _) k w' e
 |frozen h g=>intro w b k w' e;exact g _ w b k w' e
 | @getObj r l t h g=>
   intro w b k w' e;rw[J2]at e;split at e
   .cases e;exact .inl trivial
   .rename_i o z _;exact g o (b _ _ ‹_›) w b k w' e
   .cases e;exact .inl trivial
 | @setObj r o l t z h g=>
   intro w b k w' e;rw[J2]at e;split at e
   .cases e;exact .inl trivial
   .exact g _ (b.set r z) k w' e
   .cases e;exact .inl trivial
 | @choose q l t h g=>
   intro w b k w' e;rw[J2]at e;split at e
   .grind
   .exact g _ {w with drawn:=w.drawn+1} b k w' e
 |program h g=>intro w b k w' e;exact g w b k w' e
 |mark F h g=>intro w b k w' e;exact g w b k w' e
 |panic h=>simp_all
 |dead d=>simp_all
 |deadMark d=>intro w b k w' e;cases e;exact .inl d
 | @sys c l E d=>
   intro w b k w' e;have⟨x,D,i,C⟩:=d (w.sys c).1 (w.sys c).2;rw[J2,i]at e;simp_all
end
structure Env (PL PM:Program) (G:Nat):Prop where
 same:bO PL PM
 gl:PL.globals.size=G
 tab:fP<G
 gm:PM.globals.size=G
 load:∀w a b,YW PM w a b=YW PL w a b
 store:∀w a v b,XC PM w a v b=XC PL w a v b
 fn:∀(ρ:Nat->Nat) (g:FuncId),jl ρ PL PM g
section
variable{G T:Nat}{base:List Frame}
def Env.far(E:Env PL PM G){a}(h:aV G D ρ a):NL PL PM a:=⟨h.1.1,λb=>by rw[E.gl,E.gm];exact h.1.2 b⟩
def kB{k}{z}
 (b:fr.todo= .inRegion ops (i::rest)::k) (c:ops[i]?=some o) (d:lO o (yielded ops fr.tmps)=true) (a:oK z o.op=true):
 stepG.exec P main listen fr cs none w=stepG.apply P listen fr cs none (execOp fr.eval o) w:=by
 unfold stepG.exec;simp[b,c,rN,IN,d,↓reduceIte];unfold stepG.oper;simp[a46,b,c];split
 .rename_i e;rw[e]at a;cases a
 .rfl
def EC(E:Env PL PM G)(w:dp G T D ρ wL wM)(P:bE wL)
 {fr'} {cs'} (m:∀c,aV G D ρ c->fr'=bF c fr) (v:∀c,aV G D ρ c->cs'=cs.map (bF c)++base) (I:jk fr) (s:mt fr.kind cs) (n:eL fr)
    {k}  (B:fr.todo= .inRegion ops (i::rest)::k) (C:ops[i]?=some o) (A:lO o (yielded ops fr.tmps)=true) (d:oK (dY fr.fn) o.op=true)
 (Q:∀f args w1,(execOp fr.eval o).run PL wL= .ok (.enter f args) w1->jT PL PM f)
 (O:∀l f tmps a b w1,(execOp fr.eval o).run PL wL= .ok (.round l f tmps a b) w1->jS 0 a=true/\jS 0 b=true/\dY f=0)
 {J mM K} {r} {wL'} {y} (h:stepG.exec PL J K fr cs none wL= .go r wL' y) (N:wL'.drawn<=T) (hq:r.status= .running) (M:r.dying=none):
 ∃D' c H wM' q,stepG.exec PM mM true fr' cs' none wM= .go H wM' q/\fc G D' c base r H/\jz G T D ρ wL wM D' c wL' wM'/\∀e∈q,jm D' c e:=by
 have g:=m ρ w.self;have u:fr'.todo= .inRegion ops (i::rest)::k.map (dx ρ):=by rw[g];show fr.todo.map (dx ρ)=_;rw[B];rfl
 have t:lO o (yielded ops fr'.tmps)=true:=by rw[g];have:yielded ops (bF ρ fr).tmps=yielded ops fr.tmps:=funext λj=>fE ρ fr.fn ops fr.tmps j;simp_all
 have p:∀c,aV G D ρ c->aG c PL PM (m0 c) (execOp fr.eval o) (execOp fr'.eval o):=λc F=>
  Bg E.same (E.far F) (E.fn c) (λx L=>m c F▸fX fr x L) o d
 rw[kB B C A d]at h;rw[kB u C t d];exact lV E.tab E.load E.store w m v I s n p (zu (E.fn ρ) fr.eval o d) (λx w1 e=>eo (p ρ w.self) wL P x w1 e) Q O h N hq M
end
section
variable{α β:Type}{f:α->β}
def dV{s}{s'}(h:aG ρ PL PM f s s'):∀w,bE w->∀a w',s.run PL w= .ok a w'->bE w':=by
 induction h with
 |pure a=>simp_all
 | @load a l t h g=>
   intro w b k w' e;rw[J2]at e
   grind
 | @store a v l t h g=>
   intro w b k w' e;cases j:sC v with
   |false=>
    have xQ:=iL (p:=PL) (w:=w) (m:= .plain) (a:=a) (k:=l) j;simp_all
   |true=>
    rw[ic j]at e;cases n:w.cell? a with
    |some u=>
     simp[n]at e;split at e
     .cases e
     .exact g _ (b.setCell a v) k w' e
    |none=>
     simp[n]at e;cases i:w.farStore PL a v (a81==a69)with
     |ok y=>rw[i]at e;exact g y.1 (mm b i) k w' e
     |error x=>simp_all
 |new z h g=>intro w b k w' e;exact g _ _ (b.push z) k w' e
 |shape h g=>intro w b k w' e;exact g _ w b k w' e
 |freeze h g=>intro w b k w' e;exact g _ (b.freeze _ _) k w' e
 |frozen h g=>intro w b k w' e;exact g _ w b k w' e
 | @getObj r l t h g=>
   intro w b k w' e;rw[J2]at e;split at e
   .cases e
   .rename_i o z _;exact g o (b _ _ ‹_›) w b k w' e
   .cases e
 | @setObj r o l t z h g=>
   intro w b k w' e;rw[J2]at e;split at e
   .cases e
   .exact g _ (b.set r z) k w' e
   .cases e
 | @choose q l t h g=>
   intro w b k w' e;rw[J2]at e;split at e
   .grind
   .exact g _ {w with drawn:=w.drawn+1} b k w' e
 |program h g=>intro w b k w' e;exact g w b k w' e
 |mark E h g=>intro w b k w' e;exact g w b k w' e
 |panic v=>simp_all
 |dead d=>simp_all
 |deadMark d=>intro w b k w' e;cases e
 | @sys c l D d=>
   intro w b k w' e;have⟨x,C,i,F⟩:=d (w.sys c).1 (w.sys c).2;rw[J2,i]at e;cases e
def Jb(h:bE w)(c):bE (w.sys c).2:=by
 have hask:∀{γ:Type} (a:Ask γ) (w:World),(w.ask a).2.heap=w.heap:=by
  intro γ a;induction a with
  |done a=>intro w;rfl
  |ask what range k ih=>
   intro w;unfold aq8
   grind
 intro b o ho;refine h b o ?_;rw[←ho];unfold aq9
 grind
def gZ{s}{s'}(h:aG ρ PL PM f s s'):∀w,bE w->∀a w',s.run PL w= .halt a w'->bE w':=by
 induction h with
 |pure a=>simp_all
 | @load a l t h g=>
   intro w b k w' e;rw[J2]at e
   grind
 | @store a v l t h g=>
   intro w b k w' e;cases j:sC v with
   |false=>
    have xQ:=iL (p:=PL) (w:=w) (m:= .plain) (a:=a) (k:=l) j;simp_all
   |true=>
    rw[ic j]at e;cases n:w.cell? a with
    |some u=>
     simp[n]at e;split at e
     .simp_all
     .exact g _ (b.setCell a v) k w' e
    |none=>
     simp[n]at e;cases i:w.farStore PL a v (a81==a69)with
     |ok y=>rw[i]at e;exact g y.1 (mm b i) k w' e
     |error x=>simp_all
 |new z h g=>intro w b k w' e;exact g _ _ (b.push z) k w' e
 |shape h g=>intro w b k w' e;exact g _ w b k w' e
 |freeze h g=>intro w b k w' e;exact g _ (b.freeze _ _) k w' e
 |frozen h g=>intro w b k w' e;exact g _ w b k w' e
 | @getObj r l t h g=>
   intro w b k w' e;rw[J2]at e;split at e
   .simp_all
   .rename_i o z _;exact g o (b _ _ ‹_›) w b k w' e
   simp_all
 | @setObj r o l t z h g=>
   intro w b k w' e;rw[J2]at e;split at e
   .simp_all
   .exact g _ (b.set r z) k w' e
   simp_all
 | @choose q l t h g=>
   intro w b k w' e;rw[J2]at e;split at e
   .grind
   .exact g _ {w with drawn:=w.drawn+1} b k w' e
 |program h g=>intro w b k w' e;exact g w b k w' e
 |mark F h g=>intro w b k w' e;exact g w b k w' e
 |panic v=>simp_all
 |dead d=>simp_all
 |deadMark d=>intro w b k w' e;cases e;exact b
 | @sys c l E d=>
   intro w b k w' e;have⟨x,D,i,C⟩:=d (w.sys c).1 (w.sys c).2;rw[J2,i]at e;cases e;exact C.2 (Jb b c)
end
section
variable{G T:Nat}{base:List Frame}
def iE{k}
 (b:fr.todo= .inRegion ops (i::rest)::k) (a:((ops[i]?).map (lO · (yielded ops fr.tmps))).getD false=false):
 stepG.exec P main listen fr cs none w= .go {frame:=fr.finish undef,callers:=cs,status:= .running,dying:=none} w:=by unfold stepG.exec;simp_all
def qV(s:dp G T D ρ wL wM){fr'}{cs'}(d:∀a,aV G D ρ a->fr'=bF a fr)(h:∀a,aV G D ρ a->cs'=cs.map (bF a)++base)(l:jk fr)(e:mt fr.kind cs)(b:eL fr)
    {k} (n:fr.todo= .inRegion ops (i::rest)::k) (m:((ops[i]?).map (lO · (yielded ops fr.tmps))).getD false=false) (q mM r lM):
 ∃p o,stepG.exec PL q r fr cs none wL= .go p wL/\stepG.exec PM mM lM fr' cs' none wM= .go o wM/\fc G D ρ base p o:=by
 have c:=d ρ s.self;have g:fr'.todo= .inRegion ops (i::rest)::k.map (dx ρ):=by rw[c];show fr.todo.map (dx ρ)=_;rw[n];rfl
 have f:((ops[i]?).map (lO · (yielded ops fr'.tmps))).getD false=false:=by rw[c];have:yielded ops (bF ρ fr).tmps=yielded ops fr.tmps:=funext λj=>fE ρ fr.fn ops fr.tmps j;simp_all
 refine⟨_,_,iE n m,iE g f,λa t=> ?_,h,pj l b undef,by rw[dU];exact e,rfl,rfl,rfl,rfl⟩;show fr'.finish undef=bF a (fr.finish undef);rw[d a t,←gG fr undef l b,gh]
end
section
variable{G T:Nat}{base:List Frame}
def kC{id}{k}{t}
 (a:fr.todo= .code (.region id ops true)::k) (b:(choose (.order fr.fn id)).run P w= .ok t w'):
 stepG.exec P main listen fr cs none w= .go {frame:={fr with todo:= .inRegion ops (Region.schedule (P.follows .mixedOrders) ops t)::k},callers:=cs,status:= .running,dying:=none} w':=by unfold stepG.exec;simp_all
def xw(P)(q)(w):∃n w',(choose q).run P w= .ok n w':=by unfold choose;rw[J2];split<;>exact s_
def Fz(E:Env PL PM G)(H:PL.follows .mixedOrders=PM.follows .mixedOrders)(x:dp G T D ρ wL wM){fr'}{cs'}(c:∀a,aV G D ρ a->fr'=bF a fr)(s:∀a,aV G D ρ a->cs'=cs.map (bF a)++base)(ok:jk fr)(o:mt fr.kind cs)
 {id}  {k} (j:fr.todo= .code (.region id ops true)::k) {C mM F lM} {z} {wL'} {t} (h:stepG.exec PL C F fr cs none wL= .go z wL' t) (I:wL'.drawn<=T):
 ∃D' a y wM',stepG.exec PM mM lM fr' cs' none wM= .go y wM'/\fc G D' a base z y/\jz G T D ρ wL wM D' a wL' wM':=by
 have b:=c ρ x.self;have p:fr'.todo= .code (.region id ops true)::k.map (dx ρ):=by rw[b];show fr.todo.map (dx ρ)=_;rw[j];rfl
 have r:fr'.fn=fr.fn:=by rw[b];rfl
 have⟨n,m,w⟩:=xw PL (.order fr.fn id) wL;rw[kC j w]at h;simp at h;obtain⟨rfl,rfl,_⟩:=h;have⟨D',f,N,wM',K,M,L,i,_⟩:=eH E.load E.store (λ_ n=>n) (choose (.order fr.fn id)) (choose (.order fr.fn id)) D ρ wL wM x (λ_ _=> .choose λn=> .pure n) #[] _ m w rfl I;cases L with
 | @ok _ v _ _ q=>
   have d:(choose (.order fr.fn id)).run PM wM= .ok v wM':=(by simp_all);have J:=q f i.rel.self;rw[J]at d;rw[←r]at d;refine⟨D',f,_,wM',kC p d, ?_,i⟩;rw[←H];have l:=ok.todo;rw[j]at l;simp only[lP,jL]at l;have d:=l.1;simp only[mc,jS,ad5,Bool.false_and,Bool.or_false]at d;refine E7 (λa g=>c a (aV.of_ran i g)) (λa g=>s a (aV.of_ran i g)) ok o (λa g=> ?_) ?_ λu O e=>by simp at e;rw[←e.1.1];exact sq d
   .have A:k.map (dx ρ)=k.map (dx a):=by have:=congrArg aq0 (b.symm.trans (c a (aV.of_ran i g)));simp only[bF,j,JS,List.cons.injEq]at this;exact this.2
    rw[A];rfl
   .simp only[lP,jL,mc,d,aj2,true_and];exact l.2
def Ib(fr:Frame):Prop:=fr.roundOf=none/\(fr.todo=[]\/∃k,fr.todo= .code .ret::k)
def oj(h:Ib fr):
 stepG.exec P main listen fr cs none w= .go {frame:={fr with mode:= .returning},callers:=cs,status:= .running,dying:=none} w:=by obtain⟨b,a|⟨k,a⟩⟩:=h<;>unfold stepG.exec<;>simp[b,a]<;>rfl
def K6(o:dp G T D ρ wL wM){fr'}{cs'}(c:∀a,aV G D ρ a->fr'=bF a fr)(f:∀a,aV G D ρ a->cs'=cs.map (bF a)++base)(d:jk fr)(e:mt fr.kind cs)(h:Ib fr)(m mM n lM):
 ∃l j,stepG.exec PL m n fr cs none wL= .go l wL/\stepG.exec PM mM lM fr' cs' none wM= .go j wM/\fc G D ρ base l j:=by
 have q:Ib fr':=by
  rw[(c ρ o.self)];obtain⟨i,g|⟨k,g⟩⟩:=h
  .exact⟨by simp[bF,i], .inl (by simp[bF,g])⟩
  .exact⟨by simp[bF,i], .inr ⟨k.map (dx ρ),by simp[bF,g,dx]⟩⟩
 refine⟨_,_,oj h,oj q,λa p=> ?_,f,⟨⟨⟨d.defers,rfl,d.kind,d.round⟩,d.todo⟩,tA s_⟩,e,rfl,rfl,rfl,rfl⟩;rw[c a p];rfl
end
def Dx{a:Type}{g g':a->Sem Value}:∀l:List a,(∀x∈l,aG ρ PL PM (aE ρ) (g x) (g' x))->aG ρ PL PM (ag_ (aE ρ)) (l.mapM g) (l.mapM g')
 |[],h=>by simp;exact aS _ rfl
 |x::l,h=>by simp;exact(h x ac1).bind λv=>(Dx l λy b=>h y (a18 _ b)).bind λc=>aS _ rfl
def Nm{a:Type}{g g':a->Sem Value}(xs:Array a)(h:∀x∈xs,aG ρ PL PM (aE ρ) (g x) (g' x)):aG ρ PL PM (a14 (aE ρ)) (xs.mapM g) (xs.mapM g'):=by rw[a12,a12];have:=Dx xs.toList λx b=>h x (by simpa using b);exact this.bind λc=>aS _ s_
def NR(z:Nat)(r:ResultVar):Bool:=
 match r with
 | .tmp t=> !(qH z t)
 | .cell a _=> !(qH z a)
def CP(fn)(tmps)(t)(h:qH (dY fn) t=false):(jX ρ fn tmps).getD t undef=aE ρ (tmps.getD t undef):=by
 simp;rw[fW ρ fn tmps t h];cases tmps[t]? with
 |none=>exact(gh ρ).symm
 |some v=>rfl
def xG(e:bO PL PM)(fn c)(g)(tmps)(j:c.results=fn.results)(d:fn.results.all (NR (dY g))=true):
 aG ρ PL PM (aE ρ) (results fn tmps) (results c (jX ρ g tmps)):=by
 unfold results;rw[j];refine(Nm fn.results λx i=> ?_).bind λh=>aS _ ?_
 .have:=V6.1 d x i;cases x with
  |tmp t=>
   simp[NR,a41]at this;exact aS _ (CP g tmps t this)
  |cell a t=>
   simp[NR,a41]at this;dsimp only;rw[CP g tmps a this];exact(nC e _).bind λb=>ln e t b
 .by_cases f:h.size=1
  .simp[f]
  .simp[f,aE]
section
variable{G T:Nat}{base:List Frame}
def eD(c:Frame):Frame:=
 match c.mode with
 | .panicking ({recovered:=true, ..}::older)=>
   match older.dropWhile (!·.goexit)with
   |[]=>{c with mode:= .returning}
   |rest=>{c with mode:= .panicking rest}
 |_=>c
def iZ(kd:CallKind)(c:Frame)(v:Value):Frame:=if kd= .deferred then eD c else c.finish v
def Bm(d)(c):eD (bF d c)=bF d (eD c):=by
 have⟨i,f,e,b,g,h,a⟩:=c;simp[eD,bF];split
 .split<;>rfl
 .rfl
def D5{a:Type}{p}:∀{l:List a},(∀x∈l,p x=true)->l.dropWhile p=[]
 |[],_=>rfl
 |x::l,h=>by rw[List.dropWhile_cons_of_pos (h x ac1)];exact D5 λy b=>h y (a18 _ b)
def DG{c}(h:jk c):jk (eD c):=by
 have⟨s,i,g,d,j,k,b⟩:=c;have⟨⟨p,f,o,n⟩,m⟩:=h;unfold eD;split
 .rename_i a l;simp only at l;subst l;have q:a.dropWhile (!·.goexit)=[]:=by simp only[SD,jL,Yi,List.all_eq_true]at f;exact D5 λe r=>(f.2.2 e r).2
  rw[q];exact⟨⟨p,rfl,o,n⟩,m⟩
 .exact⟨⟨p,f,o,n⟩,m⟩
def xA(a){b}{c}(v)(h:mt b (c::cs)):iZ b (bF a c) (aE a v)=bF a (iZ b c v):=by
 unfold iZ;split
 .exact Bm a c
 .exact gG c v h.1 (h.2.1.resolve_right λe=>‹¬b= .deferred› e.1)
def qN(c):(eD c).kind=c.kind/\(eD c).todo=c.todo/\(eD c).tmps=c.tmps/\((eD c).mode= .run->eD c=c):=by
 unfold eD
 grind
def Bc{a}{c}(v)(h:mt a (c::cs)):jk (iZ a c v)/\oC (iZ a c v):=by
 unfold iZ;split
 .refine⟨DG h.1,λb=> ?_⟩;have e:=(qN c).2.2.2 b;rw[e]at b⊢;exact zF (h.2.1.resolve_right λq=>q.2 b) b
 .exact pj h.1 (h.2.1.resolve_right λe=>‹¬a= .deferred› e.1) v
def xB{a}{c}(v)(h:mt a (c::cs)):mt (iZ a c v).kind cs:=by
 unfold iZ;split
 .rw[(qN c).1];exact h.2.2
 .rw[dU];exact h.2.2
def eG{c}(a:fr.kind= .normal\/fr.kind= .deferred):
 doReturn P main fr (c::cs) none v w= .go {frame:=iZ fr.kind c v,callers:=cs,status:= .running,dying:=none} w:=by rcases a with a|a<;>simp[doReturn,iZ,a,eD]<;>rfl
def yE{c}(f:fr.defers=[])(b:fr.mode= .returning)(d:fr.kind= .normal\/fr.kind= .deferred)(e:P.funcs[fr.fn]?=some fn)
 (a:(results fn fr.tmps).runT P w #[]=(.ok v w',es)):unwind P main fr (c::cs) none w= .go {frame:=iZ fr.kind c v,callers:=cs,status:= .running,dying:=none} w' (seen P fr.fn es):=by unfold unwind;simp only[f,b,e,a,eG d,u5,Mx]
def Ix{c}(j:fr.defers=[])(e:fr.mode= .returning)(f:fr.kind= .normal\/fr.kind= .deferred)(i:P.funcs[fr.fn]?=some fn)
 (h:unwind P main fr (c::cs) none w= .go g w' es):∃v,(results fn fr.tmps).run P w= .ok v w'/\g={frame:=iZ fr.kind c v,callers:=cs,status:= .running,dying:=none}:=by
 have a:=Y3 P (results fn fr.tmps) w #[];unfold unwind at h;simp only[j,e,i]at h;generalize (results fn fr.tmps).runT P w #[]=q at h a;have⟨r,k⟩:=q;simp only at a;subst a;simp only at h;cases b:(results fn fr.tmps).run P w with
 |ok v d=>
  rw[b]at h;simp[eG f,u5,a24.injEq]at h;simp_all
 |halt x d=>
  rw[b]at h;cases x<;>simp[u5]at h
def Au(E:Env PL PM G)(k:dp G T D ρ wL wM){fr' c}{cs'}(i:∀a,aV G D ρ a->fr'=bF a fr)(d:∀a,aV G D ρ a->cs'=(c::cs).map (bF a)++base)(ok:jk fr)(g:mt fr.kind (c::cs))
 (A:fr.defers=[]) (z:fr.mode= .returning) {f} (J:PL.funcs[fr.fn]?=some fn) (s:PM.funcs[fr.fn]?=some f) (I:f.results=fn.results) (r:fn.results.all (NR (dY fr.fn))=true)
 {F mM} {C} {wL'} {u} (h:unwind PL F fr (c::cs) none wL= .go C wL' u) (L:wL'.drawn<=T):
 ∃D' a B wM' l,unwind PM mM fr' cs' none wM= .go B wM' l/\fc G D' a base C B/\jz G T D ρ wL wM D' a wL' wM'/\∀e∈l,jm D' a e:=by
 obtain⟨v,H,rfl⟩:=Ix A z ok.kind J h;have b:=i ρ k.self;have t:∀a,aV G D ρ a->aG a PL PM (aE a) (results fn fr.tmps) (results f fr'.tmps):=λa M=>by rw[i a M];exact xG E.same fn f fr.fn fr.tmps I r
 have⟨D',n,Q,wM',w,P,O,x,N⟩:=eH E.load E.store aE _ _ D ρ wL wM k t #[] _ wL' H rfl L;cases O with
 | @ok _ y _ _ o=>
   have j:=d ρ k.self;simp at j;have p:unwind PM mM fr' cs' none wM= .go {frame:=iZ fr'.kind (bF ρ c) y,callers:=cs.map (bF ρ)++base,status:= .running,dying:=none} wM' (seen PM fr'.fn (#[]++w)):=by
    rw[j];refine yE ?_ ?_ ?_ ?_ P
    .rw[b];simp[bF,A]
    .exact b▸z
    .exact b▸ok.kind
    .exact b▸s
   refine⟨D',n,_,wM',_,p,⟨λa m=> ?_,λa m=> ?_,Bc v g,xB v g,rfl,rfl,rfl,rfl⟩,x,λe K=> ?_⟩
   .have q:=(d ρ k.self).symm.trans (d a (aV.of_ran x m));simp at q;show iZ fr'.kind (bF ρ c) y=bF a (iZ fr.kind c v);rw[q.1,o a m,b];exact xA a v g
   .have q:=(d ρ k.self).symm.trans (d a (aV.of_ran x m));simp_all
   .have:=dT _ _ _ e K;simp_all
end
section
variable{G T:Nat}{base:List Frame}
def iv(fr:Frame):Sem Next:=do fr.roundOf.elim (stuck "beginRound: no round") Yh;pure .skip
def lc{k}(a:fr.todo= .beginRound::k):
 stepG.exec P main listen fr cs none w=stepG.apply P listen fr cs none (iv fr) w:=by unfold stepG.exec;simp[a];rfl
def Di(E:Env PL PM G)(w:dp G T D ρ wL wM)(N:bE wL)
 {fr'} {cs'} (d:∀c,aV G D ρ c->fr'=bF c fr) (v:∀c,aV G D ρ c->cs'=cs.map (bF c)++base) (ok:jk fr) (s:mt fr.kind cs)
 {k} (u:fr.todo= .beginRound::k) {J mM K} {r} {wL'} {y} (h:stepG.exec PL J K fr cs none wL= .go r wL' y) (M:wL'.drawn<=T) (hq:r.status= .running) (L:r.dying=none):
 ∃D' c C wM' q,stepG.exec PM mM true fr' cs' none wM= .go C wM' q/\fc G D' c base r C/\jz G T D ρ wL wM D' c wL' wM'/\∀e∈q,jm D' c e:=by
 have t:fr'.todo= .beginRound::k.map (dx ρ):=by rw[(d ρ w.self)];show fr.todo.map (dx ρ)=_;rw[u];rfl
 have g:eL fr:=tN λI j A k e=>by simp_all
 have p:∀c,aV G D ρ c->aG c PL PM (m0 c) (iv fr) (iv fr'):=λc O=>by
  rw[d c O];unfold iv;show aG c PL PM (m0 c) (do fr.roundOf.elim _ Yh;pure .skip) (do(fr.roundOf.map c).elim _ Yh;pure .skip);cases fr.roundOf with
  |none=>exact .dead trivial
  |some l=>exact Be (qM E.same l)
 have P:de PL (iv fr):=tH _;have m:∀n i,(iv fr).run PL wL= .ok n i->n= .skip:=λn i e=>by
  unfold iv at e;rw[Rk]at e;cases B:(fr.roundOf.elim (stuck "beginRound: no round") Yh:Sem Unit).run PL wL with
  |ok a H=>simp_all
  |halt x H=>simp_all
 rw[lc u]at h;rw[lc t];exact lV E.tab E.load E.store w d v ok s g p P (λx i e=>eo (p ρ w.self) wL N x i e) (λf F i e=>by simp_all) (λl f z a b i e=>by simp_all) h M hq L
def L9{a}(f:bE w)(h:(UU b).run P w= .ok a w'):a=[]:=by
 unfold UU at h;simp[ar_,getObj,JU,J2]at h;split at h
 .cases h
 .rename_i o g _;have e:=f _ _ ‹_›;cases o with
  |deferred d=>
   cases d with
   |none=>cases h
   |some d=>
    have c:d=[]:=(by simpa[dj]using e);subst c;simp[setObj,JU,J2]at h;simp_all
  |_=>cases h
 .cases h
def BG{a}(d:fr.defers=⟨.collected b,args⟩::ds)
 (c:(UU b).runT P w #[]=(.ok a w',es)):unwind P main fr cs none w= .go {frame:={fr with defers:=a++ds},callers:=cs,status:= .running,dying:=none} w' (seen P fr.fn es):=by unfold unwind;simp only[d,c,u5,Mx]
def vV(f:fr.defers=⟨.collected b,args⟩::ds)
 (h:unwind P main fr cs none w= .go g w' es):∃a,(UU b).run P w= .ok a w'/\g={frame:={fr with defers:=a++ds},callers:=cs,status:= .running,dying:=none}:=by
 have c:=Y3 P (UU b) w #[];unfold unwind at h;simp only[f]at h;generalize (UU b).runT P w #[]=q at h c;have⟨r,i⟩:=q;simp only at c;subst c;simp only at h;cases d:(UU b).run P w with
 |ok v e=>
  rw[d]at h;simp[u5,a24.injEq]at h;simp_all
 |halt x e=>
  rw[d]at h;simp[u5]at h
def EO(E:Env PL PM G)(hW:dp G T D ρ wL wM)(hP:bE wL){fr'}{cs'}(hfr:∀ρ',aV G D ρ ρ'->fr'=bF ρ' fr)(hcs:∀ρ',aV G D ρ ρ'->cs'=cs.map (bF ρ')++base)(ok:jk fr)(oks:mt fr.kind cs)
    (hm:fr.mode≠ .run) (hd:fr.defers=⟨.collected b,args⟩::ds) {mL mM} {gL} {wL'} {esL} (h:unwind PL mL fr cs none wL= .go gL wL' esL) (hT:wL'.drawn<=T):
 ∃D' ρ' gM wM' esM,unwind PM mM fr' cs' none wM= .go gM wM' esM/\fc G D' ρ' base gL gM/\jz G T D ρ wL wM D' ρ' wL' wM'/\∀e∈esM,jm D' ρ' e:=by
 obtain⟨calls,hv,rfl⟩:=vV hd h;have hnil:=L9 hP hv;have hfr0:=hfr ρ hW.self;have hdM:∀ρ',aV G D ρ ρ'->fr'.defers=⟨.collected (ρ' b),args.map (aE ρ')⟩::ds.map (kR ρ'):=λρ' hA=>by rw[hfr ρ' hA];show fr.defers.map (kR ρ')=_;rw[hd];rfl
 have hb:∀ρ',aV G D ρ ρ'->ρ' b=ρ b:=λρ' hA=>by have:=(hdM ρ' hA).symm.trans (hdM ρ hW.self);simp_all
 have⟨D',ρ1,r',wM',es',e1,e2,e3,e4⟩:=eH E.load E.store (λρ l=>l.map (kR ρ)) (UU b) (UU (ρ b)) D ρ wL wM hW (λρ' hA=>hb ρ' hA▸oH b) #[] _ wL' hv rfl hT;cases e2 with
 | @ok _ v' _ _ hv'=>
   have hv0:v'=[]:=(by rw[hv' ρ1 e3.rel.self,hnil];rfl);refine⟨D',ρ1,_,wM',_,BG (hdM ρ hW.self) e1,⟨λρ' h'=> ?_,λρ' h'=>hcs ρ' (aV.of_ran e3 h'), ?_,oks,rfl,rfl,rfl,rfl⟩,e3,λe he=> ?_⟩
   .have q:=(hdM ρ hW.self).symm.trans (hdM ρ' (aV.of_ran e3 h'));simp only[List.cons.injEq]at q;show{fr' with defers:=v'++ds.map (kR ρ)}=bF ρ' {fr with defers:=calls++ds};rw[q.2,hv0,hnil,hfr ρ' (aV.of_ran e3 h')];rfl
   .refine⟨⟨⟨?_,ok.mode,ok.kind,ok.round⟩,ok.todo⟩,tA hm⟩;have:=ok.defers;rw[hd]at this;simp only[ei,Yi,jL]at this;show ei (calls++ds)=true;exact hnil▸this.2
   .have:=dT _ _ _ e he;simp_all
end
section
variable{G T:Nat}{base:List Frame}
def Fy{a}(d:bE w)(h:(QR l).run P w= .ok a w'):a.all (jS 0)=true:=by
 unfold QR Zw at h;simp[ar_,getObj,JU,J2]at h;split at h
 .cases h
 .rename_i o f _;have b:=d _ _ ‹_›;cases o with
  |loop r=>
   simp[Pure.pure,JU]at h;split at h
   .have⟨x,e,c,_⟩:=YM (PL:=P) (α:=PUnit) (.error "range function recovered a loop body panic and did not resume panicking") w;rw[ah5,c]at h;cases h
   .simp[setObj,JU,J2]at h;simp[dj,jL]at b;simp_all
  |_=>cases h
 .cases h
def kg{k}{a}(b:fr.todo= .endRangeFunc l::k)
 (c:(QR l).runT P w #[]=(.ok a w',es)):stepG.exec P main listen fr cs none w= .go {frame:={fr with todo:=(a.map a35).toList++k},callers:=cs,status:= .running,dying:=none} w' (seen P fr.fn es):=by unfold stepG.exec;simp only[b,c,u5,Mx]
def rr{k}(a:fr.todo= .endRangeFunc l::k)
 (b:(QR l).runT P w #[]=(.halt (.panic v) w',es)):stepG.exec P main listen fr cs none w= .go (j8 fr cs v) w' (seen P fr.fn es):=by unfold stepG.exec;simp only[a,b,u5,Mx];rfl
def vr{k}(e:fr.todo= .endRangeFunc l::k)
 (h:stepG.exec P main listen fr cs none w= .go g w' es):(∃a,(QR l).run P w= .ok a w'/\g={frame:={fr with todo:=(a.map a35).toList++k},callers:=cs,status:= .running,dying:=none})\/∃v,(QR l).run P w= .halt (.panic v) w'/\g=j8 fr cs v:=by
 have b:=Y3 P (QR l) w #[];unfold stepG.exec at h;simp only[e]at h;generalize (QR l).runT P w #[]=q at h b;have⟨r,f⟩:=q;simp only at b;subst b;simp only at h;cases c:(QR l).run P w with
 |ok v d=>
  rw[c]at h;simp[u5,a24.injEq]at h;simp_all
 |halt x d=>
  rw[c]at h;cases x with
  |panic v=>
   simp at h;obtain⟨rfl,rfl,_⟩:=h;exact .inr ⟨v,rfl,rfl⟩
  |_=>simp[u5]at h
def yi(E:Env PL PM G)(o:dp G T D ρ wL wM)(W:bE wL){fr'}{cs'}(m:∀a,aV G D ρ a->fr'=bF a fr)(s:∀a,aV G D ρ a->cs'=cs.map (bF a)++base)(ok:jk fr)(p:mt fr.kind cs)
  {k} (A:fr.todo= .endRangeFunc l::k) {P mM Q lM} {N} {wL'} {C} (h:stepG.exec PL P Q fr cs none wL= .go N wL' C) (L:wL'.drawn<=T):
 ∃D' a M wM' t,stepG.exec PM mM lM fr' cs' none wM= .go M wM' t/\fc G D' a base N M/\jz G T D ρ wL wM D' a wL' wM'/\∀e∈t,jm D' a e:=by
 have b:∀a,aV G D ρ a->fr'.todo= .endRangeFunc (a l)::k.map (dx a):=λa n=>by rw[m a n];show fr.todo.map (dx a)=_;rw[A];rfl
 have K:∀a,aV G D ρ a->a l=ρ l:=λa n=>by have:=(b a n).symm.trans (b ρ o.self);simp_all
 obtain⟨r,w,rfl⟩|⟨v,w,rfl⟩:=vr A h
 rotate_left
 .have⟨D',d,O,wM',F,J,I,g,H⟩:=eH E.load E.store (λ_ j=>j) (QR l) (QR (ρ l)) D ρ wL wM o (λa n=>K a n▸oB E.same l) #[] _ wL' w rfl L;cases I with
  |panic U=>
   refine⟨D',d,_,wM',_,rr (b ρ o.self) J,⟨λa f=> ?_,λa f=>s a (aV.of_ran g f),⟨ok.raise (by simp[EE,U]),kW _ _⟩,by rw[j8,kT];exact p,rfl,rfl,rfl,rfl⟩,g,λe B=> ?_⟩
   .show fr'.raise _=bF a (fr.raise _);rw[m a (aV.of_ran g f),mN]
   .have:=dT _ _ _ e B;simp_all
 have⟨D',d,O,wM',F,J,I,g,H⟩:=eH E.load E.store (λ_ j=>j) (QR l) (QR (ρ l)) D ρ wL wM o (λa n=>K a n▸oB E.same l) #[] _ wL' w rfl L;cases I with
 | @ok _ u _ _ z=>
   have y:=z d g.rel.self;subst y;have i:=ok.todo;rw[A]at i;simp only[lP,jL]at i;have S:dY fr.fn=0:=by have:=i.1;simpa[mc]using this
   refine⟨D',d,_,wM',_,kg (b ρ o.self) J,E7 (λa f=>m a (aV.of_ran g f)) (λa f=>s a (aV.of_ran g f)) ok p (λa f=> ?_) ?_ ?_,g,λe B=> ?_⟩
   .have q:=(b ρ o.self).symm.trans (b a (aV.of_ran g f));simp only[List.cons.injEq]at q;rw[q.2];cases u<;>simp[dx]
   .rw[S]at i⊢;cases u with
    |none=>exact AD i.2
    |some c=>simp only[rN,Option.toList_some,a51,a62,lP,jL];exact⟨(Fy W w),i.2⟩
   .intro x R e;cases u with
    |none=>exact Af i.2 x R e
    |some c=>cases e
   .have:=dT _ _ _ e B;simp_all
end
inductive ia (fr:Frame):Option Code->Prop
 |done (h:fr.todo=[]):ia fr none
 |ret {k:List Item} (h:fr.todo= .code .ret::k):ia fr (some .ret)
 |exit {id:Nat} {k:List Item} (h:fr.todo= .code (.exit id)::k) (he:exitTo id k=none):ia fr (some (.exit id))
def ia.ok{j}(h:ia fr j):j.all (jS 0)=true:=by cases h<;>rfl
def ia.ren{j}(h:ia fr j)(a):ia (bF a fr) j:=by
 cases h with
 |done h=>exact .done (by simp[bF,h])
 |ret h=>exact .ret (by simp[bF,h,JS,dx];rfl)
 | @exit id k h b=>exact .exit (k:=k.map (dx a)) (by simp[bF,h,dx]) (by rw[rp,b];rfl)
section
variable{G T:Nat}{base:List Frame}
def uV{c}{j}(e:ia fr j)(b:fr.roundOf=some l)(d:fr.kind= .normal\/fr.kind= .deferred)
 (a:(RN l j).runT P w #[]=(.ok v w',es)):stepG.exec P main listen fr (c::cs) none w= .go {frame:=iZ fr.kind c v,callers:=cs,status:= .running,dying:=none} w' (seen P fr.fn es):=by
 unfold stepG.exec;cases e with
 |done h=>simp only[h,b,a,eG d,u5,Mx]
 |ret h=>simp only[h,b,a,eG d,u5,Mx]
 |exit h f=>simp only[h,f,a25,b,a,eG d,u5,Mx]
def rq{c}{j}(e:ia fr j)(d:fr.roundOf=some l)(a:fr.kind= .normal)
 (b:(RN l j).runT P w #[]=(.ok v w',es)):stepG.exec P main listen fr (c::cs) none w= .go {frame:=c.finish v,callers:=cs,status:= .running,dying:=none} w' (seen P fr.fn es):=by have:=uV (main:=main) (listen:=listen) (c:=c) (cs:=cs) e d (.inl a) b;simpa only[iZ,a,reduceCtorEq,↓reduceIte]using this
def ye{c}{j}(m:ia fr j)(i:fr.roundOf=some l)(k:fr.kind= .normal\/fr.kind= .deferred)
 (h:stepG.exec P main listen fr (c::cs) none w= .go g w' es):∃v,(RN l j).run P w= .ok v w'/\g={frame:=iZ fr.kind c v,callers:=cs,status:= .running,dying:=none}:=by
 have a:=Y3 P (RN l j) w #[];unfold stepG.exec at h;cases m with
 |done e=>
  simp only[e,i]at h;generalize (RN l none).runT P w #[]=q at h a;have⟨r,f⟩:=q;simp only at a;subst a;simp only at h;cases b:(RN l none).run P w with
  |ok v d=>
   rw[b]at h;simp[eG k,u5,a24.injEq]at h;simp_all
  |halt x d=>
   rw[b]at h;simp[u5]at h
 |ret e=>
  simp only[e,i]at h;generalize (RN l (some .ret)).runT P w #[]=q at h a;have⟨r,f⟩:=q;simp only at a;subst a;simp only at h;cases b:(RN l (some .ret)).run P w with
  |ok v d=>
   rw[b]at h;simp[eG k,u5,a24.injEq]at h;simp_all
  |halt x d=>
   rw[b]at h;simp[u5]at h
 | @exit id _ e n=>
   simp only[e,n,a25,i]at h;generalize (RN l (some (.exit id))).runT P w #[]=q at h a;have⟨r,f⟩:=q;simp only at a;subst a;simp only at h;cases b:(RN l (some (.exit id))).run P w with
   |ok v d=>
    rw[b]at h;simp[eG k,u5,a24.injEq]at h;simp_all
   |halt x d=>
    rw[b]at h;simp[u5]at h
def CH(E:Env PL PM G)(i:dp G T D ρ wL wM){fr' c}{cs'}(k:∀a,aV G D ρ a->fr'=bF a fr)(d:∀a,aV G D ρ a->cs'=(c::cs).map (bF a)++base)(ok:jk fr)(f:mt fr.kind (c::cs))
  {j} (w:ia fr j) (B:fr.roundOf=some l) {H mM I lM} {F} {wL'} {x} (h:stepG.exec PL H I fr (c::cs) none wL= .go F wL' x) (L:wL'.drawn<=T):
 ∃D' a C wM' o,stepG.exec PM mM lM fr' cs' none wM= .go C wM' o/\fc G D' a base F C/\jz G T D ρ wL wM D' a wL' wM'/\∀e∈o,jm D' a e:=by
 obtain⟨v,J,rfl⟩:=ye w B ok.kind h;have b:=k ρ i.self;have g:∀a,aV G D ρ a->fr'.roundOf=some (a l):=λa n=>by rw[k a n];show fr.roundOf.map a=_;rw[B];rfl
 have u:∀a,aV G D ρ a->a l=ρ l:=λa n=>Option.some.inj ((g a n).symm.trans (g ρ i.self));have⟨D',r,P,wM',y,O,N,z,M⟩:=eH E.load E.store aE (RN l j) (RN (ρ l) j) D ρ wL wM i (λa n=>u a n▸vj l j w.ok) #[] _ wL' J rfl L;cases N with
 | @ok _ A _ _ s=>
   have m:=d ρ i.self;simp at m;have t:stepG.exec PM mM lM fr' cs' none wM= .go {frame:=iZ fr'.kind (bF ρ c) A,callers:=cs.map (bF ρ)++base,status:= .running,dying:=none} wM' (seen PM fr'.fn (#[]++y)):=by
    rw[m];refine uV ?_ (g ρ i.self) ?_ O
    .rw[b];exact w.ren ρ
    .exact b▸ok.kind
   refine⟨D',r,_,wM',_,t,⟨λa p=> ?_,λa p=> ?_,Bc v f,xB v f,rfl,rfl,rfl,rfl⟩,z,λe K=> ?_⟩
   .have q:=(d ρ i.self).symm.trans (d a (aV.of_ran z p));simp at q;show iZ fr'.kind (bF ρ c) A=bF a (iZ fr.kind c v);rw[q.1,s a p,b];exact xA a v f
   .have q:=(d ρ i.self).symm.trans (d a (aV.of_ran z p));simp_all
   .have:=dT _ _ _ e K;simp_all
end
def mq(wL wM:World):Prop:=∃c e f,(∀v∈c,bW v=true)/\wL.heap[fP]?=some (.cells c e f)/\wM.heap[fP]?=some (.cells c e f)
def xM(e:Event):Prop:=∃a:Addr,a.block=fP/\e=⟨.cell a,false,false⟩
def Ih(PL:Program):Prop:=∃d,PL.underlying ru=some d/\(∀fs,d≠ .struct fs)/\∀n e,d≠ .array n e
section
variable{G T:Nat}{base:List Frame}
def mq.ran{D'}{a}{wL' wM'}(h:mq wL wM)(n:fP<G)(d:dp G T D ρ wL wM)(g:jz G T D ρ wL wM D' a wL' wM'):mq wL' wM':=by
 have⟨c,e,f,m,j,i⟩:=h;refine⟨c,e,f,m, ?_, ?_⟩
 .rw[g.keepL fP (aK j) λk=>by have:=d.out _ k;omega];exact j
 .rw[g.keep fP (aK i) λb l e=>by have:=d.out _ l;have:=d.glob b;omega];exact i
def KB(a:Addr)(n):(a.add n).block=a.block:=by unfold Addr.add;split<;>rfl
def B8{a}{k}{x y}{c}{v}(h:(boundsPanic k x y c:Sem a).run PL w= .ok v w'):False:=by
 unfold boundsPanic at h;dsimp only at h;split at h
 all_goals
  rw[Rk]at h;revert h;generalize J2 PL _ w=q;intro h;cases q with
  |halt z d=>cases h
  |ok b d=>
   have xQ:=YM (PL:=PL) (α:=a) (.bounds (DN.wrap x) y b c) d;simp_all
def AL(g:bO PL PM){a}{c}(h:(Y0 t (.pointer (some a)) c).run PL w= .ok v w'):
 w'=w/\(∀j,aE j c=c)/\(∃b,v= .pointer (some b)/\b.block=a.block)/\∀l es,(Y0 t (.pointer (some a)) c).runT PM l es=(.ok v l,es):=by
 cases c with
 |int k i=>
  unfold Y0 at h⊢;simp only[asIntOf,underlying,program,bind,pure,JU,J2,Mu,←g.under]at h⊢;cases f:PL.underlying t with
  |none=>simp[f,stuck,JU]at h
  |some d=>
   simp only[f,JU]at h⊢;cases d with
   |array n e=>
    simp only[VJ,pure,JU,J2,Mu,f,←g.under]at h⊢;by_cases o:0<=i/\i<(n:Int)
    .simp only[o,and_self,↓reduceIte,sizeOf,typeInfo,program,bind,pure,JU,J2,Mu,←g.info]at h⊢;cases m:PL.info? e with
     |none=>simp[m,stuck,JU]at h
     |some z=>
      simp[m,JU,J2,Mu,ae0.injEq]at h⊢;obtain⟨rfl,rfl⟩:=h;exact⟨rfl,λj=>by simp[aE],⟨_,rfl,KB _ _⟩,s_⟩
    .simp[o,↓reduceIte]at h;split at h
     .simp_all
     .exfalso;exact B8 h
   |_=>simp[stuck,JU]at h
 |pointer p=>cases p<;>simp[Y0,asIntOf,stuck,unsupported,bind,JU]at h
 |_=>simp[Y0,asIntOf,stuck,bind,JU]at h
def dz{k}
 (b:fr.todo= .inRegion ops (i::rest)::k) (d:ops[i]?=some o) (f:lO o (yielded ops fr.tmps)=true) (a:∀c,o.op≠ .defer c):
 stepG.exec P main listen fr cs none w=stepG.apply P listen fr cs none (execOp fr.eval o) w:=by unfold stepG.exec;simp;unfold stepG.oper;simp[a46,b,d];simp_all
def El(b)(tmps)(hv:js b v=v):(jX b jO tmps).setIfInBounds dZ v=jX b jO (tmps.setIfInBounds dZ v):=by
 apply a67;intro i;by_cases d:qH (dY jO) i=true
 .rw[lN b jO _ i d];have e:=Eq.symm (by simpa[i9,ot]using d:i=dZ);subst e;rw[VE,VE,yW];simp;split
  .simp[oF,i9,hv]
  .rfl
 .have a:qH (dY jO) i=false:=by simpa using d
  have c:dZ≠i:=λe=>by subst e;simp[i9,ot]at a
  rw[fW b jO _ i a,sN c,sN c,fW b jO _ i a]
def zy(c)(fr)(v){k}(h:fr.todo= .inRegion ops (i::rest)::k)(l:ops[i]?=some o)(j:fr.fn=jO)(m:o.dst=some dZ)(hv:js c v=v):
 (bF c fr).finish v=bF c (fr.finish v):=by have⟨n,a,e,d,f,g,b⟩:=fr;simp only at h j;subst h j;simp[bF,ZD,JS,dx,l,IS,m,El c a hv]
def GY(b:jk fr)(c:dY fr.fn=1):oC fr:=GX λa k e=>sq (b.noPair c a 1 [] k e)
def DD(b:bO PL PM)(t)(a)(x):aG ρ PL PM (λv=>v) (Y0 t (.pointer (some a)) x) (Y0 t (.pointer (some a)) (aE ρ x)):=by
 unfold Y0;refine(rB x).bind λc=>(aZ b t).bind λd=> ?_;cases d with
 |array n e=>
  simp;refine(aZ b t).bind λd=> ?_;refine cT ((eT b e).bind λz=>aS _ rfl) (cT (.dead trivial) (zU b ..))
 |_=>exact .dead trivial
def Cf(E:Env PL PM G)(V:dp G T D ρ wL wM)(hP:bE wL)
 {fr'} {cs'} (m:∀a,aV G D ρ a->fr'=bF a fr) (I:∀a,aV G D ρ a->cs'=cs.map (bF a)++base) (ok:jk fr) (A:mt fr.kind cs)
    {k}  (O:fr.todo= .inRegion ops (i::rest)::k) (K:ops[i]?=some o) (hw:lO o (yielded ops fr.tmps)=true)
 (F:fr.fn=jO)  {l} (u:o.op= .indexAddr t (.global fP) l) (hx:nG 1 l=true) (H:o.dst=some dZ)
 {mL mM lL} {L} {wL'} {Y} (h:stepG.exec PL mL lL fr cs none wL= .go L wL' Y) (hT:wL'.drawn<=T) (hq:L.status= .running) (hd:L.dying=none):
 ∃D' a gM wM' J,stepG.exec PM mM true fr' cs' none wM= .go gM wM' J/\fc G D' a base L gM/\jz G T D ρ wL wM D' a wL' wM'/\∀e∈J,jm D' a e:=by
 have g:=m ρ V.self;have q:fr'.todo= .inRegion ops (i::rest)::k.map (dx ρ):=by rw[g];show fr.todo.map (dx ρ)=_;rw[O];rfl
 have B:lO o (yielded ops fr'.tmps)=true:=by rw[g];have:yielded ops (bF ρ fr).tmps=yielded ops fr.tmps:=funext λj=>fE ρ fr.fn ops fr.tmps j;simp_all
 have y:∀c,o.op≠ .defer c:=λc e=>by simp_all
 rw[dz O K hw y]at h;have z:execOp fr.eval o=(do pure (.value (←Y0 t (fr.eval (.global fP)) (fr.eval l))):Sem Next):=by unfold execOp;rw[u]
 have p:execOp fr'.eval o=(do pure (.value (←Y0 t (fr'.eval (.global fP)) (fr'.eval l))):Sem Next):=by unfold execOp;rw[u]
 rw[z]at h;have C:tx fr:=ok.noPair (by rw[F,i9]);rcases sR ok.noCall (gE _) h hq (λx N e=>eo (cz (lp (ρ:=id) E.same t _ _)) wL hP x N e) hd with⟨n,f,_,rfl⟩|⟨v,f,rfl⟩
 rotate_left
 .rw[←z]at f;have U:∀a,aV G D ρ a->aG a PL PM (λn=>n) (execOp fr.eval o) (execOp fr'.eval o):=λa W=>by rw[z,p,m a W,fX fr l (by rw[F,i9];exact hx)];exact(DD E.same t ⟨fP,0,none⟩ (fr.eval l)).bind λv=>aS _ rfl
  obtain⟨D',M,r',wM',a0,e1,e2,Z,e4⟩:=eH E.load E.store (λ_ n=>n) _ _ D ρ wL wM V U #[] _ wL' f rfl hT;cases e2 with
  |panic hp=>
   refine⟨D',M,_,wM',_,(dz q K B y).trans (wQ e1),⟨λa X=> ?_,λa X=>I a (aV.of_ran Z X),⟨ok.raise (by simp[EE,hp]),kW _ _⟩,by rw[j8,kT];exact A,rfl,rfl,rfl,rfl⟩,Z,λe R=> ?_⟩
   .show fr'.raise _=bF a (fr.raise _);rw[m a (aV.of_ran Z X),mN]
   .have:=dT _ _ _ e R;simp_all
 rw[Rk]at f;cases P:(Y0 t (fr.eval (.global fP)) (fr.eval l)).run PL wL with
 |halt x N=>simp_all
 |ok v N=>
  rw[P]at f;cases f;obtain⟨rfl,h1,⟨b,rfl,h2⟩,h3⟩:=AL E.same P;have Q:fr'.eval l=fr.eval l:=by rw[g,fX fr l (by rw[F,i9];exact hx)];exact h1 ρ
  have hr:(execOp fr'.eval o).runT PM wM #[]=(.ok (.value (.pointer (some b))) wM,#[]):=by rw[p,Q];show Mu PM (JU _ _) wM #[]=_;rw[am5];have:=h3 wM #[];simp only[a04]at this⊢;simp_all
  have S:eO fr':=by intro d w r s k2 e;simp_all
  refine⟨D,ρ,{frame:=fr'.finish (.pointer (some b)),callers:=cs',status:= .running,dying:=none},wM,_,(dz q K B y).trans (ee S hr rfl),⟨λa W=> ?_,I, ?_,by show mt (fr.finish _).kind cs;rw[dU];exact A,rfl,rfl,rfl,rfl⟩,jz.refl V,λe R=>by have:=dT _ _ _ e R;simp_all⟩
  .show fr'.finish _=bF a (fr.finish _);rw[m a W];exact zy a fr _ O K F H (by simp[js,kZ,h2])
  .exact⟨(zg fr _ ok C).1,(zg fr _ ok C).2 (GY ok (by rw[F,i9]))⟩
def EW(E:Env PL PM G)(L:Ih PL)(hW:dp G T D ρ wL wM)(hP:bE wL)(hR:mq wL wM)
 {fr':Frame} {cs':List Frame} (O:∀m,aV G D ρ m->fr'=bF m fr) (a4:∀m,aV G D ρ m->cs'=cs.map (bF m)++base) (ok:jk fr) (Z:mt fr.kind cs)
    {k:List Item}  (ht:fr.todo= .inRegion ops (i::rest)::k) (ho:ops[i]?=some o) (hw:lO o (yielded ops fr.tmps)=true)
 (hf:fr.fn=jO) (F:o.op= .load ru (.tmp dZ)) (b:kZ (fr.eval (.tmp dZ))=true) (A:eL fr)
 {mL mM lL:Bool} {X:Goroutine} {wL':World} {a6:Array Event} (h:stepG.exec PL mL lL fr cs none wL= .go X wL' a6) (hq:X.status= .running) (hd:X.dying=none):
 ∃gM U,wL'=wL/\stepG.exec PM mM true fr' cs' none wM= .go gM wM U/\fc G D ρ base X gM/\∀e∈U,xM e:=by
 have z:=O ρ hW.self;have M:fr'.todo= .inRegion ops (i::rest)::k.map (dx ρ):=by rw[z];show fr.todo.map (dx ρ)=_;rw[ht];rfl
 have a0:lO o (yielded ops fr'.tmps)=true:=by rw[z];have:yielded ops (bF ρ fr).tmps=yielded ops fr.tmps:=funext λj=>fE ρ fr.fn ops fr.tmps j;simp_all
 have N:∀c,o.op≠ .defer c:=λc e=>by simp_all
 rw[dz ht ho hw N]at h;have a3:execOp fr.eval o=(do pure (.value (←tw ru (fr.eval (.tmp dZ)))):Sem Next):=by unfold execOp;rw[F]
 have Q:execOp fr'.eval o=(do pure (.value (←tw ru (fr'.eval (.tmp dZ)))):Sem Next):=by unfold execOp;rw[F]
 have R:fr'.eval (.tmp dZ)=fr.eval (.tmp dZ):=by
  rw[z];simp only[a04,bF,JQ];rw[lN ρ fr.fn fr.tmps dZ (by simp[hf,i9,ot])];simp only[a04,JQ]at b;cases K:fr.tmps[dZ]? with
  |none=>rfl
  |some v=>
   rw[K]at b;simp only[IN]at b;simp[oF,hf,i9,js,b]
 rw[a3]at h;have a2:∀v B,(tw ru (fr.eval (.tmp dZ))).run PL wL≠ .halt (.panic v) B:=λv B e=>by
  obtain⟨d,V,I,H⟩:=L;generalize fr.eval (.tmp dZ)=p at b e;cases p<;>simp only[kZ,BZ]at b;rename_i a;cases a with
  |none=>cases b
  |some a=>
   have hl:(tw ru (.pointer (some a))).run PL wL=(load a:Sem Value).run PL wL:=by unfold tw loadVar isAgg underlying VJ;simp_all
   rw[hl]at e;simp only[load,J2]at e;cases S:wL.cell? a with
   |some u=>simp_all
   |none=>
    rw[S]at e;cases K:wL.farLoad PL a (a81==a69)with
    |ok y=>simp_all
    |error x=>rw[K]at e;simp only[Result.halt.injEq]at e;exact rn K _ e.1
 rcases sR ok.noCall (gE _) h hq (λx B e=>eo (cz (iG (ρ:=id) E.same ru _)) wL hP x B e) hd with⟨n,g,_,rfl⟩|⟨v,g,rfl⟩
 rotate_left
 .rw[Rk]at g;cases C:(tw ru (fr.eval (.tmp dZ))).run PL wL with
  |halt x B=>simp_all
  |ok v B=>simp_all
 rw[Rk]at g;cases C:(tw ru (fr.eval (.tmp dZ))).run PL wL with
 |halt x B=>simp_all
 |ok v B=>
  rw[C]at g;cases g;generalize fr.eval (.tmp dZ)=p at b C R;cases p<;>simp only[kZ,BZ]at b
  .rename_i a;cases a with
   |none=>cases b
   |some a=>
    have W:a.block=fP:=(by simpa using b);obtain⟨d,V,I,H⟩:=L;obtain⟨c,e,f,q1,Y,q3⟩:=hR;have J:wM.cell? a=wL.cell? a:=(by unfold AT;rw[W,Y,q3]);have t:∀(P:Program),P.underlying ru=some d->∀w es,(tw ru (.pointer (some a))).runT P w es=(load a:Sem Value).runT P w es:=by intro P hP w es;unfold tw loadVar isAgg underlying VJ;simp_all
    have l:=congrArg Prod.fst (t PL V wL #[]);rw[Y3,Y3,C]at l;have q:wL.cell? a=some v/\wL'=wL:=by
     simp only[load,J2]at l;cases S:wL.cell? a with
     |some x=>simp_all
     |none=>
      rw[S]at l;unfold YW at l;simp_all
    obtain⟨q,rfl⟩:=q;have a1:bW v=true:=by
     unfold AT at q;rw[W,Y]at q;simp only at q;split at q
     .cases q
     .exact q1 v (V3 q)
    have hr:(execOp fr'.eval o).runT PM wM #[]=(.ok (.value v) wM,#[⟨.cell a,false,false⟩]):=by rw[Q,R];show Mu PM (JU _ _) wM #[]=_;rw[am5,t PM (by rw[←E.same.under];exact V)];simp only[load,Mu,J,q];rfl
    have a5:eO fr':=by intro d w r s k2 e;rw[M]at e;cases e
    refine⟨_,_,rfl,by rw[dz M ho a0 N];exact ee a5 hr rfl,⟨λm hA=> ?_,a4,pj ok A v,by show mt (fr.finish v).kind cs;rw[dU];exact Z,rfl,rfl,rfl,rfl⟩,λe he=> ?_⟩
    .show fr'.finish v=bF m (fr.finish v);rw[O m hA,←gG fr v ok A,eA m v a1]
    .have:=dT _ _ _ e he;split at this
     .simp at this
     .simp at this;exact⟨a,W,this⟩
def Ag(v:dp G T D ρ wL wM){fr'}{cs'}(d:∀a,aV G D ρ a->fr'=bF a fr)(n:∀a,aV G D ρ a->cs'=cs.map (bF a)++base)(c:jk fr)(g:mt fr.kind cs)
    {k}  (m:fr.todo= .inRegion ops (i::rest)::k) (u:ops[i]?=some o) (f:fr.fn=jO) (e:o.dst=some dZ)
 (p:((ops[i]?).map (lO · (yielded ops fr.tmps))).getD false=false) (s mM t lM):
 ∃r q,stepG.exec PL s t fr cs none wL= .go r wL/\stepG.exec PM mM lM fr' cs' none wM= .go q wM/\fc G D ρ base r q:=by
 have b:=d ρ v.self;have l:fr'.todo= .inRegion ops (i::rest)::k.map (dx ρ):=by rw[b];show fr.todo.map (dx ρ)=_;rw[m];rfl
 have h:((ops[i]?).map (lO · (yielded ops fr'.tmps))).getD false=false:=by rw[b];have:yielded ops (bF ρ fr).tmps=yielded ops fr.tmps:=funext λj=>fE ρ fr.fn ops fr.tmps j;simp_all
 refine⟨_,_,iE m p,iE l h,λa w=> ?_,n,⟨(zg fr _ c (c.noPair (by rw[f,i9]))).1,(zg fr _ c (c.noPair (by rw[f,i9]))).2 (GY c (by rw[f,i9]))⟩,by rw[dU];exact g,rfl,rfl,rfl,rfl⟩;show fr'.finish undef=bF a (fr.finish undef);rw[d a w];exact zy a fr undef m u f e (gh a)
end
section
variable{α β:Type}{f:α->β}
def xm{p}{g}{a}{b}{j}(e:w.farStore p a v b= .ok (g,j)):g.drawn=w.drawn:=by
 unfold XC at e;split at e
 .rename_i f u o;split at e
  .rename_i r d;cases e;cases h:w.seen p f u a b with
   |error x=>
    unfold a61 at d;by_cases i:(!tight p p.depth u)=true
    .rw[if_pos i]at d;cases d
    .rw[if_neg i,h]at d;cases d
   |ok y=>
    have⟨c,n,l,k⟩:=nM h;have⟨q,m,_⟩:=jn p (w':={w with heap:=w.heap.setIfInBounds f.block (.cells (c.map (aE λx=>x)) n l)}) (λx=>x) k (by grind) d;rw[m]
  .cases e
 .cases e
def wdO{γ:Type}:Result γ->World
 | .ok _ w| .halt _ w=>w
def Ku{e}(a:Ask e):∀w:World,w.drawn<=(w.ask a).2.drawn:=by
 induction a with
 |done a=>intro w;exact oS _
 |ask c b k d=>
  intro w;unfold aq8
  grind
def IK(w:World)(c):w.drawn<=(w.sys c).2.drawn:=by
 have:=Ku (Kernel.perform c w.os) w;unfold aq9
 grind
def yR(P)(s:Sem α):∀w,w.drawn<=(wdO (s.run P w)).drawn:=by
 induction s with
 |pure a=>intro w;exact oS _
 |load m a k b=>
  intro w;rw[J2];split
  .exact b _ w
  .split
   .exact b _ w
   .exact oS _
 |store m a v k b=>
  intro w;cases d:sC v with
  |false=>
   have⟨e,f⟩:=iL (p:=P) (w:=w) (m:=m) (a:=a) (k:=k) d;rw[f];exact oS _
  |true=>
   rw[ic d];split
   .split
    .exact oS _
    .exact b (w.setCell a v)
   .split
    .rename_i g;rw[←xm g];exact b _
    .exact oS _
 |freeze a n k b=>
  intro w;exact yk (Nat.le_of_eq (by unfold a17;split<;>rfl)) (b (w.freeze a n))
 |getObj r k b=>
  intro w;rw[J2];split<;>first|exact oS _|exact b _ w
 |setObj r o k b=>
  intro w;rw[J2];split<;>first|exact oS _|grind
 |choose q k b=>
  intro w;rw[J2]
  grind
 |sys c k b=>intro w;exact yk (IK w c) (b _ _)
 |halt h=>intro w;exact oS _
 |new o k b=>intro w;exact b w.heap.size {w with heap:=w.heap.push o}
 |shape r k b=>intro w;exact b _ w
 |frozen a k b=>intro w;exact b _ w
 |program k b=>intro w;exact b _ w
 |mark m k b=>intro w;exact b w
end
section
variable{G T:Nat}{base:List Frame}
def pV(f:Operand)(l:Nat):Call:={callee:= .value f,args:=#[.const (.func (.yield l) #[] #[])],argTypes:=#[]}
def db(fr:Frame)(f:Operand)(l:Nat):Sem Next:=do let d←resolve fr.eval (pV f l) 0;invoke d.target d.args
def lX(b:bO PL PM)(c:∀g,jl ρ PL PM g){fr'}{f}(d:fr'.eval f=aE ρ (fr.eval f))(l):aG ρ PL PM (m0 ρ) (db fr f l) (db fr' f (ρ l)):=by
 unfold db resolve pV;dsimp only;rw[d];have h:(#[ah8 (.func (.yield (ρ l)) #[] #[])].map fr'.eval)=(#[ah8 (.func (.yield l) #[] #[])].map fr.eval).map (aE ρ):=by simp[a04,aE,kQ]
 rw[h];unfold XD;cases fr.eval f with
 |func i first a=>
  simp only[aE,pure_bind];rw[←Yg];exact vi b c i a _
 |nilFunc=>
  simp[aE,pure_bind];exact lm (e:= .nilDeref) b rfl
 |_=>simp;exact .dead trivial
def mi(b:∀g,jl ρ PL PM g)(fr)(f)(l):de PL (db fr f l):=by
 unfold db resolve pV;dsimp only;cases fr.eval f with
 |func c first a=>exact qF b c a _
 |nilFunc=>exact de.rt .nilDeref
 |_=>exact de.halt _
def cn(fr:Frame)(k:List Item)(l:Nat)(mark:List Deferred):Frame:={fr with todo:= .inRangeFunc l::k,defers:=mark++fr.defers}
def gH{d}{f}{e}{a b}{k}{c}
 (g:fr.todo= .code (.rangeFunc f e a b)::k) (h:(Hb fr.fn fr.tmps e a b fr.roundOf).runT P w #[]=(.ok (l,c) d,es)):
 stepG.exec P main listen fr cs none w=u5 (seen P fr.fn es) (stepG.apply P listen (cn fr k l c) cs none (db (cn fr k l c) f l) d):=by unfold stepG.exec;simp only[g,h];rfl
def yd{f}{e}{a b}{k}
 (m:fr.todo= .code (.rangeFunc f e a b)::k) (h:stepG.exec P main listen fr cs none w= .go g w' es):
 ∃l c d es1,(Hb fr.fn fr.tmps e a b fr.roundOf).run P w= .ok (l,c) d/\stepG.apply P listen (cn fr k l c) cs none (db (cn fr k l c) f l) d= .go g w' es1:=by
 have j:=Y3 P (Hb fr.fn fr.tmps e a b fr.roundOf) w #[];cases i:(Hb fr.fn fr.tmps e a b fr.roundOf).runT P w #[]with
 |mk r n=>
  rw[i]at j;cases r with
  |ok x d=>
   have⟨l,c⟩:=x;rw[gH m i]at h;have xQ:=nD h
   grind
  |halt x d=>
   unfold stepG.exec at h
   grind[u5]
def KP(g:bE wL){e}{tmps}{a b}{d}(h:(ZI l args).run PL wL= .ok (.round e f tmps a b) d):jS 0 a=true/\jS 0 b=true/\dY f=0:=by
 unfold ZI Zw getObj at h;simp only[bind,JU,J2]at h;split at h
 .cases h
 .rename_i o i j;have c:=g _ _ ‹_›;cases o with
  |loop r=>
   simp only[pure,JU]at h;split at h
   .simp[stuck,JU]at h
   .simp at h;obtain xQ:=h;simp[dj,jL]at c;simp_all
  |_=>simp[stuck,JU]at h
 .cases h
def eM(P:Program)(s:Sem Next):Prop:=∀w l f tmps a b w',s.run P w≠ .ok (.round l f tmps a b) w'
def eM.after{d}{s}{k:d->Sem Next}(h:∀a,eM PL (k a)):eM PL (s>>=k):=λw l f c a b j e=>by
 rw[Rk]at e;cases i:s.run PL w with
 |ok x g=>rw[i]at e;exact h x g l f c a b j e
 |halt x g=>simp_all
def sF(x):eM PL (.halt x):=λw l f c a b d e=>by cases e
def jr(s):eM PL (do pure (.value (←s))):=eM.after λ_ w l f c a b d e=>by cases e
def rh(x):eM PL (runtimePanic x):=λw l f c a b g h=>by obtain⟨y,e,d,_⟩:=YM x w;rw[d]at h;cases h
def jd(g)(r:jl ρ PL PM g)(args):eM PL (callFunc g args):=by
 unfold callFunc;intro w l f c a b o h;rw[Rk]at h
 change (match PL.funcs[g]? with|none=>_|some i=>_:Sem Next).run PL w=_ at h
 cases k:PL.funcs[g]? with
 |none=>simp_all
 |some i=>
  rw[k]at h;have⟨q,t⟩:=r i k;have j:(i.name== "runtime.NumGoroutine")=false:=by simpa using q
  simp only[j,BZ,↓reduceIte]at h;obtain⟨d,_⟩|⟨d,n,m,u⟩|⟨d,n,_,e,m,_⟩:=t
  .have p:i.body.isNone=false:=(by simp_all);simp_all
  .simp_all
  .rw[d,n,m]at h;exact eM.after (λ_=>jr (e args)) w l f c a b o h
def kV(a:∀g,jl ρ PL PM g)(r)(name)(args):eM PL (callMethod r name args):=by
 unfold callMethod;cases r with
 |iface t v=>exact eM.after λp=>eM.after λy=>jd y.1 (a y.1) _
 |nilIface=>exact rh _
 |_=>exact sF _
def AH(o:bE wL)(i:∀g,jl ρ PL PM g)(fn)(cap args){n}{tmps}{a b}{k}(h:(invoke (.fn fn cap) args).run PL wL= .ok (.round n f tmps a b) k):
 jS 0 a=true/\jS 0 b=true/\dY f=0:=by
 cases fn with
 |func g=>exact absurd h (jd g (i g) _ _ _ _ _ _ _ _)
 |method e=>
  unfold invoke at h;dsimp only at h;cases c:args[0]? with
  |none=>simp_all
  |some r=>rw[c]at h;exact absurd h (kV i _ _ _ _ _ _ _ _ _ _)
 |methodOf t e=>
  unfold invoke at h;dsimp only at h;cases c:args[0]? with
  |none=>simp_all
  |some r=>rw[c]at h;exact absurd h (eM.after (λd=>kV i _ _ _) _ _ _ _ _ _ _)
 |via t j g m=>
  unfold invoke at h;dsimp only at h;cases c:args[0]? with
  |none=>simp_all
  |some r=>rw[c]at h;exact absurd h (eM.after (λd=>jd g (i g) _) _ _ _ _ _ _ _)
 |yield l=>exact KP o h
def ui(k:bE wL)(j:∀g,jl ρ PL PM g)(v)(args){i}{tmps}{a b}{e}(h:(do let d←XD v args;invoke d.target d.args:Sem Next).run PL wL= .ok (.round i f tmps a b) e):
 jS 0 a=true/\jS 0 b=true/\dY f=0:=by
 unfold XD at h;cases v with
 |func l first c=>exact AH k j l c _ h
 |nilFunc=>exact absurd h (rh .nilDeref _ _ _ _ _ _ _)
 |_=>exact absurd h (sF _ _ _ _ _ _ _ _)
def C7(i:bE wL)(e:∀g,jl ρ PL PM g){d}{tmps}{a b}{c}(h:(db fr x l).run PL wL= .ok (.round d f tmps a b) c):
 jS 0 a=true/\jS 0 b=true/\dY f=0:=ui i e _ _ h
def EB(B:bE wL)(v:∀g,jl ρ PL PM g)(ev){z}(o)(k:oK z o.op=true){u}{tmps}{a b}{s}(h:(execOp ev o).run PL wL= .ok (.round u f tmps a b) s):
 jS 0 a=true/\jS 0 b=true/\dY f=0:=by
 unfold execOp at h;cases i:o.op with
 |move x=>simp_all
 |assign x=>simp_all
 |pick x y c=>rw[i]at h;exact absurd h (eM.after (λ_ w l f tmps a b n e=>by cases e) _ _ _ _ _ _ _)
 |store t x y=>rw[i]at h;exact absurd h (eM.after (λ_ w l f tmps a b n e=>by cases e) _ _ _ _ _ _ _)
 |nilCheck x=>
  rw[i]at h;exfalso;dsimp only at h;revert h;split<;>(try split)<;>intro h<;>first
   |exact rh _ _ _ _ _ _ _ _ h
   |(cases h;done)
   |(refine eM.after (λ_=>eM.after λ_=> ?_) _ _ _ _ _ _ _ h
     intro w l f tmps a b n e;revert e;split
     .simp_all
     .simp_all)
 |call c=>
  rw[i]at h k
  change (do let d←resolve ev c o.type;invoke d.target d.args:Sem Next).run PL wL=_ at h
  unfold resolve at h;simp[oK,rc,jL]at k;have m:=k.2;cases j:c.callee with
  |builtin q=>
   rw[j]at m h;have A:=m;exfalso;cases q<;>first|exact jr _ _ _ _ _ _ _ _ h|(simp[Pj]at A;done)
  |invoke r p=>simp_all
  |value g=>rw[j]at h;exact ui B v _ _ h
 |_=>first
  |(rw[i]at h;exact absurd h (jr _ _ _ _ _ _ _ _))
  |(rw[i]at k;cases k)
def ep(P:Program)(s:Sem Next):Prop:=∀w f args w',s.run P w= .ok (.enter f args) w'->∃fn,P.funcs[f]?=some fn/\fn.body.isSome=true
def ep.after{c}{s}{k:c->Sem Next}(h:∀a,ep PL (k a)):ep PL (s>>=k):=λw f b i e=>by
 rw[Rk]at e;cases g:s.run PL w with
 |ok x d=>rw[g]at e;exact h x d f b i e
 |halt x d=>simp_all
def jG(x):ep PL (.halt x):=λw f a b e=>by cases e
def jF{n}(h:∀f args,n≠ .enter f args):ep PL (pure n):=λw f args a e=>by simp_all
def ov(s):ep PL (do pure (.value (←s))):=ep.after λ_=>jF s_
def CZ(s):ep PL (do s;pure .skip):=ep.after λ_=>jF s_
def tL(x):ep PL (runtimePanic x):=λw f a d h=>by obtain⟨y,c,b,_⟩:=YM x w;rw[b]at h;cases h
def jP(g)(n:jl ρ PL PM g)(args):ep PL (callFunc g args):=by
 unfold callFunc;intro w f q k h;rw[Rk]at h
 change (match PL.funcs[g]? with|none=>_|some b=>_:Sem Next).run PL w=_ at h
 cases c:PL.funcs[g]? with
 |none=>simp_all
 |some b=>
  rw[c]at h;have⟨m,o⟩:=n b c;have d:(b.name== "runtime.NumGoroutine")=false:=by simpa using m
  simp only[d,BZ,↓reduceIte]at h;obtain⟨a,_⟩|⟨a,j,i,p⟩|⟨a,j,_,e,i,_⟩:=o
  .have l:b.body.isNone=false:=(by simp_all);simp_all
  .simp_all
  .rw[a,j,i]at h;exact ep.after (λ_=>ov (e args)) w f q k h
def lS(a:∀g,jl ρ PL PM g)(r)(name)(args):ep PL (callMethod r name args):=by
 unfold callMethod;cases r with
 |iface t v=>exact ep.after λp=>ep.after λy=>jP y.1 (a y.1) _
 |nilIface=>exact tL _
 |_=>exact jG _
def AR(l)(args):ep PL (ZI l args):=by refine ep.after λr=> ?_;intro w f b a e;revert e;split<;>simp
def yh(b:∀g,jl ρ PL PM g)(fn)(cap args):ep PL (invoke (.fn fn cap) args):=by
 cases fn with
 |func g=>exact jP g (b g) _
 |method a=>
  unfold invoke;cases args[0]? with
  |none=>exact jG _
  |some r=>exact lS b _ _ _
 |methodOf t a=>
  unfold invoke;dsimp only;cases args[0]? with
  |none=>exact jG _
  |some r=>exact ep.after λd=>lS b _ _ _
 |via t c g e=>
  unfold invoke;dsimp only;cases args[0]? with
  |none=>exact jG _
  |some r=>exact ep.after λd=>jP g (b g) _
 |yield l=>exact AR l args
def pz(b:∀g,jl ρ PL PM g)(v)(args):ep PL (do let d←XD v args;invoke d.target d.args):=by
 cases v with
 |func c first a=>exact yh b c a _
 |nilFunc=>exact tL .nilDeref
 |_=>exact jG _
def AU(a:∀g,jl ρ PL PM g)(fr)(x)(l):ep PL (db fr x l):=pz a _ _
def D3(n:∀g,jl ρ PL PM g)(ev){z}(o)(b:oK z o.op=true):ep PL (execOp ev o):=by
 unfold execOp;cases a:o.op with
 |move x=>exact jF s_
 |assign x=>exact jF s_
 |pick x y c=>exact ep.after λ_=>jF s_
 |store t x y=>exact CZ _
 |nilCheck x=>
  dsimp only;intro w f q m h;revert h;split<;>(try split)<;>intro h<;>first
   |exact tL _ _ _ _ _ h
   |(cases h;done)
   |(refine ep.after (λ_=>ep.after λ_=> ?_) _ _ _ _ h
     intro w f q m e;revert e;split
     .simp_all
     .simp_all)
 |call c=>
  rw[a]at b
  change ep PL (do let d←resolve ev c o.type;invoke d.target d.args:Sem Next)
  unfold resolve;simp[oK,rc,jL]at b;have j:=b.2;cases i:c.callee with
  |builtin l=>
   rw[i]at j;have p:=j;cases l<;>first|exact ov _|(simp[Pj]at p;done)
  |invoke r k=>simp_all
  |value g=>exact pz n _ _
 |_=>first
  |exact ov _
  |(rw[a]at b;cases b)
def uX{fn}{tmps}{i}{a b}{e}{d}{h}(c:(Hb fn tmps i a b e).run PL wL= .ok (l,d) h):ei d=true:=by
 unfold Hb newObj at c;cases e with
 |none=>
  simp[bind,JU,pure,J2,ae0.injEq,Prod.mk.injEq]at c;rw[←c.1.2];rfl
 |some j=>
  simp[bind,pure]at c;rw[ah5]at c;cases f:(Zw j).run PL wL with
  |halt y g=>simp_all
  |ok y g=>
   rw[f]at c;simp only[J2,JU,Result.andThen,ae0.injEq,Prod.mk.injEq]at c;rw[←c.1.2];rfl
def jJ(P:Program)(fr:Frame)(w:World)(f:FuncId)(args:Array Value)(w':World):Prop:=
 fr.mode= .run/\((∃ops n rest k o,fr.todo= .inRegion ops (n::rest)::k/\ops[n]?=some o/\lO o (yielded ops fr.tmps)=true/\oK (dY fr.fn) o.op=true/\(o.dst).any (qH (dY fr.fn))=false/\(execOp fr.eval o).run P w= .ok (.enter f args) w')\/
  ∃x ps a b k l mark w1,fr.todo= .code (.rangeFunc x ps a b)::k/\(Hb fr.fn fr.tmps ps a b fr.roundOf).run P w= .ok (l,mark) w1/\(db (cn fr k l mark) x l).run P w1= .ok (.enter f args) w')
def ow(j:∀g,jl ρ PL PM g)(h:jJ PL fr w f args w'):∃fn,PL.funcs[f]?=some fn/\fn.body.isSome=true:=by
 obtain⟨m,n,d,k,o,_,_,_,c,_,e⟩|⟨x,q,a,b,k,l,i,p,_,_,e⟩:=h.2
 .exact D3 j _ _ c _ _ _ _ e
 .exact AU j _ _ _ _ _ _ _ e
def C9(E:Env PL PM G)(hW:dp G T D ρ wL wM)(hP:bE wL)
 {fr'} {cs'} (H:∀c,aV G D ρ c->fr'=bF c fr) (a0:∀c,aV G D ρ c->cs'=cs.map (bF c)++base) (ok:jk fr) (W:mt fr.kind cs)
  {B} {a b} {k} (S:fr.todo= .code (.rangeFunc x B a b)::k)
 {mL mM lL} {V} {wL'} {a2} (h:stepG.exec PL mL lL fr cs none wL= .go V wL' a2) (hT:wL'.drawn<=T) (hq:V.status= .running) (hd:V.dying=none) (Z:fr.mode= .run) (hE:∀f args w',jJ PL fr wL f args w'->jT PL PM f):
 ∃D' c U wM' s,stepG.exec PM mM true fr' cs' none wM= .go U wM' s/\fc G D' c base V U/\jz G T D ρ wL wM D' c wL' wM'/\∀e∈s,jm D' c e:=by
 have⟨l,d,A,a6,i,w⟩:=yd S h;have hi:=ok.todo;rw[S]at hi;simp[lP,jL,mc,jS]at hi;have⟨⟨⟨⟨hz,Y⟩,ha⟩,hb⟩,hk⟩:=hi;have p:dY fr.fn=0:=by simp_all
 rw[p]at ha hb Y;have O:∀c,aV G D ρ c->aG c PL PM (λy=>(c y.1,y.2.map (kR c))) (Hb fr.fn fr.tmps B a b fr.roundOf) (Hb fr'.fn fr'.tmps B a b fr'.roundOf):=λc hA=>by rw[H c hA];show aG c PL PM _ _ (Hb fr.fn (jX c fr.fn fr.tmps) B a b (fr.roundOf.map c));rw[nR c p];exact oA fr.fn fr.tmps B a b fr.roundOf ha hb p
 have K:=dV (O ρ hW.self) wL hP _ _ i;have r:=uX i;have u:jk (cn fr k l d):=by
  refine⟨⟨?_,ok.mode,ok.kind,ok.round⟩, ?_⟩
  .show ei (d++fr.defers)=true;simp only[ei,af2,jL];exact⟨r,ok.defers⟩
  .show lP (dY fr.fn) (Item.inRangeFunc l::k)=true;simp[lP,jL,mc];simp_all
 have I:eL (cn fr k l d):=tN λ_ _ _ _ e=>by cases e
 have L:=lX E.same (E.fn ρ) (fX (cn fr k l d) x (by show nG (dY fr.fn) x=true;exact p▸Y)) l;have a1:A.drawn<=T:=by
  have:=yR PL (db (cn fr k l d) x l) A;obtain⟨n,o,_,_⟩|⟨v,o,_⟩:=sR u.noCall (mi (E.fn ρ) _ x l) w hq (λx z e=>eo L A K x z e) hd
  .rw[o]at this;exact yk this hT
  .rw[o]at this;exact yk this hT
 have⟨Q,g,r',a5,a3,e1,e2,P,e4⟩:=eH E.load E.store (λc y=>(c y.1,y.2.map (kR c))) _ _ D ρ wL wM hW O #[] _ A i rfl a1;cases e2 with
 | @ok _ y' _ _ X=>
   have⟨R,j⟩:=y';have J:=λc (m:aV G Q g c)=>aV.of_ran P m;have F:∀c,aV G Q g c->R=c l/\j=d.map (kR c):=λc m=>by grind
   have C:∀c,aV G Q g c->fr'.todo= .code (.rangeFunc x B a b)::k.map (dx c):=λc m=>by rw[H c (J c m)];show fr.todo.map (dx c)=_;rw[S];rfl
   have t:∀c,aV G Q g c->cn fr' (k.map (dx g)) R j=bF c (cn fr k l d):=λc m=>by have q:=(C g P.rel.self).symm.trans (C c m);simp only[List.cons.injEq,true_and]at q;rw[q,(F c m).1,(F c m).2,H c (J c m)];simp[cn,bF,JS,dx,Q4]
   have N:∀c,aV G Q g c->aG c PL PM (m0 c) (db (cn fr k l d) x l) (db (cn fr' (k.map (dx g)) R j) x R):=λc m=>by rw[t c m,(F c m).1];exact lX E.same (E.fn c) (fX (cn fr k l d) x (by show nG (dY fr.fn) x=true;exact p▸Y)) l
   have⟨D',c,U,wM',s,f1,f2,f3,f4⟩:=lV E.tab E.load E.store P.rel t (λc m=>a0 c (J c m)) u W I N (mi (E.fn g) _ x l) (λx z e=>eo L A K x z e)
    (λf args w2 e=>hE f args w2 ⟨Z, .inr ⟨x,B,a,b,k,l,d,A,S,i,e⟩⟩) (λl2 f a4 a b w2 e=>C7 K (E.fn g) e) w hT hq hd
   refine⟨D',c,U,wM',seen PM fr'.fn (#[]++a3)++s, ?_,f2,P.trans f3,λe M=> ?_⟩
   .rw[gH (C g P.rel.self) e1,f1];rfl
   .obtain M|M:=JY.1 M
    .exact(e4 e (by simpa using dT _ _ _ e M)).mono f3.ext
    simp_all
end
def ja{z}(h:eB z ops=true):(z=3\/z=0)/\∃o p,ops=#[o,p]/\o.guard=none/\p.guard=none/\p.dst=none/\∃d,o.dst=some d/\
 ((∃t s,o.op= .makeInterface t (.const (.s s))/\p.op= .panic (.tmp d))\/(z=3/\∃a b c,o.op= .makeFunc (.func gI) a b/\a.all (nG 3)=true/\b.all (nG 3)=true/\p.op= .defer c/\c.args.isEmpty=true/\c.callee= .value (.tmp d))):=by
 have⟨l⟩:=ops;unfold eB at h;split at h
 .rename_i o p e;simp only at e;subst e;simp at h
  grind
 .cases h
def GG{z}(h:eB z ops=true):eB 3 ops=true:=by
 rcases(ja h).1 with rfl|rfl
 .exact h
 .unfold eB at h⊢
  grind
def MF{z t}(h:z=3\/z=0):qH z t=false:=by rcases h with rfl|rfl<;>rfl
section
variable{G T:Nat}{base:List Frame}
def CQ(Z:dp G T D ρ wL wM)(hP:bO PL PM){fr':Frame}{cs':List Frame}(m:∀f,aV G D ρ f->fr'=bF f fr)(Y:∀f,aV G D ρ f->cs'=cs.map (bF f)++base)(I:jk fr)(S:mt fr.kind cs)
  {k:List Item} (H:fr.todo= .inRegion ops [0,1]::k) (hp:eB (dY fr.fn) ops=true) {mL mM J:Bool} {gL:Goroutine} {wL':World} {a0:Array Event} (h:stepG.exec PL mL J fr cs none wL= .go gL wL' a0):
 ∃gM,wL'=wL/\stepG.exec PM mM true fr' cs' none wM= .go gM wM/\fc G D ρ base gL gM:=by
 obtain⟨Q,o,p,rfl,g1,g2,g3,d,hd,l⟩:=ja hp;have M:=m ρ Z.self;have V:fr'.todo= .inRegion #[o,p] [0,1]::k.map (dx ρ):=by rw[M];show fr.todo.map (dx ρ)=_;rw[H];rfl
 have W:(#[o,p]:Array Oper)[0]?=some o:=rfl;have U:∀tm,lO o (yielded #[o,p] tm)=true:=λtm=>by simp[lO,g1]
 have A:∀c,o.op≠ .defer c:=λc e=>by simp_all
 have X:=I.todo;rw[H]at X;simp only[lP,jL]at X;obtain⟨v,hv,j,L⟩:∃v:Value,(execOp fr.eval o).runT PL wL #[]=(.ok (.value v) wL,#[])/\(∀f,aV G D ρ f->(execOp fr'.eval o).runT PM wM #[]=(.ok (.value (aE f v)) wM,#[]))/\
  ((p.op= .panic (.tmp d)/\∃t s,v= .iface t (.string s))\/∃c,p.op= .defer c/\c.args.isEmpty=true/\c.callee= .value (.tmp d)/\∃a b,v= .func (.func gI) a b):=by
  rcases l with⟨t,s,C,B⟩|⟨Q,a,b,c,C,ha,hb,B,e3,e4⟩
  .have E:∀(P:Program) (w:World) (ev:Operand->Value) (g:TypeDesc),ev (.const (.string s))= .string s->P.underlying t=some g->(∀n,g≠ .interface n)->(execOp ev o).runT P w #[]=(.ok (.value (.iface t (.string s))) w,#[]):=λP w ev g he F R=>by cases g<;>first|exact absurd rfl (R _)|simp[-IE,execOp,C,he,ZT,underlying,program,F,bind,JU,Mu,pure]
   rw[dz H W (U _) A]at h;unfold stepG.apply at h;have N:execOp fr.eval o=(do pure (.value (←ZT t (.string s))):Sem Next):=(by unfold execOp;rw[C];rfl);cases F:PL.underlying t with
   |none=>
    have y:(execOp fr.eval o).run PL wL= .halt (.stuck "no such type") wL:=(by rw[N];simp[ZT,underlying,program,F,bind,JU,stuck,J2]);have i:((execOp fr.eval o).runT PL wL #[]).1= .halt (.stuck "no such type") wL:=(by simp_all);generalize (execOp fr.eval o).runT PL wL #[]=q at h i;obtain⟨q1,q2⟩:=q;simp only at i;subst i;cases J<;>simp[y,u5]at h
   |some g=>
    by_cases R:∃n,g= .interface n
    .obtain⟨n,rfl⟩:=R;have y:(execOp fr.eval o).run PL wL= .halt (.stuck "MakeInterface: a concrete type expected") wL:=(by rw[N];simp[ZT,underlying,program,F,bind,JU,stuck,J2,pure]);have i:((execOp fr.eval o).runT PL wL #[]).1= .halt (.stuck "MakeInterface: a concrete type expected") wL:=(by simp_all);generalize (execOp fr.eval o).runT PL wL #[]=q at h i;obtain⟨q1,q2⟩:=q;simp only at i;subst i;cases J<;>simp[y,u5]at h
    .have K:∀n,g≠ .interface n:=λn e=>R ⟨n,e⟩;exact⟨.iface t (.string s),E PL wL _ g rfl F K,λf _=>by rw[E PM wM fr'.eval g rfl (by rw[←hP.under];exact F) K];simp[aE], .inl ⟨B,_,_,rfl⟩⟩
  .refine⟨.func (.func gI) (a.map fr.eval) (b.map fr.eval), ?_,λf O=> ?_, .inr ⟨c,B,e3,e4,_,_,rfl⟩⟩
   .simp[-IE,execOp,C,a75,bind,JU,Mu,pure]
   .have h1:a.map fr'.eval=(a.map fr.eval).map (aE f):=evs (z:=3) (λx E=>by rw[m f O];exact fX fr x (by exact Q▸E)) ha;have h2:b.map fr'.eval=(b.map fr.eval).map (aE f):=evs (z:=3) (λx E=>by rw[m f O];exact fX fr x (by exact Q▸E)) hb;simp only[execOp,C,h1,h2];simp[-IE,a75,bind,JU,Mu,pure,aE,kQ]
 have hL:stepG.exec PL mL J fr cs none wL= .go {frame:=fr.finish v,callers:=cs,status:= .running,dying:=none} wL:=by
  rw[dz H W (U _) A];unfold stepG.apply;have y:(execOp fr.eval o).run PL wL= .ok (.value v) wL:=by simp_all
  cases J<;>simp only[hv,y,↓reduceIte,BZ]<;>simp[u5,seen]
 rw[hL]at h;simp only[a24.injEq]at h;obtain⟨rfl,rfl,_⟩:=h;have hM:stepG.exec PM mM true fr' cs' none wM= .go {frame:=fr'.finish (aE ρ v),callers:=cs',status:= .running,dying:=none} wM:=by rw[dz V W (U _) A];unfold stepG.apply;simp only[j ρ Z.self,↓reduceIte];simp[u5,seen]
 have r:∀u,fr.finish u={fr with tmps:=fr.tmps.setIfInBounds d u,todo:= .inRegion #[o,p] [1]::k}:=λu=>by unfold ZD;simp_all
 refine⟨_,rfl,hM,λf O=> ?_,Y, ?_,by show mt (fr.finish v).kind cs;rw[dU];exact S,rfl,rfl,rfl,rfl⟩
 .have C:aE ρ v=aE f v:=by have:=(j ρ Z.self).symm.trans (j f O);simpa using this
  show fr'.finish (aE ρ v)=bF f (fr.finish v);rw[C,m f O,r];unfold ZD;simp only[bF,H,JS,dx];have:qH (dY fr.fn) d=false:=MF Q;simp[hd,C3 f fr.fn fr.tmps d v this]
 .show jk (fr.finish v)/\oC (fr.finish v);rw[r];refine⟨⟨⟨I.defers,I.mode,I.kind,I.round⟩, ?_⟩,λ_ a1 k' e hq=> ?_⟩
  .simp only[lP,jL];exact⟨by simp[mc,hp],X.2⟩
  .simp only[List.cons.injEq,ah7.injEq]at e;obtain⟨⟨rfl,_⟩,_⟩:=e;refine⟨p,d,rfl,g2,g3, ?_⟩;have hs:(fr.tmps.setIfInBounds d v)[d]?=none\/(fr.tmps.setIfInBounds d v)[d]?=some v:=by
    rw[VE];simp only[↓reduceIte];split
    .exact .inr rfl
    .exact .inl rfl
   rcases L with⟨B,t,s,rfl⟩|⟨c,B,e3,e4,a,b,rfl⟩
   .exact .inl ⟨B,hs.imp id λh=>⟨t,s,h⟩⟩
   .exact .inr ⟨c,B,e3,e4,hs.imp id λh=>⟨_,_,h⟩⟩
def oX{k}{z}(j:z=3->fr.roundOf=none)(m:eB z ops=true)(f:fr.todo= .inRegion ops [1]::k)(c:ops[1]?=some o)(l:lO o (yielded ops fr.tmps)=true):
 stepG.exec P main listen fr cs none w=stepG.apply P listen fr cs none (execOp fr.eval o) w:=by
 obtain⟨p,n,i,rfl,_,_,_,d,_,a⟩:=ja m;have b:i=o:=by simpa using c
 subst b;unfold stepG.exec;simp;unfold stepG.oper;simp[a46,f,c]
 grind
def IY{P}{main listen}{fr}{cs}{w}{ops}{k}(h:∃(o:Oper) (d:Tmp),ops[1]?=some o/\o.guard=none/\o.dst=none/\
 ((o.op= .panic (.tmp d)/\(fr.tmps[d]?=none\/∃t s,fr.tmps[d]?=some (.iface t (.string s))))\/(∃c,o.op= .defer c/\c.args.isEmpty=true/\c.callee= .value (.tmp d)/\(fr.tmps[d]?=none\/∃a b,fr.tmps[d]?=some (.func (.func gI) a b))))) (r:dY fr.fn=3->fr.roundOf=none) (z:eB (dY fr.fn) ops=true) (y:fr.todo= .inRegion ops [1]::k):
 (∃x w' es,stepG.exec P main listen fr cs none w= .ended x w' es)\/∃g,stepG.exec P main listen fr cs none w= .go g w/\g.status= .running/\g.dying=none:=by
 have⟨o,d,A,B,p,m⟩:=h;have u:lO o (yielded ops fr.tmps)=true:=by simp[lO,B]
 have l:stepG.exec P main listen fr cs none w=stepG.apply P listen fr cs none (execOp fr.eval o) w:=oX r z y A u;rw[l];unfold stepG.apply;have j:fr.tmps[d]?=none->fr.eval (.tmp d)=undef:=λe=>by simp[a04,e]
 have i:∀v,fr.tmps[d]?=some v->fr.eval (.tmp d)=v:=λv e=>by simp[a04,e]
 obtain⟨n,e|⟨t,s,e⟩⟩|⟨c,n,C,q,e|⟨a,b,e⟩⟩:=m
 .have f:execOp fr.eval o= .halt (.stuck "Panic: interface value expected"):=by unfold execOp;rw[n];simp[j e];rfl
  rw[f];left;cases listen<;>simp[-IE,Mu,J2,u5]
 .have f:execOp fr.eval o= .halt (.panic (.iface t (.string s))):=by unfold execOp;rw[n];simp[i _ e];rfl
  rw[f];right;refine⟨j8 fr cs (.iface t (.string s)), ?_,rfl,rfl⟩;cases listen<;>simp[-IE,Mu,J2,u5,j8,seen]
 .have f:execOp fr.eval o= .halt (.stuck "call: function value expected"):=by unfold execOp resolve;rw[n];simp[q,j e];rfl
  rw[f];left;cases listen<;>simp[-IE,Mu,J2,u5]
 .have f:execOp fr.eval o= .pure (.defer ⟨.fn (.func gI) b,a++c.args.map fr.eval⟩):=by unfold execOp resolve;rw[n];simp[q,i _ e,XD];rfl
  rw[f];right;refine⟨_,by cases listen<;>simp[-IE,Mu,J2,u5,seen]<;>rfl,rfl,rfl⟩
def nT{f}{xs}{k}{z}(j:f.todo= .inRegion ops (n::rest)::k)(l:ops[n]?=some o)(i:lO o (yielded ops f.tmps)=true)(a:DU z o=true)(e:f.roundOf=none):
 stepG.exec P main listen f xs none w=match tryRecover f xs with
  |some (v,ys)=> .go {frame:=f.finish v,callers:=ys,status:= .running,dying:=none} w
  |none=> .go {frame:=f.finish .nilIface,callers:=xs,status:= .running,dying:=none} w:=by
 obtain⟨c,b,g⟩:∃c,o.op= .call c/\c.callee= .builtin .recover:=by
  unfold DU at a
  grind
 have d:execOp f.eval o= .pure .recover:=by unfold execOp resolve;rw[b];simp[g];rfl
 rw[dz j l i (λc e=>by simp_all),d];unfold stepG.apply;cases listen<;>simp[Mu,J2,e,↓reduceIte,BZ]<;>cases tryRecover f xs<;>simp[u5,seen]
def lU{a}{m}{f}{xs}{g}{b a_}{es}(k:f.defers=⟨.fn (.func a) b,a_⟩::es)(j:P.funcs[a]?=some g)(i:g.body.isSome=true)(h:g.name≠ "runtime.NumGoroutine"):
 unwind P m f xs none w= .go {frame:=yj P a (a_++b) .deferred,callers:={f with defers:=es}::xs,status:= .running,dying:=none} w:=by
 have e:(invoke (.fn (.func a) b) a_).runT P w #[]=(.ok (.enter a (a_++b)) w,#[]):=by
  have c:(g.name== "runtime.NumGoroutine")=false:=by simpa using h
  have d:g.body.isNone=false:=by simp_all
  show(callFunc a (a_++b)).runT P w #[]=_;unfold callFunc
  change (match P.funcs[a]? with|none=>_|some l=>_:Sem Next).runT P w #[]=_
  rw[j];simp only[c,d,BZ,↓reduceIte];rfl
 unfold unwind;simp[k];unfold callDeferred;simp only[e];simp[u5,seen]
def Aj(Q:dp G T D ρ wL wM){fr':Frame}{cs':List Frame}(n:∀g,aV G D ρ g->fr'=bF g fr)(O:∀g,aV G D ρ g->cs'=cs.map (bF g)++base)(w:jk fr)(S:oC fr)(hm:fr.mode= .run)(H:mt fr.kind cs)
  {k:List Item} (z:fr.todo= .inRegion ops [1]::k) (M:eB (dY fr.fn) ops=true) {mL mM I:Bool} {R:Goroutine} {wL':World} {Z:Array Event} (h:stepG.exec PL mL I fr cs none wL= .go R wL' Z):
 ∃gM,wL'=wL/\stepG.exec PM mM true fr' cs' none wM= .go gM wM/\fc G D ρ base R gM:=by
 obtain⟨o,d,V,hg,N,A⟩:=S hm ops k z (GG M);have hz:=(ja M).1;have W:=w.todo;rw[z]at W;simp only[lP,jL]at W;have L:dY fr.fn=3->fr.roundOf=none:=λe=>w.round (by rw[e];decide);have m:=n ρ Q.self;have J:fr'.todo= .inRegion ops [1]::k.map (dx ρ):=by rw[m];show fr.todo.map (dx ρ)=_;rw[z];rfl
 have K:dY fr.fn=3->fr'.roundOf=none:=λe=>by rw[m];show fr.roundOf.map ρ=none;rw[L e];rfl
 have u:∀g,aV G D ρ g->fr'.eval (.tmp d)=aE g (fr.eval (.tmp d)):=λg C=>by rw[n g C];exact fX fr _ (by simp only[nG,MF hz];rfl)
 have hw:∀tm,lO o (yielded ops tm)=true:=λtm=>by simp[lO,hg]
 rw[oX L M z V (hw _)]at h;rw[oX K M J V (hw _)];have l:fr.tmps[d]?=none->fr.eval (.tmp d)=undef:=λe=>by simp[a04,e]
 have j:∀v,fr.tmps[d]?=some v->fr.eval (.tmp d)=v:=λv e=>by simp[a04,e]
 unfold stepG.apply at h⊢;rcases A with⟨P,e|⟨t,s,e⟩⟩|⟨c,P,e2,e3,e|⟨a,b,e⟩⟩
 .have i:execOp fr.eval o= .halt (.stuck "Panic: interface value expected"):=by unfold execOp;rw[P];simp only[l e];rfl
  rw[i]at h;cases I<;>simp[J2,u5]at h
 .have F:=j _ e;have E:fr'.eval (.tmp d)= .iface t (.string s):=by rw[u ρ Q.self,F];simp[aE]
  have i:∀r:Operand->Value,r (.tmp d)= .iface t (.string s)->execOp r o= .halt (.panic (.iface t (.string s))):=λr X=>by unfold execOp;rw[P];simp only[X];rfl
  rw[i _ F]at h;rw[i _ E];have Y:R=j8 fr cs (.iface t (.string s))/\wL'=wL:=by cases I<;>simp[-IE,Mu,J2,u5]at h<;>exact⟨h.1.symm,h.2.1.symm⟩
  obtain⟨rfl,rfl⟩:=Y;refine⟨j8 fr' cs' (.iface t (.string s)),rfl, ?_,λg C=> ?_,O,⟨w.raise rfl,kW _ _⟩,by rw[j8,kT];exact H,rfl,rfl,rfl,rfl⟩
  .simp[-IE,Mu,u5,j8,seen]
  .show fr'.raise _=bF g (fr.raise _);rw[n g C,mN]
 .have i:execOp fr.eval o= .halt (.stuck "call: function value expected"):=by unfold execOp resolve;rw[P];simp only[e3,l e];rfl
  rw[i]at h;cases I<;>simp[J2,u5]at h
 .have F:=j _ e;have B:∀r:Operand->Value,c.args.map r=#[]:=λr=>by have:c.args=#[]:=(by simpa using e2);rw[this];simp
  have i:∀(r:Operand->Value) (x y:Array Value),r (.tmp d)= .func (.func gI) x y->execOp r o= .pure (.defer ⟨.fn (.func gI) y,x⟩):=λr x y X=>by unfold execOp resolve;rw[P];simp only[e3,X,B,XD,Mx];rfl
  have E:fr'.eval (.tmp d)= .func (.func gI) (a.map (aE ρ)) (b.map (aE ρ)):=by rw[u ρ Q.self,F];simp[aE,kQ]
  rw[i _ _ _ F]at h;rw[i _ _ _ E];have Y:R={frame:={fr with defers:=⟨.fn (.func gI) b,a⟩::fr.defers}.finish undef,callers:=cs,status:= .running,dying:=none}/\wL'=wL:=by cases I<;>simp[-IE,Mu,J2,u5]at h<;>exact⟨h.1.symm,h.2.1.symm⟩
  obtain⟨rfl,rfl⟩:=Y;have p:∀(f:Frame) (ds:List Deferred) (U:List Item),f.todo= .inRegion ops [1]::U->({f with defers:=ds}:Frame).finish undef={f with defers:=ds,todo:= .inRegion ops []::U}:=λf ds U e=>by unfold ZD;simp only[e,V,IS,N]
  refine⟨{frame:={fr' with defers:=⟨.fn (.func gI) (b.map (aE ρ)),a.map (aE ρ)⟩::fr'.defers}.finish undef,callers:=cs',status:= .running,dying:=none},rfl, ?_,λg C=> ?_,O, ?_,by show mt (ZD _ _).kind cs;rw[dU];exact H,rfl,rfl,rfl,rfl⟩
  .simp[-IE,Mu,u5,seen]
  .have q:=(u ρ Q.self).symm.trans (u g C);rw[F]at q;simp only[aE,kQ,Value.func.injEq,true_and]at q;have qt:k.map (dx ρ)=k.map (dx g):=by have:=congrArg aq0 (m.symm.trans (n g C));simp only[bF,z,JS,List.cons.injEq]at this;exact this.2
   show({fr' with defers:=_}:Frame).finish undef=bF g (({fr with defers:=_}:Frame).finish undef);rw[p fr _ k z,p fr' _ _ J,q.1,q.2,qt,n g C];simp only[bF,JS,dx,kR,Ss,kQ]
  .show jk (({fr with defers:=_}:Frame).finish undef)/\oC (({fr with defers:=_}:Frame).finish undef);rw[p fr _ k z];refine⟨⟨⟨?_,w.mode,w.kind,w.round⟩, ?_⟩,gT λ_ _ e=>by cases e⟩
   .show ei (_::fr.defers)=true;simp only[ei,Yi,jL];exact⟨s_,w.defers⟩
   .simp only[lP,jL];exact⟨by simp[mc,M],W.2⟩
def DJ(base:List Frame):Prop:=∀c r,base=c::r->∀ch,c.mode≠ .panicking ch
def xY(R:dp G T D ρ wL wM)(hb:DJ base){fr':Frame}{cs':List Frame}(w:∀a,aV G D ρ a->fr'=bF a fr)(p:∀a,aV G D ρ a->cs'=cs.map (bF a)++base)(A:jk fr)(i:mt fr.kind cs)(g:eL fr)
    {k:List Item}  (hz:dY fr.fn=3) (X:fr.todo= .inRegion ops (n::rest)::k) (Y:ops[n]?=some o) (V:lO o (yielded ops fr.tmps)=true) (W:DU 3 o=true)
 {mL mM lL:Bool} {S:Goroutine} {wL':World} {U:Array Event} (h:stepG.exec PL mL lL fr cs none wL= .go S wL' U):
 ∃K,wL'=wL/\stepG.exec PM mM true fr' cs' none wM= .go K wM/\fc G D ρ base S K:=by
 have l:=w ρ R.self;have t:=p ρ R.self;have Q:fr'.todo= .inRegion ops (n::rest)::k.map (dx ρ):=by rw[l];show fr.todo.map (dx ρ)=_;rw[X];rfl
 have P:lO o (yielded ops fr'.tmps)=true:=by rw[l];have:yielded ops (bF ρ fr).tmps=yielded ops fr.tmps:=funext λj=>fE ρ fr.fn ops fr.tmps j;exact this▸V
 have E:fr.roundOf=none:=A.round (by rw[hz];decide);have C:fr'.roundOf=none:=by rw[l];show fr.roundOf.map ρ=none;rw[E];rfl
 rw[nT X Y V W E]at h;rw[nT Q Y P W C];have d:fr'.kind=fr.kind:=by rw[l];rfl
 have H:∀a,aE a Value.nilIface= .nilIface:=λa=>by simp[aE]
 have u:tryRecover fr cs=none->tryRecover fr' cs'=none->∃K,wL'=wL/\(match tryRecover fr' cs' with
  |some (v,L)=>a24 {frame:=fr'.finish v,callers:=L,status:= .running,dying:=none} wM
  |none=> .go {frame:=fr'.finish .nilIface,callers:=cs',status:= .running,dying:=none} wM)= .go K wM/\fc G D ρ base S K:=λN M=>by rw[N]at h;simp only[a24.injEq]at h;obtain⟨rfl,rfl,_⟩:=h;rw[M];refine⟨_,rfl,rfl,λa J=> ?_,p,pj A g _,by show mt (fr.finish _).kind cs;rw[dU];exact i,rfl,rfl,rfl,rfl⟩;show fr'.finish _=bF a (fr.finish _);rw[w a J,←gG fr _ A g,H]
 rcases A.kind with c|c
 .exact u (by simp[tryRecover,c]) (by simp[tryRecover,d,c])
 .cases cs with
  |nil=>
   refine u (by simp[tryRecover,c]) ?_;rw[t];unfold tryRecover;rw[d,c];simp only[aa7,a62];cases z:base with
   |nil=>rfl
   |cons x r=>
    simp only;split
    .rename_i e;exact absurd e (hb x r z _)
    .rfl
  |cons x r=>
   have I:cs'=bF ρ x::(r.map (bF ρ)++base):=t;have B:(bF ρ x).mode=x.mode:=rfl;by_cases s:∃v b,x.mode= .panicking ({v,recovered:=false,goexit:=false}::b)
   .obtain⟨v,b,O⟩:=s;have N:tryRecover fr (x::r)=some (v,{x with mode:= .panicking ({v,recovered:=true}::b)}::r):=(by simp only[tryRecover,c,O]);have M:tryRecover fr' cs'=some (v,{bF ρ x with mode:= .panicking ({v,recovered:=true}::b)}::(r.map (bF ρ)++base)):=(by rw[I];simp only[tryRecover,d,c,B,O]);rw[N]at h;simp only[a24.injEq]at h;obtain⟨rfl,rfl,_⟩:=h;rw[M];have m:=i.1.mode;rw[O]at m;simp only[SD,Yi,jL]at m;have F:bW v=true:=m.2.1.1;refine⟨_,rfl,rfl,λa J=> ?_,λa J=> ?_,pj A g _, ?_,rfl,rfl,rfl,rfl⟩
    .show fr'.finish _=bF a (fr.finish _);rw[w a J,←gG fr _ A g,eA a v F]
    .have q:=(p ρ R.self).symm.trans (p a J);simp only[JS,a51,List.cons.injEq]at q;show _::(r.map (bF ρ)++base)=bF a _::(r.map (bF a)++base);rw[q.2];refine congrArg (· ::(r.map (bF a)++base)) ?_;have e:({bF ρ x with mode:= .panicking ({v,recovered:=true}::b)}:Frame)={bF a x with mode:= .panicking ({v,recovered:=true}::b)}:=(by rw[q.1]);exact e
    .show mt (fr.finish _).kind (({x with mode:=_}:Frame)::r);rw[dU];refine⟨⟨⟨i.1.defers, ?_,i.1.kind,i.1.round⟩,i.1.todo⟩, .inr ⟨c,s_⟩,i.2.2⟩;simp only[SD,Yi,jL];exact⟨rfl,⟨F,rfl⟩,m.2.2⟩
   .have Z:∀(f:Frame) (y:Frame) (L:List Frame),f.kind= .deferred->y.mode=x.mode->tryRecover f (y::L)=none:=λf y L e1 e2=>by
     unfold tryRecover;rw[e1];simp only[e2];split
     .rename_i v b e;exact absurd ⟨v,b,e⟩ s
     .rfl
    exact u (Z _ _ _ c rfl) (by rw[I];exact Z _ _ _ (d.trans c) B)
def CS(p:dp G T D ρ wL wM){fr' c}{cs'}(y:∀d,aV G D ρ d->fr'=bF d fr)(j:∀d,aV G D ρ d->cs'=(c::cs).map (bF d)++base)(s:jk fr)(n:mt fr.kind (c::cs))
 (F:fr.defers=[]) {l} (v:fr.mode= .panicking l) (C mM):
 ∃I H,unwind PL C fr (c::cs) none wL= .go I wL/\unwind PM mM fr' cs' none wM= .go H wM/\fc G D ρ base I H:=by
 have g:=y ρ p.self;have o:=j ρ p.self;simp at o;have E:∀P m f x r w,f.defers=[]->f.mode= .panicking l->eO f->unwind P m f (x::r) none w= .go {frame:=x.raise l,callers:=r,status:= .running,dying:=none} w:=λP m f x r w M L K=>by
  unfold unwind;have J:f.catches P=false:=by
   unfold Frame.catches;split
   .rename_i e;exact absurd e (K _ _ _ _ _)
   .rfl
  simp_all
 have z:EE l=true:=by have:=s.mode;rw[v]at this;exact this
 have A:eO fr':=λa b c e k h=>by
  rw[g]at h;have:=s.noCall;cases u:fr.todo with
  |nil=>simp[bF,u]at h
  |cons i t=>
   simp[bF,u,JS,List.cons.injEq]at h;cases i<;>simp[dx]at h;exact this _ _ _ _ _ u
 refine⟨_,_,E PL C fr c cs wL F v s.noCall,o▸E PM mM fr' _ _ wM (by rw[g];simp[bF,F]) (g▸v) A,λd B=> ?_,λd B=> ?_,⟨n.1.raise z,kW _ _⟩,by rw[kT];exact n.2.2,rfl,rfl,rfl,rfl⟩
 .have q:=(j ρ p.self).symm.trans (j d B);simp at q;show(bF ρ c).raise l=bF d (c.raise l);rw[q.1,mN]
 grind
def xu(E:Env PL PM G)(J:jT PL PM gI)(o:dp G T D ρ wL wM){fr'}{cs'}(g:∀a,aV G D ρ a->fr'=bF a fr)(t:∀a,aV G D ρ a->cs'=cs.map (bF a)++base)(k:jk fr)(q:mt fr.kind cs)(H:fr.mode≠ .run)
 {cap}  (s:fr.defers=⟨.fn (.func gI) cap,args⟩::ds) (C mM):
 ∃z y,unwind PL C fr cs none wL= .go z wL/\unwind PM mM fr' cs' none wM= .go y wM/\fc G D ρ base z y:=by
 have⟨A,m,n,p,B,w,c,j,u⟩:=J;have⟨F,i⟩:=E.fn ρ gI A n;have r:m.name≠ "runtime.NumGoroutine" :=by grind
 have x:=g ρ o.self;have h:∀a,aV G D ρ a->fr'.defers=⟨.fn (.func gI) (cap.map (aE a)),args.map (aE a)⟩::ds.map (kR a):=λa d=>by rw[g a d];show fr.defers.map (kR a)=_;rw[s];rfl
 have b:∀a,aV G D ρ a->cap.map (aE ρ)=cap.map (aE a)/\args.map (aE ρ)=args.map (aE a)/\ds.map (kR ρ)=ds.map (kR a):=λa d=>by have:=(h ρ o.self).symm.trans (h a d);simp_all
 have I:∀v∈args++cap,kZ v=false:=λv l=>by
  refine o.noTab E.tab λa d=> ?_;obtain l|l:=JY.1 l
  .exact(oe (b a d).2.1 l).symm
  .exact(oe (b a d).1 l).symm
 refine⟨_,_,lU s n (by rw[j];rfl) F,lU (h ρ o.self) p (by grind) r,λa d=> ?_,λa d=> ?_, ?_, ?_,rfl,rfl,rfl,rfl⟩
 .show yj PM gI _ .deferred=bF a (yj PL gI _ .deferred);rw[(b a d).1,(b a d).2.1,←Yg];exact qi ⟨A,m,n,p,B,w⟩ _ I (GN u) .deferred
 .show{fr' with defers:=_}::cs'=_;rw[(b a d).2.2,g a d,t a d];rfl
 .refine⟨⟨⟨rfl,rfl, .inr rfl,λ_=>rfl⟩, ?_⟩,gT λ_ _ e=>by cases e⟩;simp[yj,n,IS,j,IN,lP,aa8,a89];exact GO u
 .refine⟨⟨⟨?_,k.mode,k.kind,k.round⟩,k.todo⟩, .inr ⟨rfl,H⟩,q⟩;have:=k.defers;rw[s]at this;simp only[ei,Yi,jL]at this;exact this.2
end
structure mu (PL PM:Program) (G:Nat):Prop extends Env PL PM G where
 ty:Ih PL
 mix:PL.follows .mixedOrders=PM.follows .mixedOrders
 ex:jO<PL.funcs.size
 lw:AP<PL.funcs.size
 res:∀(f:FuncId) (fn:Func),PL.funcs[f]?=some fn->∃fn':Func,PM.funcs[f]?=some fn'/\fn'.results=fn.results/\fn.results.all (NR (dY f))=true
 none:∀f:Nat,PL.funcs[f]?=none->PM.funcs[f]?=none
 inits:PL.inits=#[]
 d1:jT PL PM gI
 z3:PR<PL.funcs.size/\PS<PL.funcs.size/\gI<PL.funcs.size
def iw(g:Goroutine):Prop:=g.status= .running/\g.dying=none
section
variable{G T:Nat}{base:List Frame}
def jz.quiet{D'}{a}{wL' wM'}(h:jz G T D ρ wL wM D' a wL' wM')(f:bE wL):bE wL':=by
 intro r o b;by_cases e:D' r
 .have xQ:=h.rel.obj r e
  grind
 .have c:r<wL.heap.size:=V8 λi=>e (h.newL r o_ (aK b));rw[h.keepL r c λd=>e (h.ext r d).1]at b;exact f r o b
def xT(E:mu PL PM G)(k:dp G T D ρ wL wM){fr' c}{cs'}(i:∀a,aV G D ρ a->fr'=bF a fr)(g:∀a,aV G D ρ a->cs'=(c::cs).map (bF a)++base)(u:jk fr)(h:mt fr.kind (c::cs))
 (B:fr.defers=[]) (A:fr.mode= .returning) (p:PL.funcs[fr.fn]?=none) (y mM):
 ∃F C,unwind PL y fr (c::cs) none wL= .go F wL/\unwind PM mM fr' cs' none wM= .go C wM/\fc G D ρ base F C:=by
 have o:dY fr.fn=0:=by
  have b:=Array.getElem?_eq_none_iff.1 p;unfold dY;have t:¬fr.fn=jO:=λe=>absurd E.ex (a29.2 (by simp_all));have s:¬fr.fn=AP:=λe=>absurd E.lw (a29.2 (by simp_all));have r:¬(fr.fn=PR\/fr.fn=PS\/fr.fn=gI):=λe=>by
   rcases e with e|e|e<;>rw[e]at b
   .exact absurd E.z3.1 (a29.2 b)
   .exact absurd E.z3.2.1 (a29.2 b)
   .exact absurd E.z3.2.2 (a29.2 b)
  simp_all
 have d:=i ρ k.self;have j:=g ρ k.self;simp at j;have z:∀P m f x n w,f.defers=[]->f.mode= .returning->f.kind= .normal\/f.kind= .deferred->P.funcs[f.fn]?=none->
  unwind P m f (x::n) none w= .go {frame:=iZ f.kind x (f.tmps.getD 0 undef),callers:=n,status:= .running,dying:=none} w:=λP m f x n w t s r H=>by unfold unwind;simp[t,s,H,eG r]
 refine⟨_,_,z PL y fr c cs wL B A u.kind p,j▸z PM mM fr' _ _ wM (by rw[d];simp[bF,B]) (d▸A) (by exact d▸u.kind) (d▸E.none _ p),λa l=> ?_,λa l=> ?_,Bc _ h,xB _ h,rfl,rfl,rfl,rfl⟩
 .have q:=(g ρ k.self).symm.trans (g a l);simp at q;show iZ fr'.kind (bF ρ c) _=bF a (iZ fr.kind c _);rw[q.1,←xA a _ h,i a l];show iZ fr.kind _ _=_
  congr 1
  simp[bF,nR a o,JQ,By];cases fr.tmps[0]? with
  |none=>exact(gh a).symm
  |some v=>rfl
 grind
def iU{m}(b:P.inits=#[])(a:fr.kind= .normal\/fr.kind= .deferred)(h:doReturn P m fr [] none v w= .go g w' es):g.status≠ .running:=by
 unfold doReturn at h
 grind
def JE{j}(f:P.inits=#[])(i:ia fr j)(d:fr.roundOf=some l)(e:fr.kind= .normal\/fr.kind= .deferred)
 (h:stepG.exec P main listen fr [] none w= .go g w' es):g.status≠ .running:=by
 unfold stepG.exec at h;cases i with
 |done b=>
  simp[b,d]at h;have⟨c,a⟩:=nD h;split at a
  .exact iU f e a
  .cases a
 |ret b=>
  simp[b,d]at h;have⟨c,a⟩:=nD h;split at a
  .exact iU f e a
  .cases a
 | @exit id _ b k=>
   simp[b,k,a25,d]at h;have⟨c,a⟩:=nD h;split at a
   .exact iU f e a
   .cases a
def E5(c:P.inits=#[])(b:fr.kind= .normal\/fr.kind= .deferred)(e:fr.defers=[])(d:fr.mode= .returning)
 (h:unwind P main fr [] none w= .go g w' es):g.status≠ .running:=by
 unfold unwind at h;simp[e,d]at h;split at h
 .exact iU c b h
 .have⟨f,a⟩:=nD h;split at a
  .exact iU c b a
  .cases a
  .cases a
def me(s)(w)(f)(args)(w'):(do pure (.value (←s)):Sem Next).run PL w≠ .ok (.enter f args) w':=by
 intro e;rw[Rk]at e;cases a:s.run PL w with
 |ok x b=>simp_all
 |halt x b=>simp_all
def PT(a)(b:fr.fn=jO)(hs:kZ (fr.eval (.tmp dZ))=false):(bF a fr).eval (.tmp dZ)=aE a (fr.eval (.tmp dZ)):=by
 simp[a04,bF,JQ]at hs⊢;rw[lN a fr.fn fr.tmps dZ (by simp[b,i9,ot])];cases c:fr.tmps[dZ]? with
 |none=>exact(gh a).symm
 |some v=>
  rw[c]at hs;simp at hs;simp[oF,b,i9,js,hs]
def LJ{z}(h:Br z o=true)(d:¬DU z o=true)(b:¬oK z o.op=true)(c:(o.dst).any (qH z)=false):z=1/\o.op= .load ru (.tmp dZ):=by
 unfold Br at h;simp at h;obtain (h|h)|⟨a,h⟩:=h
 .simp_all
 .simp_all
 .have a:z=1:=by simpa using a
  refine⟨a, ?_⟩;split at h
  .rename_i e;simp at h;rw[a,h.2]at c;simp[ot]at c
  .simp_all
  .cases h
def Jj(h:Br 1 o=true)(b:o.dst=some dZ):∃t a,o.op= .indexAddr t (.global fP) a/\nG 1 a=true:=by
 unfold Br at h;simp only[ZC,jL,b]at h;obtain (h|h)|⟨c,h⟩:=h
 .simp[ot]at h
 .unfold DU at h
  grind
 grind
def SC{z}(h:Br z o=true)(e:¬DU z o=true)(a:¬(o.dst).any (qH z)=false):z=1/\o.dst=some dZ:=by
 unfold Br at h;simp at h;obtain (h|h)|⟨b,h⟩:=h
 .simp_all
 .simp_all
 .have b:z=1:=by simpa using b
  subst b;refine⟨rfl, ?_⟩;cases c:o.dst with
  |none=>simp_all
  |some d=>rw[c]at a;simp[Option.any_some,ot,Bool.not_eq_false,beq_iff_eq]at a;rw[a]
def qU(E:mu PL PM G)(hb:DJ base)(Q:dp G T D ρ wL wM)(hP:bE wL)(hR:mq wL wM){gL gM Y:Goroutine}(hg:fc G D ρ base gL gM){mL mM lL:Bool}{wL':World}{ar:Array Event}
 (h:stepG PL mL gL wL lL= .go Y wL' ar) (hT:wL'.drawn<=T) (hq:iw Y) (hE:∀f args w',jJ PL gL.frame wL f args w'->jT PL PM f):
 ∃D' m B wM' I,stepG PM mM gM wM= .go B wM' I/\fc G D' m base Y B/\jz G T D ρ wL wM D' m wL' wM'/\∀e∈I,jm D' m e\/xM e:=by
 obtain⟨v,z,⟨P,al⟩,y,h1,h2,h3,h4⟩:=hg;obtain⟨A,cs,st,dy,of⟩:=gL;obtain⟨R,V,aw,ay,a0⟩:=gM;simp only at v z P y h1 h2 h3 h4;subst h1 h2 h3 h4;have a6:=v ρ Q.self;have a5:R.mode=A.mode:=by rw[a6];rfl
 have H:(∃D' m B wM' I,stepG PM mM {frame:=R,callers:=V,status:= .running,dying:=none,offers:=a0} wM= .go B wM' I/\fc G D' m base Y B/\jz G T D ρ wL wM D' m wL' wM'/\∀e∈I,jm D' m e)->
  ∃D' m B wM' I,stepG PM mM {frame:=R,callers:=V,status:= .running,dying:=none,offers:=a0} wM= .go B wM' I/\fc G D' m base Y B/\jz G T D ρ wL wM D' m wL' wM'/\∀e∈I,jm D' m e\/xM e:=
  λ⟨D',m,B,wM',I,K,J,O,q4⟩=>⟨D',m,B,wM',I,K,J,O,λe he=> .inl (q4 e he)⟩
 have p:∀B,wL'=wL->stepG PM mM {frame:=R,callers:=V,status:= .running,dying:=none,offers:=a0} wM= .go B wM->fc G D ρ base Y B->
  ∃D' m B wM' I,stepG PM mM {frame:=R,callers:=V,status:= .running,dying:=none,offers:=a0} wM= .go B wM' I/\fc G D' m base Y B/\jz G T D ρ wL wM D' m wL' wM'/\∀e∈I,jm D' m e\/xM e:=
  λB e K J=>by subst e;exact⟨D,ρ,B,wM,_,K,J,jz.refl Q,λe he=>by simp at he⟩
 by_cases hm:A.mode= .run
 .have hL:stepG PL mL {frame:=A,callers:=cs,status:= .running,dying:=none,offers:=of} wL lL=stepG.exec PL mL lL A cs none wL:=by unfold stepG;simp only[hm]
  have hM:stepG PM mM {frame:=R,callers:=V,status:= .running,dying:=none,offers:=a0} wM=stepG.exec PM mM true R V none wM:=by unfold stepG;simp only[a5,hm]
  rw[hL]at h;rw[hM]at H p⊢;by_cases S:∃t,co A=some t
  .obtain⟨t,S⟩:=S;obtain⟨X,u,K,J,O⟩:=Cc (PL:=PL) (PM:=PM) Q v z P y S mL mM lL true;rw[K]at h;cases h;exact p u rfl J O
  have U:∀j,ia A j->(A.roundOf=none->j=none\/j=some .ret)->∃D' m B wM' I,stepG.exec PM mM true R V none wM= .go B wM' I/\fc G D' m base Y B/\jz G T D ρ wL wM D' m wL' wM'/\∀e∈I,jm D' m e\/xM e:=by
   intro j hj hn;cases a1:A.roundOf with
   |none=>
    have ap:Ib A:=by
     refine⟨a1, ?_⟩;cases hj with
     |done C=>exact .inl C
     |ret C=>exact .inr ⟨_,C⟩
     |exit C he=>rcases hn a1 with e|e<;>cases e
    obtain⟨X,u,K,J,O⟩:=K6 (PL:=PL) (PM:=PM) Q v z P y ap mL mM lL true;rw[K]at h;cases h;exact p u rfl J O
   |some l=>
    cases cs with
    |nil=>exact absurd hq.1 (JE E.inits hj a1 P.kind h)
    |cons c cs=>exact H (CH E.toEnv Q v z P y hj a1 h hT)
  have hi:=P.todo;cases C:A.todo with
  |nil=>exact U none (.done C) λ_=> .inl rfl
  |cons i k=>
   rw[C]at hi;simp only[lP,jL]at hi;cases i with
   |code c=>
    cases c with
    |ret=>exact U _ (.ret C) λ_=> .inr rfl
    |exit id=>
     cases he:exitTo id k with
     |some t=>exact absurd ⟨t,by simp only[co,C,he]⟩ S
     |none=>
      refine U _ (.exit C he) λa1=> ?_;unfold stepG.exec at h;simp only[C,he,a25,a1]at h;simp at h
    |goto l=>simp[mc,jS]at hi
    |refuse av=>unfold stepG.exec at h;simp only[C]at h;cases h
    |rangeFunc x ps a b=>exact H (C9 E.toEnv Q hP v z P y C h hT hq.1 hq.2 hm hE)
    |region id L aj=>
     cases aj with
     |false=>exact absurd ⟨_,by simp only[co,C]<;>rfl⟩ S
     |true=>
      obtain⟨D',m,u,wM',K,J,O⟩:=Fz (mM:=mM) (lM:=true) E.toEnv E.mix Q v z P y C h hT;exact⟨D',m,u,wM',_,K,J,O,λe he=>by simp at he⟩
    |cond x a b=>
     cases hx:A.eval x with
     |bool q=>exact absurd ⟨_,by simp only[co,C,hx];rfl⟩ S
     |_=>unfold stepG.exec at h;simp only[C,hx]at h;cases h
    |_=>exact absurd ⟨_,by simp only[co,C]<;>rfl⟩ S
   |inRangeFunc l=>unfold stepG.exec at h;simp only[C]at h;cases h
   |beginRound=>exact H (Di E.toEnv Q hP v z P y C h hT hq.1 hq.2)
   |endRangeFunc l=>exact H (yi E.toEnv Q hP v z P y C h hT)
   |call d w r s=>simp[mc]at hi
   |extern r a=>simp[mc]at hi
   |inRegion L ad=>
    cases ad with
    |nil=>exact absurd ⟨_,by simp only[co,C]<;>rfl⟩ S
    |cons n W=>
     by_cases ab:L.all (Br (dY A.fn))=true
     rotate_left
     .have af:eB (dY A.fn) L=true/\((n::W==[0,1])=true\/(n::W==[1])=true\/(n::W==[])=true):=by
       have:=hi.1;simp only[mc,ZC,jL]at this;rcases this with h|⟨h,(h2|h2)|h2⟩
       .exact absurd h ab
       .exact⟨h, .inl h2⟩
       .exact⟨h, .inr (.inl h2)⟩
       .exact⟨h, .inr (.inr h2)⟩
      have ag:=af.1;rcases af.2 with e|e|e
      .rw[eq_of_beq e]at C;obtain⟨u,K,J,O⟩:=CQ (mM:=mM) Q E.same v z P y C ag h;exact p u K J O
      .rw[eq_of_beq e]at C;obtain⟨u,K,J,O⟩:=Aj (PM:=PM) (mM:=mM) Q v z P al hm y C ag h;exact p u K J O
      .cases e
     have a4:tx A:=λau j ak k' e=>by rw[C]at e;simp only[List.cons.injEq,ah7.injEq]at e;exact e.1.1▸ab
     cases Z:L[n]? with
     |none=>
      have hw:((L[n]?).map (lO · (yielded L A.tmps))).getD false=false:=(by rw[Z];rfl);have N:eL A:=And.intro (λo d h1=>by simp only[a46,C,Z]at h1;cases h1) a4
      obtain⟨X,u,K,J,O⟩:=qV (PL:=PL) (PM:=PM) Q v z P y N C hw mL mM lL true;rw[K]at h;cases h;exact p u rfl J O
     |some o=>
      have a8:Br (dY A.fn) o=true:=V6.1 ab o (V3 Z);have aa:A.oper?=some o:=(by simp only[a46,C,Z]);by_cases hu:DU (dY A.fn) o=true
      .have hz:dY A.fn=3:=by
        unfold DU at hu;split at hu
        .simp only[jL]at hu;simpa using hu.1
        .cases hu
       have F:eL A:=⟨λo' d _ _=>by rw[hz];rfl,a4⟩;cases hw:lO o (yielded L A.tmps)with
       |false=>
        obtain⟨X,u,K,J,O⟩:=qV (PL:=PL) (PM:=PM) Q v z P y F C (by rw[Z];simpa using hw) mL mM lL true;rw[K]at h;cases h;exact p u rfl J O
       |true=>
        rw[hz]at hu;obtain⟨u,K,J,O⟩:=xY (PM:=PM) (mM:=mM) Q hb v z P y F hz C Z hw hu h;exact p u K J O
      by_cases N:(o.dst).any (qH (dY A.fn))=false
      .have F:eL A:=And.intro (λo' d e1 e2=>by rw[aa]at e1;cases e1;rw[e2]at N;simpa using N) a4
       cases hw:lO o (yielded L A.tmps)with
       |false=>
        obtain⟨X,u,K,J,O⟩:=qV (PL:=PL) (PM:=PM) Q v z P y F C (by rw[Z];simpa using hw) mL mM lL true;rw[K]at h;cases h;exact p u rfl J O
       |true=>
        by_cases a2:oK (dY A.fn) o.op=true
        .have aq:∀f args w1,(execOp A.eval o).run PL wL= .ok (.enter f args) w1->jT PL PM f:=λf args w1 e=>hE f args w1 ⟨hm, .inl ⟨L,n,W,k,o,C,Z,hw,a2,N,e⟩⟩;exact H (EC E.toEnv Q hP v z P y F C Z hw a2 aq (λl f ae a b w1 e=>EB hP (E.fn ρ) A.eval o a2 e) h hT hq.1 hq.2)
        .obtain⟨hf,ac⟩:=LJ a8 hu a2 N;have a9:A.fn=jO:=Hw.1 hf;cases hs:kZ (A.eval (.tmp dZ))with
         |true=>
          obtain⟨u,I,K,J,O,q4⟩:=EW (mM:=mM) E.toEnv E.ty Q hP hR v z P y C Z hw a9 ac hs F h hq.1 hq.2;subst K;exact⟨D,ρ,u,wM,I,J,O,jz.refl Q,λe he=> .inr (q4 e he)⟩
         |false=>
          have ah:∀c,o.op≠ .defer c:=λc e=>by rw[ac]at e;cases e
          have an:R.todo= .inRegion L (n::W)::k.map (dx ρ):=(by rw[a6];show A.todo.map (dx ρ)=_;rw[C];rfl);have am:lO o (yielded L R.tmps)=true:=by rw[a6];have:yielded L (bF ρ A).tmps=yielded L A.tmps:=funext λj=>fE ρ A.fn L A.tmps j;exact this▸hw
          have a7:∀ev:Operand->Value,execOp ev o=(do pure (.value (←tw ru (ev (.tmp dZ)))):Sem Next):=λev=>by unfold execOp;rw[ac]
          have ai:∀m,aV G D ρ m->aG m PL PM (m0 m) (execOp A.eval o) (execOp R.eval o):=λm hA=>by rw[a7,a7,v m hA,PT m a9 hs];exact cz (iG E.same ru _)
          rw[dz C Z hw ah]at h;rw[dz an Z am ah]at H⊢;refine H (lV E.tab E.load E.store Q v z P y F ai (by rw[a7];exact gE _) (λx w1 e=>eo (ai ρ Q.self) wL hP x w1 e) (λf args w1 e=> ?_) (λl f ae a b w1 e=> ?_) h hT hq.1 hq.2)
          .rw[a7]at e;exact absurd e (me _ _ _ _ _)
          .rw[a7]at e;exact absurd e (jr _ _ _ _ _ _ _ _)
      .have hz:A.fn=jO/\o.dst=some dZ:=(SC a8 hu N).imp Hw.1 id;obtain⟨t,ix,a2,hx⟩:=Jj (by rw[hz.1,i9]at a8;exact a8) hz.2;cases hw:lO o (yielded L A.tmps)with
       |false=>
        obtain⟨X,u,K,J,O⟩:=Ag (PL:=PL) (PM:=PM) Q v z P y C Z hz.1 hz.2 (by rw[Z];simpa using hw) mL mM lL true;rw[K]at h;cases h;exact p u rfl J O
       |true=>
        exact H (Cf (mM:=mM) E.toEnv Q hP v z P y C Z hw hz.1 a2 hx hz.2 h hT hq.1 hq.2)
   |_=>exact absurd ⟨_,by simp only[co,C]<;>rfl⟩ S
 .have hL:stepG PL mL {frame:=A,callers:=cs,status:= .running,dying:=none,offers:=of} wL lL=unwind PL mL A cs none wL:=by
   unfold stepG;cases M:A.mode with
   |run=>exact absurd M hm
   |_=>simp only[M]
  have hM:stepG PM mM {frame:=R,callers:=V,status:= .running,dying:=none,offers:=a0} wM=unwind PM mM R V none wM:=by
   unfold stepG;cases M:A.mode with
   |run=>exact absurd M hm
   |_=>simp only[a5,M]
  rw[hL]at h;rw[hM]at H p⊢;cases hd:A.defers with
  |nil=>
   cases cs with
   |nil=>
    cases M:A.mode with
    |run=>exact absurd M hm
    |returning=>exact absurd hq.1 (E5 E.inits P.kind hd M h)
    |panicking ch=>
     exfalso;have a3:=P.mode;rw[M]at a3;unfold unwind at h;simp only[hd,M]at h;split at h
     .cases h
     .have ao:ch.head?.any (·.goexit)=false:=by
       cases ch with
       |nil=>rfl
       |cons e r=>
        simp only[SD,Yi,jL]at a3;simpa using a3.2.1.2
      simp only[ao,BZ,↓reduceIte]at h;split at h
      .simp only[a24.injEq]at h;obtain⟨rfl,_,_⟩:=h;exact absurd hq.2 s_
      .cases h
      .cases h
   |cons c cs=>
    cases M:A.mode with
    |run=>exact absurd M hm
    |panicking ch=>
     obtain⟨X,u,K,J,O⟩:=CS (PL:=PL) (PM:=PM) Q v z P y hd M mL mM;rw[K]at h;cases h;exact p u rfl J O
    |returning=>
     cases hf:PL.funcs[A.fn]? with
     |none=>
      obtain⟨X,u,K,J,O⟩:=xT E Q v z P y hd M hf mL mM;rw[K]at h;cases h;exact p u rfl J O
     |some fn=>
      obtain⟨ax,a9,hr,a3⟩:=E.res _ _ hf;exact H (Au E.toEnv Q v z P y hd M hf a9 hr a3 h hT)
  |cons d ds=>
   have:=P.defers;rw[hd]at this;simp only[ei,Yi,jL]at this;obtain⟨tg,args⟩:=d;cases tg with
   |collected b=>exact H (EO E.toEnv Q hP v z P y hm hd h hT)
   |fn f az=>
    cases f with
    |func g=>
     have hg:g=gI:=(by simpa using this.1);subst hg;obtain⟨X,u,K,J,O⟩:=xu E.toEnv E.d1 Q v z P y hm hd mL mM;rw[K]at h;cases h;exact p u rfl J O
    |_=>simp at this
   |_=>simp at this
end
def eP:GStep->Prop
 | .go g w _=>g.dying≠none\/(bE w/\iw g)
 | .ended ..=>True
 |_=>False
def eP.after{x}(h:eP x):eP (u5 es x):=by cases x<;>exact h
def Fv(m):eP (endFatal P fr cs none m w):=by
 unfold endFatal;dsimp only;split
 .exact .inl s_
 .trivial
 .trivial
def lj{s}(A:de P s)(z:∀n w',s.run P w= .ok n w'->bE w')(y:∀x w',s.run P w= .halt x w'->(fR x\/∃v,x= .panic v)/\bE w'):eP (stepG.apply P listen fr cs none s w):=by
 have j:(if listen=true then s.runT P w #[]else(s.run P w,#[])).1=s.run P w:=by
  split
  .simp_all
  .rfl
 unfold stepG.apply;generalize (if listen=true then s.runT P w #[]else(s.run P w,#[]))=q at j;have⟨r,B⟩:=q;simp only at j;subst j;cases i:s.run P w with
 |ok n e=>
  have t:=A w n e i;have d:=z n e i;refine eP.after ?_;cases n with
  |value v=>exact .inr ⟨d,rfl,rfl⟩
  |skip=>exact .inr ⟨d,rfl,rfl⟩
  |enter f p=>exact .inr ⟨d,rfl,rfl⟩
  |round l f o a b=>exact .inr ⟨d,rfl,rfl⟩
  |_=>simp[Bt]at t
 |halt x e=>
  have⟨g,d⟩:=y x e i;refine eP.after ?_;cases x with
  |panic v=>exact .inr ⟨d,rfl,rfl⟩
  |goexit=>rcases g with h|⟨_,h⟩<;>cases h
  |blocked=>rcases g with h|⟨_,h⟩<;>cases h
  |waiting=>rcases g with h|⟨_,h⟩<;>cases h
  |unsupported u=>
   cases u with
   |initOrder k=>rcases g with h|⟨_,h⟩<;>cases h
   |_=>trivial
  |stuck m=>trivial
  |exit c=>trivial
  |throw m=>exact .inl s_
  |fatal m=>exact Fv m
def jD(d:P.inits=#[])(a:fr.kind= .normal\/fr.kind= .deferred)(v)(b:bE w):eP (doReturn P true fr cs none v w):=by
 cases cs with
 |cons c cs=>
  rw[eG a];exact .inr ⟨b,rfl,rfl⟩
 |nil=>rcases a with a|a<;>simp[doReturn,a,d,eP]
section
variable{G:Nat}
def Nx(G):aV G (λ_=>False) id id:=⟨⟨λ_ _ h=>h,λ_=>Iff.rfl⟩,λ_ h=>h.elim⟩
def BV{k}(d:jk fr)(a:oC fr)(f:fr.mode= .run)(b:fr.todo= .inRegion ops [1]::k)(c:eB (dY fr.fn) ops=true)(h:bE w):eP (stepG.exec P true true fr cs none w):=by
 rcases IY (a f ops k b (GG c)) (λe=>d.round (by rw[e];decide)) c b with⟨x,w',es,e⟩|⟨g,e,h1,h2⟩
 .rw[e];trivial
 .rw[e];exact .inr ⟨h,h1,h2⟩
def Ax{k}{z}(a:fr.roundOf=none)(d:fr.todo= .inRegion ops (n::rest)::k)(e:ops[n]?=some o)(b:lO o (yielded ops fr.tmps)=true)(c:DU z o=true)(f:bE w):eP (stepG.exec P true true fr cs none w):=by rw[nT d e b c a];split<;>exact .inr ⟨f,rfl,rfl⟩
def IM(E:mu PL PM G){o:Option (Array CommCase×CommShape)}(ok:jk fr)(mid:oC fr)(hP:bE w):
 eP (stepG PL true {frame:=fr,callers:=cs,status:= .running,dying:=none,offers:=o} w):=by
 by_cases hm:fr.mode= .run
 .have hL:stepG PL true {frame:=fr,callers:=cs,status:= .running,dying:=none,offers:=o} w=stepG.exec PL true true fr cs none w:=by unfold stepG;simp only[hm]
  rw[hL];have hrun:∀t:List Item,eP (.go {frame:={fr with todo:=t},callers:=cs,status:= .running,dying:=none} w):=λt=> .inr ⟨hP,rfl,rfl⟩;by_cases hpl:∃t,co fr=some t
  .obtain⟨t,hpl⟩:=hpl;rw[jE hpl];exact hrun t
  have hend:∀l (j:Option Code) v w1,j.all (jS 0)=true->((RN l j).runT PL w #[]).1= .ok v w1->bE w1:=λl j v w1 hj e=>by rw[Y3]at e;exact dV (vj (ρ:=id) (PM:=PM) l j hj) w hP v w1 e
  have hleave:∀j,ia fr j->eP (stepG.exec PL true true fr cs none w):=by
   intro j hj;cases hro:fr.roundOf with
   |none=>
    unfold stepG.exec;cases hj with
    |done ht=>simp only[ht,hro];exact .inr ⟨hP,rfl,rfl⟩
    |ret ht=>simp only[ht,hro];exact .inr ⟨hP,rfl,rfl⟩
    |exit ht he=>simp only[ht,he,a25,hro];trivial
   |some l=>
    unfold stepG.exec;cases hj with
    |done ht=>
     simp only[ht,hro];refine eP.after ?_;split
     .rename_i v w1 hr;exact jD E.inits ok.kind _ (hend l _ v w1 rfl hr)
     .trivial
    |ret ht=>
     simp only[ht,hro];refine eP.after ?_;split
     .rename_i v w1 hr;exact jD E.inits ok.kind _ (hend l _ v w1 rfl hr)
     .trivial
    |exit ht he=>
     simp only[ht,he,a25,hro];refine eP.after ?_;split
     .rename_i v w1 hr;exact jD E.inits ok.kind _ (hend l _ v w1 rfl hr)
     .trivial
  have hi:=ok.todo;cases ht:fr.todo with
  |nil=>exact hleave none (.done ht)
  |cons i k=>
   rw[ht]at hi;simp only[lP,jL]at hi;cases i with
   |code c=>
    cases c with
    |ret=>exact hleave _ (.ret ht)
    |exit id=>
     cases he:exitTo id k with
     |some t=>exact absurd ⟨t,by simp only[co,ht,he]⟩ hpl
     |none=>exact hleave _ (.exit ht he)
    |goto l=>simp[mc,jS]at hi
    |refuse why=>unfold stepG.exec;simp only[ht];trivial
    |rangeFunc x ps a b=>
     have hi1:=hi.1;simp only[mc,jS,jL]at hi1;obtain⟨⟨⟨hz,hx⟩,ha⟩,hbb⟩:=hi1;have hfn:dY fr.fn=0:=(by simp_all);rw[hfn]at ha hbb hx;have hf:=Y3 PL (Hb fr.fn fr.tmps ps a b fr.roundOf) w #[];cases hr:(Hb fr.fn fr.tmps ps a b fr.roundOf).runT PL w #[]with
     |mk r es0=>
      rw[hr]at hf;cases r with
      |ok y w1=>
       obtain⟨l,mark⟩:=y;rw[gH ht hr];refine eP.after ?_;have hP1:bE w1:=dV (oA (ρ:=id) (PM:=PM) fr.fn fr.tmps ps a b fr.roundOf ha hbb hfn) w hP _ _ hf.symm;have hs1:aG id PL PM (m0 id) (db (cn fr k l mark) x l) (db (bF id (cn fr k l mark)) x (id l)):=
        lX E.same (E.fn id) (fX (cn fr k l mark) x (by show nG (dY fr.fn) x=true;simp_all)) l
       exact lj (mi (E.fn id) _ x l) (λy w' e=>dV hs1 w1 hP1 y w' e) (λy w' e=>⟨eo hs1 w1 hP1 y w' e,gZ hs1 w1 hP1 y w' e⟩)
      |halt y w1=>
       unfold stepG.exec;simp only[ht,hr];trivial
    |region id ops draw=>
     cases draw with
     |false=>exact absurd ⟨_,by simp only[co,ht]<;>rfl⟩ hpl
     |true=>
      obtain⟨n,w1,hn⟩:=xw PL (.order fr.fn id) w;rw[kC ht hn];exact .inr ⟨dV (ρ:=λx=>x) (PM:=PM) (f:=λx:Nat=>x) (s:=choose (.order fr.fn id)) (s':=choose (.order fr.fn id)) (.choose λn=> .pure n) w hP n w1 hn,rfl,rfl⟩
    |cond x a b=>
     cases hx:fr.eval x with
     |bool q=>exact absurd ⟨_,by simp only[co,ht,hx]<;>rfl⟩ hpl
     |_=>unfold stepG.exec;simp only[ht,hx];trivial
    |_=>exact absurd ⟨_,by simp only[co,ht]<;>rfl⟩ hpl
   |inRangeFunc l=>unfold stepG.exec;simp only[ht];trivial
   |beginRound=>
    rw[lc ht];have hal:aG id PL PM (m0 id) (iv fr) (iv (bF id fr)):=by
     unfold iv;show aG id PL PM (m0 id) (do fr.roundOf.elim _ Yh;pure .skip) (do(fr.roundOf.map id).elim _ Yh;pure .skip);cases fr.roundOf with
     |none=>exact .dead trivial
     |some l=>exact Be (qM E.same l)
    exact lj (tH _) (λy w' e=>dV hal w hP y w' e) λy w' e=>⟨eo hal w hP y w' e,gZ hal w hP y w' e⟩
   |endRangeFunc l=>
    unfold stepG.exec;simp only[ht];refine eP.after ?_;split
    .rename_i j w1 hr;rw[Y3]at hr;exact .inr ⟨dV (oB (ρ:=id) E.same l) w hP j w1 hr,rfl,rfl⟩
    .rename_i v w1 hr;rw[Y3]at hr;exact .inr ⟨gZ (oB (ρ:=id) E.same l) w hP _ w1 hr,rfl,rfl⟩
    .trivial
   |call d w r s=>simp[mc]at hi
   |extern r a=>simp[mc]at hi
   |inRegion ops todo=>
    cases todo with
    |nil=>exact absurd ⟨_,by simp only[co,ht]<;>rfl⟩ hpl
    |cons n rest=>
     cases hw:((ops[n]?).map (lO · (yielded ops fr.tmps))).getD false with
     |false=>
      rw[iE ht hw];exact .inr ⟨hP,rfl,rfl⟩
     |true=>
      cases ho:ops[n]? with
      |none=>simp_all
      |some oo=>
       rw[ho]at hw;have hw':lO oo (yielded ops fr.tmps)=true:=hw;by_cases hop:oK (dY fr.fn) oo.op=true
       .rw[kB ht ho hw' hop];have hal:=Bg (ρ:=id) (z:=dY fr.fn) (ev:=fr.eval) (ev':=λx=>aE id (fr.eval x)) E.same (E.toEnv.far (Nx G)) (E.fn id) s_ oo hop;exact lj (zu (E.fn id) fr.eval oo hop) (λy w' e=>dV hal w hP y w' e) λy w' e=>⟨eo hal w hP y w' e,gZ hal w hP y w' e⟩
       by_cases hnp:ops.all (Br (dY fr.fn))=true
       rotate_left
       .have hi1:=hi.1;simp only[mc,ZC,jL]at hi1;rcases hi1 with h|⟨hp,(h2|h2)|h2⟩
        .simp_all
        .exfalso;obtain⟨hz,o1,p1,rfl,_,_,_,d,_,hcase⟩:=ja hp;have e0:=eq_of_beq h2;simp only[List.cons.injEq]at e0;rw[e0.1]at ho;have ho:o1=oo:=(by simp_all);subst ho;refine hop ?_;rcases hcase with⟨t,s,e1,_⟩|⟨hz,a,b,c,e1,ha,hb,_⟩
         .rw[e1];rfl
         .rw[e1,hz];simp[oK,pW,ha,hb]
        .rw[eq_of_beq h2]at ht;exact BV ok mid hm ht hp hP
        .cases h2
       have hoo:Br (dY fr.fn) oo=true:=V6.1 hnp oo (V3 ho);by_cases hu:DU (dY fr.fn) oo=true
       .have hz:dY fr.fn=3:=by
         unfold DU at hu
         grind
        exact Ax (ok.round (by rw[hz];decide)) ht ho hw' hu hP
       .have hsp:(∃t x ix,oo.op= .indexAddr t x ix)\/∃t x,oo.op= .load t x:=by
         unfold Br at hoo
         grind
        have hnd:∀c,oo.op≠ .defer c:=λc e=>by simp_all
        rw[dz ht ho hw' hnd];rcases hsp with⟨t,x,ix,h⟩|⟨t,x,h⟩
        .have hex:execOp fr.eval oo=(do pure (.value (←Y0 t (fr.eval x) (fr.eval ix))):Sem Next):=(by unfold execOp;rw[h]);rw[hex];exact lj (gE _) (λy w' e=>dV (cz (lp (ρ:=id) E.same t _ _)) w hP y w' e) λy w' e=>⟨eo (cz (lp (ρ:=id) E.same t _ _)) w hP y w' e,gZ (cz (lp (ρ:=id) E.same t _ _)) w hP y w' e⟩
        .have hex:execOp fr.eval oo=(do pure (.value (←tw t (fr.eval x))):Sem Next):=(by unfold execOp;rw[h]);rw[hex];exact lj (gE _) (λy w' e=>dV (cz (iG (ρ:=id) E.same t _)) w hP y w' e) λy w' e=>⟨eo (cz (iG (ρ:=id) E.same t _)) w hP y w' e,gZ (cz (iG (ρ:=id) E.same t _)) w hP y w' e⟩
   |_=>exact absurd ⟨_,by simp only[co,ht]<;>rfl⟩ hpl
 .have hL:stepG PL true {frame:=fr,callers:=cs,status:= .running,dying:=none,offers:=o} w=unwind PL true fr cs none w:=by unfold stepG;simp_all
  rw[hL];cases hd:fr.defers with
  |nil=>
   unfold unwind;cases hmm:fr.mode with
   |run=>simp_all
   |returning=>
    simp only[hd];split
    .exact jD E.inits ok.kind _ hP
    .rename_i fn hf;obtain⟨fn',_,hr,hok⟩:=E.res _ _ hf;refine eP.after ?_;split
     .rename_i v w1 hv;rw[Y3]at hv;exact jD E.inits ok.kind _ (dV (xG (ρ:=id) E.same fn fn' fr.fn fr.tmps hr hok) w hP v w1 hv)
     .trivial
     .trivial
   |panicking ch=>
    have hok:=ok.mode;rw[hmm]at hok;simp only[hd];split
    .trivial
    .cases cs with
     |cons c cs=>exact .inr ⟨hP,rfl,rfl⟩
     |nil=>
      have hgo:ch.head?.any (·.goexit)=false:=by
       cases ch with
       |nil=>rfl
       |cons e r=>
        simp only[SD,Yi,jL]at hok;simp_all
      simp only[hgo,BZ,↓reduceIte];split
      .exact .inl s_
      .trivial
      .trivial
  |cons d ds=>
   have:=ok.defers;rw[hd]at this;simp only[ei,Yi,jL]at this;obtain⟨tg,args⟩:=d;cases tg with
   |collected b=>
    unfold unwind;simp only[hd];refine eP.after ?_;split
    .rename_i calls w1 hr;rw[Y3]at hr;exact .inr ⟨dV (oH (ρ:=id) (PM:=PM) b) w hP calls w1 hr,rfl,rfl⟩
    .trivial
   |fn f cap=>
    cases f with
    |func g=>
     have hg:g=gI:=(by simp_all);subst hg;obtain⟨fn,fn',q1,q2,q3,q4,c,q5,q6⟩:=E.d1;rw[lU hd q1 (by rw[q5];rfl) (E.fn id gI fn q1).1];exact .inr ⟨hP,rfl,rfl⟩
    |_=>simp at this
   |_=>simp at this
end
end
section
open Go.Conc
section
variable{G:Nat}
def zo(fr)(cs)(w):lone fr cs w=solo {frame:=fr,callers:=cs,status:= .running,dying:=none} w:=rfl
def jA{g'}(h:solo g w=solo g' w'):g=g'/\w=w':=by simp[solo,Machine.mk.injEq]at h;simp_all
def wi{m}(c:g.status= .running)(b:eP (stepG P true g w))(h:step P (solo g w)= .next m):
 ∃g' w' es,stepG P true g w= .go g' w' es/\m=solo g' w':=by
 rw[step,stepT_solo c]at h;cases a:stepG P true g w with
 |go g' w' es=>
  rw[runT_solo_go a]at h
  grind
 |ended o w' es=>
  simp[runT,solo,a6_,ae7,a]at h
 |_=>rw[a]at b;exact b.elim
def Iq(I:Machine->Prop):Prop:=∀m,I m->∀g∈m.gs,g.dying=none
def Le(g)(w):g∈(solo g w).gs:=by simp[solo]
def FC{I}(c:Iq I){m a}(h:StepsIn I P m a)(b:lone fr cs w'=a)(e:m=solo g w):g.dying=none:=by
 cases h with
 |refl=>
  rw[←b,zo]at e;rw[←(jA e).1]
 |head d _ _=>exact c _ d g (e▸Le g w)
end
def my(w:World)(τ:Tape)(d:Nat):World:={w with tape:=τ,drawn:=d}
inductive iy (P:Program) (Stop:Goroutine->World->Prop):Goroutine->World->Prop
 |stop {g:Goroutine} {w:World} (h:Stop g w):iy P Stop g w
 |go {g:Goroutine} {w:World} (n:Tape->Nat->Goroutine×World) (h:∀τ d,∃es,stepG P true g (my w τ d)= .go (n τ d).1 (n τ d).2 es) (hw:∀τ d,iw (n τ d).1) (ht:∀τ d,iy P Stop (n τ d).1 (n τ d).2):iy P Stop g w
section
variable{G T:Nat}{base:List Frame}
def dp.re(h:dp G T D ρ wL wM){wL' wM'}(c:wL'.heap=wL.heap)(a:wM'.heap=wM.heap){d}(e:∀i,wL'.drawn+i<d->wM'.tape (wM'.drawn+i)=wL'.tape (wL'.drawn+i)):dp G d D ρ wL' wM':=
 ⟨h.inj,λb f=>by rw[c,a];exact h.obj b f,e,h.glob,by rw[c,a];exact h.far,h.out⟩
def fc.well{b a}(h:fc G D ρ base b a):iw a:=
 ⟨h.run.2.1,h.run.2.2.2⟩
def mu.enters(e:∀f fn c,PL.funcs[f]?=some fn->fn.body=some c->vq f c=true)(f)(fn)(a:PL.funcs[f]?=some fn)(d:fn.body.isSome=true):jT PL PL f:=by have⟨c,b⟩:=Option.isSome_iff_exists.1 d;exact⟨fn,fn,a,a,rfl,rfl,c,b,e f fn c a b⟩
def JM(E:mu PL PM G){I}(s:Iq I)(p:iw g)(e:jk g.frame/\oC g.frame)(r:bE w)
 {i} (q:step PL (solo g w)= .next i) (a:StepsIn I PL i (lone fr cs w')):∃d w1 es,stepG PL true g w= .go d w1 es/\i=solo d w1/\iw d/\bE w1:=by
 have⟨f,c,t,u,n⟩:=g;have⟨m,l⟩:=p;simp only at m l e;subst m l;have b:=IM (cs:=c) (o:=n) E e.1 e.2 r;obtain⟨d,w1,es,k,rfl⟩:=wi rfl b q;rw[k]at b;rcases b with h|⟨j,b⟩
 .exact absurd (FC s a rfl rfl) h
 .exact⟨d,w1,es,k,rfl,b,j⟩
end
section
variable{Stop:Goroutine->World->Prop}
structure oD where
 g:Goroutine
 w:World
 τ:Tape
 d:Nat
 dead:Bool
def oD.step(P:Program)(X:oD):GStep:=stepG P true X.g (my X.w X.τ X.d)
def oD.good(P:Program)(X:oD):Prop:=X.dead=false/\∃g' w' es,X.step P= .go g' w' es/\iw g'
def oD.bad(P:Program)(Stop:Goroutine->World->Prop)(X:oD):Prop:=¬Stop X.g X.w/\∀g' w' es,X.step P= .go g' w' es->iw g'->¬iy P Stop g' w'
def xo(h:¬iy PL Stop g w):∃X:oD,X.g=g/\X.w=w/\X.dead=false/\X.bad PL Stop:=by
 have q:¬Stop g w:=λm=>h (.stop m);refine V8 λo=> ?_;have b:∀a d,∃x:Goroutine×World,(∃f,stepG PL true g (my w a d)= .go x.1 x.2 f)/\iw x.1/\iy PL Stop x.1 x.2:=by intro a d;refine V8 λj=>o ⟨⟨g,w,a,d,false⟩,rfl,rfl,rfl,q,λr i f e k l=>j ⟨(r,i),⟨f,e⟩,k,l⟩⟩
 have p:∃n:Tape->Nat->Goroutine×World,∀a d,(∃f,stepG PL true g (my w a d)= .go (n a d).1 (n a d).2 f)/\iw (n a d).1/\iy PL Stop (n a d).1 (n a d).2:=
  ⟨λa d=>a83 (b a d),λa d=>a11 (b a d)⟩
 have⟨n,c⟩:=p;exact h (.go n (λa d=>(c a d).1) (λa d=>(c a d).2.1) λa d=>(c a d).2.2)
def CU(PL)(a):∃b:oD->oD,(∀X,X.bad PL a->X.good PL->(∃es,X.step PL= .go (b X).g (b X).w es)/\iw (b X).g/\(b X).dead=false/\(b X).bad PL a)/\∀X,¬X.good PL->b X=⟨X.g,X.w,X.τ,X.d+1,true⟩:=by
 have h:∀X:oD,∃Y:oD,(X.bad PL a->X.good PL->(∃es,X.step PL= .go Y.g Y.w es)/\iw Y.g/\Y.dead=false/\Y.bad PL a)/\(¬X.good PL->Y=⟨X.g,X.w,X.τ,X.d+1,true⟩):=by
  intro X;by_cases f:X.good PL
  .by_cases i:X.bad PL a
   .have⟨l,k,g,es,d,c⟩:=f;have⟨Y,j,o,n,m⟩:=xo (i.2 k g es d c);exact⟨Y,λ_ _=>⟨⟨es,by simp_all⟩,j▸c,n,m⟩,λe=>absurd ⟨l,k,g,es,d,c⟩ e⟩
   grind
  simp_all
 exact⟨λX=>a83 (h X),λX=>(a11 (h X)).1,λX=>(a11 (h X)).2⟩
section
variable(nx:oD->oD)(X0:oD)
def cI:Nat->oD
 |0=>X0
 |n+1=>nx (cI n)
def mE(k:Nat->Nat):Nat->Nat
 |0=>0
 |n+1=>mE k n+k n
def yI(k)(h:n<=m):mE k n<=mE k m:=by
 induction h with
 |refl=>omega
 |step _ a=>exact yk a (Nat.le_add_right _ _)
def Tc(k)(t:Nat->Nat->Question->Nat):∃T:Tape,∀n i,i<k n->T (mE k n+i)=t n i:=by
 have h:∀j,∃f,∀n i,i<k n->mE k n+i=j->f=t n i:=by
  intro j;by_cases d:∃n i,i<k n/\mE k n+i=j
  .have⟨n,i,g,e⟩:=d;refine⟨t n i,λm l r q=> ?_⟩;have o:m=n:=by
    obtain a|c|b:=Nat.lt_trichotomy m n
    .have:=yI k (show m+1<=n from a);have:mE k (m+1)=mE k m+k m:=rfl;omega
    .exact c
    .have:=yI k (show n+1<=m from b);have:mE k (n+1)=mE k n+k n:=rfl;omega
   grind
  simp_all
 exact⟨λj=>a83 (h j),λn i p=>a11 (h _) n i p rfl⟩
def Fw(PL)(a)(b):∃k:Nat->Nat,∀n,((cI a b n).good PL->k n=(cI a b (n+1)).w.drawn-(cI a b n).d)/\(¬(cI a b n).good PL->k n=1):=by
 have h:∀n,∃c,((cI a b n).good PL->c=(cI a b (n+1)).w.drawn-(cI a b n).d)/\(¬(cI a b n).good PL->c=1):=by
  intro n;by_cases d:(cI a b n).good PL
  .simp_all
  .simp_all
 exact⟨λn=>a83 (h n),λn=>a11 (h n)⟩
variable{nx X0}
def CK(b:∀X,¬X.good PL->nx X=⟨X.g,X.w,X.τ,X.d+1,true⟩){k}(d:∀n,¬(cI nx X0 n).good PL->k n=1){T:Tape}(p:∀n i,i<k n->T (mE k n+i)=(cI nx X0 n).τ ((cI nx X0 n).d+i))
  (m:¬(cI nx X0 n).good PL) (j):T (mE k n+j)=(cI nx X0 n).τ ((cI nx X0 n).d+j):=by
 have h:∀j,¬(cI nx X0 (n+j)).good PL/\(cI nx X0 (n+j)).τ=(cI nx X0 n).τ/\(cI nx X0 (n+j)).d=(cI nx X0 n).d+j/\mE k (n+j)=mE k n+j:=by
  intro j;induction j with
  |zero=>simp_all
  |succ j l=>
   have⟨a,c,g,f⟩:=l;have e:cI nx X0 (n+(j+1))=⟨(cI nx X0 (n+j)).g,(cI nx X0 (n+j)).w,(cI nx X0 (n+j)).τ,(cI nx X0 (n+j)).d+1,true⟩:=b _ a;refine⟨λo=> ?_,e▸c,by grind, ?_⟩
   .have:=o.1;simp_all
   .have:=d (n+j) a;show mE k (n+j)+k (n+j)=_;omega
 have xQ:=h j;have:=p (n+j) 0 (by simp_all);simp_all
end
end
section
variable{G:Nat}{Stop:Goroutine->World->Prop}
structure lC (G:Nat) (D0:Nat->Prop) (g:Goroutine) (w:World) (g':Goroutine) (w':World):Prop where
 rel:∃D ρ,dp G 0 D ρ w w'/\fc G D ρ [] g g'/\∀b,D0 b->D b/\ρ b=b
 tab:mq w w'
 calm:bE w
def lC.step(E:mu PL PL G)(C:∀f fn c,PL.funcs[f]?=some fn->fn.body=some c->vq f c=true){D0}{o g'}{w1}(h:lC G D0 g w g' w')
  (z:stepG PL true g w= .go o w1 es) (x:iw o) (y:∀i,w.drawn+i<w1.drawn->w'.tape (w'.drawn+i)=w.tape (w.drawn+i)):
 ∃d a k,stepG PL true g' w'= .go d a k/\iw d/\lC G D0 o w1 d a/\w.drawn<=w1.drawn/\a.drawn+w.drawn=w1.drawn+w'.drawn/\a.tape=w'.tape:=by
 have⟨⟨D,p,H,F,n⟩,t,s⟩:=h;have r:=H.re rfl rfl y;have⟨I,m,d,a,k,v,q,j,_⟩:=qU (mM:=true) E (λ_ _ e=>by cases e) r s t F z o_ x λf u J B=>by have⟨fn,A,l⟩:=ow (E.fn p) B;exact mu.enters C f fn A l
 exact⟨d,a,k,v,q.well,⟨⟨I,m,j.rel.re rfl rfl o_,q,λb l=>⟨(j.ext b (n b l).1).1,(j.ext b (n b l).1).2.trans (n b l).2⟩⟩,t.ran E.tab r j,j.quiet s⟩,j.drawn,j.drew,j.tape⟩
def lC.re{D0}{g'}(h:lC G D0 g w g' w'){v v'}(a:v.heap=w.heap)(d:v'.heap=w'.heap):lC G D0 g v g' v':=by have⟨⟨D,j,r,q,p⟩,⟨c,e,f,n,m,l⟩,k⟩:=h;exact⟨⟨D,j,r.re a d o_,q,p⟩,⟨c,e,f,n,a▸m,by rw[d];exact l⟩,λb o s=>k b o (by simp_all)⟩
def rL(E:mu PL PL G)(hB:∀f (fn:Func) c,PL.funcs[f]?=some fn->fn.body=some c->vq f c=true){D0:Nat->Prop}{I:Machine->Prop}(hI:Iq I){q:Goroutine}(hp:lC G D0 q w0 q w0)(a2:iw q)
 (x:∀τ,∃fr w',StepsIn I PL (solo q (my w0 τ 0)) (lone fr [] w')/\Stop {frame:=fr,callers:=[],status:= .running,dying:=none} w')
 (hS:∀g w g' w',lC G D0 g w g' w'->Stop g w->Stop g' w'):iy PL Stop q w0:=by
 refine V8 λhn=> ?_;obtain⟨a,H,F,a0,Z⟩:=xo hn;obtain⟨b,z,A⟩:=CU PL Stop;obtain⟨k,hk⟩:=Fw PL b a;obtain⟨T,hT⟩:=Tc k λn i=>(cI b a n).τ ((cI b a n).d+i);obtain⟨fr,wE,J,t⟩:=x T;have Y:∀m X,StepsIn I PL m X->X=lone fr [] wE->∀n o d,m=solo o d->d.tape=T->d.drawn=mE k n->(cI b a n).bad PL Stop->(cI b a n).dead=false->iw o->
  lC G D0 (cI b a n).g (cI b a n).w o d->lC G D0 o d (cI b a n).g (cI b a n).w->False:=by
  intro m X h;induction h with
  |refl m=>
   intro e n o d e2 _ _ hb _ _ _ j;rw[e2,zo]at e;obtain⟨e3,e4⟩:=jA e;rw[e3,e4]at j;exact hb.1 (hS _ _ _ _ j t)
  | @head m m1 m2 h0 hs y ih=>
    intro e n o d e2 Q hd hb a6 a1 a4 j;subst e e2;obtain⟨⟨D2,S,U,N,_⟩,V,O⟩:=j;obtain⟨g1,P,es,u,a7,s,ae⟩:=JM E hI a1 N.ok O hs y;have j:lC G D0 o d (cI b a n).g (cI b a n).w:=⟨⟨D2,S,U,N,‹_›⟩,V,O⟩;by_cases R:(cI b a n).good PL
    .obtain⟨⟨ah,p⟩,a3,M,a9⟩:=z _ hb R;have a8:k n=(cI b a (n+1)).w.drawn-(cI b a n).d:=(hk n).1 R;have K:lC G D0 (cI b a n).g (my (cI b a n).w (cI b a n).τ (cI b a n).d) o d:=a4.re rfl rfl;obtain⟨af,aa,ag,q1,q2,q3,q4,q5,q6⟩:=K.step E hB p a3 λi hi=>by have ad:(cI b a n).d+i<(b (cI b a n)).w.drawn:=hi;have hc:cI b a (n+1)=b (cI b a n):=rfl;rw[Q,hd];exact hT n i (by rw[a8,hc];omega)
     rw[u]at q1;cases q1;have ac:(cI b a n).d<=(cI b a (n+1)).w.drawn:=q4;have ab:P.drawn+(cI b a n).d=(cI b a (n+1)).w.drawn+d.drawn:=q5;have v:P.drawn=mE k (n+1):=by show P.drawn=mE k n+k n;omega
     have l:lC G D0 o d (cI b a n).g (my (cI b a n).w (cI b a n).τ (cI b a n).d):=j.re rfl rfl;obtain⟨B,r,C,W,r2,r3,r4,r5,r6⟩:=l.step E hB u s λi hi=>by show(cI b a n).τ ((cI b a n).d+i)=d.tape (d.drawn+i);rw[Q,hd];refine(hT n i ?_).symm;have:mE k (n+1)=mE k n+k n:=rfl;omega
     have D:(cI b a n).step PL= .go B r C:=W;rw[p]at D;cases D;exact ih rfl (n+1) g1 P a7 (q6.trans Q) v a9 M s q3 r3
    .have l:lC G D0 o d (cI b a n).g (my (cI b a n).w (cI b a n).τ (cI b a n).d):=j.re rfl rfl;obtain⟨B,r,C,W,r2,_⟩:=l.step E hB u s λi hi=>by show(cI b a n).τ ((cI b a n).d+i)=d.tape (d.drawn+i);rw[Q,hd];exact(CK A (λn=>(hk n).2) hT R i).symm
     exact R ⟨a6,B,r,C,W,r2⟩
 have a5:lC G D0 a.g a.w q (my w0 T 0):=by rw[H,F];exact hp.re rfl rfl
 have L:lC G D0 q (my w0 T 0) a.g a.w:=by rw[H,F];exact hp.re rfl rfl
 exact Y _ _ J rfl 0 q (my w0 T 0) rfl rfl rfl Z a0 a2 a5 L
end
end
section
open Go
def ky(P:Program)(fs:Array Func):Program:={P with funcs:=fs,inits:=#[]}
section
variable(P:Program)(fs:Array Func)
def nL:(ky P fs).types=P.types:=by unfold ky;rfl
def BS:(ky P fs).cutTypes=P.cutTypes:=by unfold ky;rfl
def ut:∀(f:Nat) (t:TypeId),a72 (ky P fs).toTables f t=a72 P.toTables f t
 |0,_=>rfl
 |f+1,t=>by have a:a72 (ky P fs).toTables f=a72 P.toTables f:=funext (ut f);simp only[a72,nL,a]
def gf(t):(ky P fs).info? t=P.info? t:=by simp[ao3,nL,ut]
def dF(t):(ky P fs).underlying t=P.underlying t:=by simp[Program.underlying,gf]
def nJ(t):(ky P fs).underlyingId t=P.underlyingId t:=by simp[Program.underlyingId,gf]
def fH(t):(ky P fs).cellsOf t=P.cellsOf t:=by simp[Program.cellsOf,gf]
def gB(t):(ky P fs).bytesOf t=P.bytesOf t:=by simp[Program.bytesOf,gf]
def ef:(ky P fs).depth=P.depth:=by simp[Program.depth,nL]
def ta:∀(n:Nat) (t u:TypeId),(ky P fs).alikeButTags n t u=P.alikeButTags n t u
 |0,_,_=>rfl
 |n+1,t,u=>by simp only[Program.alikeButTags,gf,ta n]
def kK(t):(ky P fs).stoodInHeld t=P.stoodInHeld t:=by simp[Program.stoodInHeld,Program.stoodInAs,dF,nJ,gf,BS,ef,ta]
def BR(t):(ky P fs).packed t=P.packed t:=by simp[Program.packed,Program.packedAs,Program.ownRow,dF,nJ,gf,BS,ef,ta]
def lJ:∀(d:Nat) (t:TypeId) (o:Nat),byteOfCell (ky P fs) d t o=byteOfCell P d t o
 |0,_,_=>rfl
 |d+1,t,o=>by simp only[byteOfCell,dF,fH,gB,lJ d]
def rQ:∀(d:Nat) (t:TypeId) (o:Nat),cellHolding (ky P fs) d t o=cellHolding P d t o
 |0,_,_=>rfl
 |d+1,t,o=>by simp only[cellHolding,dF,fH,gB,rQ d]
def wt:∀(d:Nat) (t:TypeId) (o:Nat),plainCell (ky P fs) d t o=plainCell P d t o
 |0,_,_=>rfl
 |d+1,t,o=>by simp only[plainCell,dF,fH,wt d]
def uo:∀(d:Nat) (t:TypeId) (o:Nat),cellOfByte (ky P fs) d t o=cellOfByte P d t o
 |0,_,_=>rfl
 |d+1,t,o=>by simp only[cellOfByte,dF,fH,gB,uo d]
def ws:∀(d:Nat) (t:TypeId),tight (ky P fs) d t=tight P d t
 |0,_=>rfl
 |d+1,t=>by simp only[tight,dF,gB,ws d]
def yM:∀(d:Nat) (t:TypeId),(ky P fs).holdsStoodIn d t=P.holdsStoodIn d t
 |0,_=>rfl
 |d+1,t=>by simp only[Program.holdsStoodIn,dF,kK,yM d]
def mF:∀(d:Nat) (t:TypeId),(ky P fs).holdsPacked d t=P.holdsPacked d t
 |0,_=>rfl
 |d+1,t=>by simp only[Program.holdsPacked,dF,BR,mF d]
def qX:∀(d:Nat) (t:TypeId),(ky P fs).eqGuardType d t=P.eqGuardType d t
 |0,_=>rfl
 |d+1,t=>by simp only[Program.eqGuardType,dF,qX d]
def uq:∀(d:Nat) (t u:TypeId),sameLayout (ky P fs) d t u=sameLayout P d t u
 |0,_,_=>rfl
 |d+1,t,u=>by simp only[sameLayout,dF,nJ,kK,uq d]
def BQ(a:TypeId->Bool):∀(d:Nat) (e:TypeId) (c o n:Nat),rowAt (ky P fs) a d e c o n=rowAt P a d e c o n
 |0,_,_,_,_=>rfl
 |d+1,e,c,o,n=>by simp only[rowAt,dF,fH,kK,BQ a d]
def yL:∀(d:Nat) (e:TypeId) (n o:Nat) (u:TypeId) (m:Nat),liesAt (ky P fs) d e n o u m=liesAt P d e n o u m
 |0,_,_,_,_,_=>rfl
 |d+1,e,n,o,u,m=>by simp only[liesAt,dF,BQ,uq,ef,yL d]
def Ai(d)(e)(n o)(b):cellAtBytes (ky P fs) d e n o b=cellAtBytes P d e n o b:=by simp[cellAtBytes,fH,gB,lJ,uo]
def IW(a:∀t i z,P.info? t=some i->i.zero=some z->bW z=true):bO (ky P fs) P:=
 ⟨gf P fs,dF P fs,λt i z h=>a t i z (by rw[←gf P fs];exact h),by unfold ky;rfl,fH P fs,gB P fs,λt o=>by rw[ef,lJ],λe n o u m=>by rw[ef,yL],λe n o b=>by rw[ef,Ai],λe=>by rw[ef,yM],λt=>by rw[ef,qX],kK P fs,by rw[nL],λt=>by rw[ef,mF]⟩
def oW(c:Array Value)(e:TypeId):∀(f x a:Nat),seenCells (ky P fs) c e f x a=seenCells P c e f x a
 |0,_,_=>rfl
 |f+1,x,a=>by simp only[seenCells,fH,gB,ef,rQ,oW c e f]
def yK(w:World)(a)(u)(k)(b):w.seen (ky P fs) a u k b=w.seen P a u k b:=by simp[ai_,wt,lJ,fH,gB,oW,ef]
def IX(w:World)(a)(b):w.farLoad P a b=w.farLoad (ky P fs) a b:=by simp[YW,ag0,yK]
def Ed(w:World)(a)(v)(b):w.farStore P a v b=w.farStore (ky P fs) a v b:=by simp[XC,a61,yK,ws,ef]
end
def qJ(f:Func):Func:={f with name:= "none",origin:= "none",body:=none}
def GT:(Extern.allGenericRows.lookup "none").isNone=true∧(Extern.allTypedRows.lookup "none").isNone=true∧(Extern.allRows.lookup "none").isNone=true∧(Extern.allNextRows.lookup "none").isNone=true:=by refine⟨?_, ?_, ?_, ?_⟩<;>kernel_rfl
def Kc(f):a91 (qJ f)=none:=by have⟨c,b,a,_⟩:=GT;rw[ac9]at c b a;simp only[a91,qJ,c,b,a];rfl
def Ka(f):a32 (qJ f)=none:=by have⟨_,_,_,a⟩:=GT;rw[ac9]at a;simp only[a32,qJ,a];rfl
def Kb(f):((qJ f).name.endsWith ".init" && !(qJ f).name.startsWith "(" && !(qJ f).name.startsWith "gosem.")=false:=by show("none".endsWith ".init" && ! "none".startsWith "(" && ! "none".startsWith "gosem.")=false;kernel_rfl
def Gd(info:TypeId->Option TypeInfo):Prop:=∀t i z,info t=some i->i.zero=some z->bW z=true
def zd:∀{l:List Value},(∀v∈l,bW v=true)->nW l=true
 |[],_=>rfl
 |x::r,h=>by simp[nW,jL];exact⟨h x ac1,zd λv hv=>h v (a18 _ hv)⟩
def za{cs}(h:∀x∈cs,bW x=true):bW (.agg cs)=true:=by have⟨l⟩:=cs;simp[bW];exact zd λv a=>h v (by simpa using a)
def uE(h:bW v=true):∀x∈v.cells,bW x=true:=by
 intro x a;cases v with
 |agg b=>
  simp[a68]at a;have⟨l⟩:=b;simp[bW]at h;exact j9 h x (by simpa using a)
 |_=>simp[a68,Array.mem_singleton]at a;exact a▸h
def zv{d c:Type}(p:c->Prop)(f:d->c->Option (ForInStep c))(g:∀a s r,p s->f a s=some r->p r.value):∀(l:List d) s r,p s->forIn l s f=some r->p r
 |[],s,r,hs,e=>by simp_all
 |a::l,s,r,hs,e=>by
  simp at e;cases h:f a s with
  |none=>simp_all
  |some q=>
   rw[h]at e;have:=g a s q hs h;cases q with
   |done b=>simp_all
   |yield b=>exact zv p f g l b r this e
def Ir{c:TypeId->Option TypeInfo}(j:Gd c){i}(k:c t=some i){z}(g:∀d,z=some d->∀x∈d,bW x=true){d}
 (h:(if n>m then none else(do let a←z;let b←i.zero;pure (a++b.cells):Option (Array Value)))=some d):∀x∈d,bW x=true:=by
 split at h
 .cases h
 .cases z with
  |none=>cases h
  |some a=>
   cases f:i.zero with
   |none=>simp_all
   |some b=>
    rw[f]at h;cases h;intro x e;obtain e|e:=JY.1 e
    .simp_all
    .exact uE (j t i b k f) x e
def Bv{info:TypeId->Option TypeInfo}(hi:Gd info){fs}{i}{z}(h:aj3 info fs=some i)(hz:i.zero=some z):bW z=true:=by
 unfold aj3 at h;rw[ah_,QW]at h;have⟨r,hr,h⟩:=h;rw[←ab5]at hr;have key:=zv (λs=>∀zs,s.2.2.2.2.2.2.2.1=some zs->∀x∈zs,bW x=true) _ (λf s r hs e=> ?_) fs.toList _ r (λzs hzs x hx=> ?_) hr
 .simp at h;split at h<;>cases h<;>(simp at hz;obtain⟨zs,h1,rfl⟩:=hz;exact za (key zs h1))
 .cases he:info f.type with
  |none=>grind
  |some j=>
   rw[he]at e;simp only[ah_,IS]at e;intro zs hzs;refine Ir hi he hs (n:=s.2.1+j.size) (m:=Made.mostCells) ?_;rw[←hzs];revert e
   (repeat' split)<;>intro e<;>first
     |(cases e;done)
     |(simp at e;obtain rfl:=e;rfl)
     |(simp[QW]at e;have⟨_,_,e⟩:=e;revert e;(repeat' split)<;>intro e<;>cases e<;>rfl)
 grind
def N4{g:TypeId->Option TypeInfo}(o:Gd g){d}{i}{z}(h:ap1 g d=some i)(c:i.zero=some z):bW z=true:=by
 unfold ap1 at h;have b:∀{x:Option String} {f:String->TypeInfo} {v:Value},(∀s,(f s).zero=some v)->bW v=true->(x.bind λs=>some (f s))=some i->bW z=true:=by
  intro x f v A t e;cases x with
  |none=>cases e
  |some s=>
   grind
 cases d with
 |struct H=>exact Bv o h c
 |pointer e=>
  simp at h;rw[QW]at h;have⟨j,m,h⟩:=h;split at h
  .cases h
  .split at h
   .cases h
   .exact b (λ_=>rfl) rfl h
  .exact b (λ_=>rfl) rfl h
 |slice e=>
  simp at h;rw[QW]at h;have⟨j,m,h⟩:=h;exact b (λ_=>rfl) rfl h
 |map k e=>
  simp at h;rw[QW]at h;have⟨j,m,h⟩:=h;rw[QW]at h;have⟨F,w,h⟩:=h;rw[QW]at h;have⟨E,u,h⟩:=h;exact b (λ_=>rfl) rfl h
 |chan B e=>
  simp at h;rw[QW]at h;have⟨j,m,h⟩:=h;exact b (λ_=>rfl) rfl h
 |func D C v=>
  simp at h;exact b (λ_=>rfl) rfl h
 |array n e=>
  simp at h;rw[QW]at h;have⟨j,m,h⟩:=h;rw[QW]at h;have⟨s,G,h⟩:=h;cases h;simp only at c;split at c
  .cases c
  .split at c
   .cases c;rfl
   .rw[IT]at c;obtain⟨y,q,rfl⟩:=c;refine za λx r=> ?_;have⟨a,p,l⟩:=Array.mem_flatten.1 r;rw[aa2]at p;rw[p.2]at l;exact uE (o e j y m q) x l
 |_=>cases h
def ud(P:Program)(b:∀i∈P.types,∀z,i.zero=some z->bW z=true):∀f,Gd (a72 P.toTables f)
 |0=>λ_ _ _ h=>by cases h
 |f+1=>λt i z h a=>by
  unfold a72 at h;split at h
  .grind
  .rw[QW]at h;have⟨d,_,h⟩:=h;exact N4 (ud P b f) h a
def It(P:Program)(b:∀i∈P.types,∀z,i.zero=some z->bW z=true)(t)(i)(z)(h:P.info? t=some i)(a:i.zero=some z):bW z=true:=by
 unfold ao3 at h;split at h
 .grind
 .exact ud P b _ t i z h a
def Dt(args):aG ρ PL PM (aE ρ) (a73 args) (a73 (args.map (aE ρ))):=by
 have⟨l⟩:=args;cases l with
 |nil=>exact .dead trivial
 |cons x l=>
  cases l with
  |nil=>
   rw[show a14 (aE ρ) ⟨[x]⟩=#[aE ρ x]from s_];exact .pure x
  |cons y l=>exact .dead trivial
def sO:∀n t a,(∀v∈a,bW v=true)->∀v∈ZV n t a,bW v=true
 |0,_,_,h=>h
 |n+1,t,a,h=>sO n _ _ λv hv=>by
  obtain hv|hv:=Array.mem_push.1 hv
  .exact h v hv
  .rw[hv];rfl
def yp(j:bO PL PM)(h rs)(args):aG ρ PL PM (aE ρ) (Zx h rs args) (Zx h rs (args.map (aE ρ))):=by
 have⟨l⟩:=args;cases l with
 |nil=>exact .dead trivial
 |cons x l=>
  cases l with
  |cons y l=>cases x<;>exact .dead trivial
  |nil=>
   cases x with
   |int k n=>
    cases k with
    |i64=>
     rw[show a14 (aE ρ) ⟨[.i n]⟩=#[.i n]from by simp[aE]];unfold Zx;cases rs[0]? with
     |none=>exact .dead trivial
     |some t=>
      dsimp only;refine(aZ j t).bind λd=> ?_;cases d with
      |slice e=>
       dsimp only[id];have g:aG ρ PL PM (aE ρ) (do let c←choose (.appendCap n.toNat 0 e);askRoom c;let bytes←choose (.extern "internal/bytealg.MakeNoZero.bytes" 0);let a←newRow e (ZV c bytes #[]);pure (.slice (some a) n.toNat c)) (do let c←choose (.appendCap n.toNat 0 e);askRoom c;let bytes←choose (.extern "internal/bytealg.MakeNoZero.bytes" 0);let a←newRow e (ZV c bytes #[]);pure (.slice (some a) n.toNat c)):=by refine aG.bind (.choose λn=> .pure n) λc=> ?_;refine(lr c).bind λ_=> ?_;refine aG.bind (.choose λn=> .pure n) λb=> ?_;have o:=kX λv m=>eA ρ v (sO c b #[] s_ v m);have i:=i0 (ρ:=ρ) (PL:=PL) (PM:=PM) e (ZV c b #[]);rw[o]at i;exact i.bind λa=>aS _ (by simp[aE])
       split
       .exact(lm (f:=id) j rfl).bind λ_=>g
       .exact g
      |_=>exact .dead trivial
    |_=>exact .dead trivial
   |_=>exact .dead trivial
def sI(K:FuncId)(sk:Func)(ext:FuncId->Bool)(i:Nat)(f:Func):Func:=
 if i=K then sk else if ext i then f else match f.body with
  |some c=>if vq i c then f else qJ f
  |none=>qJ f
def i5(P:Program)(K:FuncId)(sk:Func)(ext:FuncId->Bool):Program:=ky P (P.funcs.mapIdx (sI K sk ext))
structure vB (P:Program) (K:FuncId) (sk:Func) (ext:FuncId->Bool) (G:Nat):Prop where
 zero:∀i∈P.types,∀z,i.zero=some z->bW z=true
 glob:P.globals.size=G
 tab:fP<G
 names:∀f∈P.funcs,f.name≠ "runtime.NumGoroutine"
 ty:Ih P
 ex:jO<P.funcs.size
 lw:AP<P.funcs.size
 lwr:AP≠jO->∀fn,P.funcs[AP]?=some fn->fn.results.all (NR 2)=true
 exr:∀fn,P.funcs[jO]?=some fn->fn.results.all (NR 1)=true
 kex:dY K=0
 d1:gI≠K/\ext gI=false/\∃fn c,P.funcs[gI]?=some fn/\fn.body=some c/\vq gI c=true
 z3:PR<P.funcs.size/\PS<P.funcs.size/\gI<P.funcs.size
 kfn:∃fn,P.funcs[K]?=some fn/\fn.body.isSome=true/\sk.results=fn.results
 kbody:∃c,sk.body=some c/\jS 0 c=true
 kname:sk.name≠ "runtime.NumGoroutine"
 ext:∀i fn,ext i=true->P.funcs[i]?=some fn->fn.body=none/\a32 fn=none/\∃e,a91 fn=some e/\∀(ρ:Nat->Nat) (PL PM:Program),bO PL PM->∀args,aG ρ PL PM (aE ρ) (e args) (e (args.map (aE ρ)))
section
variable{K:FuncId}{sk:Func}{ext:FuncId->Bool}{G:Nat}
def sH(f):(i5 P K sk ext).funcs[f]?=(P.funcs[f]?).map (sI K sk ext f):=by unfold i5 ky;simp_all
def mW(a:(i5 P K sk ext).funcs[f]?=some fn):∃b,P.funcs[f]?=some b/\
 ((f=K/\fn=sk)\/(f≠K/\ext f=true/\fn=b)\/(f≠K/\fn=b/\∃c,fn.body=some c/\vq f c=true)\/(f≠K/\fn=qJ b)):=by
 rw[sH]at a;cases i:P.funcs[f]? with
 |none=>simp_all
 |some g=>
  rw[i]at a;simp at a;refine⟨g,rfl, ?_⟩;unfold sI at a
  grind
def q8(h:vB P K sk ext G):bO (i5 P K sk ext) P:=IW P _ λt i z b a=>It P h.zero t i z b a
def yN(h:bO PL PM):bO PL PL:=⟨λ_=>rfl,λ_=>rfl,h.zero,rfl,λ_=>rfl,λ_=>rfl,s_,s_,s_,λ_=>rfl,λ_=>rfl,λ_=>rfl,rfl,λ_=>rfl⟩
def H8(h:vB P K sk ext G){PM}(u:bO (i5 P K sk ext) PM)(v:∀(f:FuncId) fn,(i5 P K sk ext).funcs[f]?=some fn->∃a,PM.funcs[f]?=some a/\(a=fn\/P.funcs[f]?=some a))(r)(g):jl r (i5 P K sk ext) PM g:=by
 intro fn s;have⟨a,j,m⟩:=mW s;have⟨q,l,d⟩:=v g fn s;have b:=h.names a (V3 j);obtain⟨rfl,rfl⟩|⟨m,t,rfl⟩|⟨m,rfl,c,k,_⟩|⟨m,rfl⟩:=m
 .have⟨c,k,_⟩:=h.kbody;refine⟨h.kname, .inl ⟨by rw[k];rfl,q,l, ?_⟩⟩;obtain rfl|o:=d
  .exact⟨by rw[k];rfl,h.kname⟩
  .rw[j]at o;cases o;have xQ:=h.kfn;simp_all
 .have xQ:=h.ext g fn t j
  grind
 .grind
 .exact⟨by show "none" ≠ "runtime.NumGoroutine";decide, .inr (.inl ⟨rfl,Ka _,Kc _,Kb _⟩)⟩
def CG(h:vB P K sk ext G)(m:(i5 P K sk ext).funcs[f]?=some fn):∃a,P.funcs[f]?=some a/\a.results=fn.results/\fn.results.all (NR (dY f))=true:=by
 have⟨a,i,l⟩:=mW m;have b:a.results.all (NR (dY f))=true:=by
  by_cases g:f=jO
  .subst g;rw[i9];exact h.exr a i
  .by_cases d:f=AP
   .have c:dY f=2:=(by unfold dY;simp_all);rw[c];exact h.lwr (λe=>g (d.trans e)) a (d▸i)
   .have c:dY f=3\/dY f=0:=by
     unfold dY
     grind
    rw[V6];intro r _;rcases c with c|c<;>rw[c]<;>cases r<;>rfl
 refine⟨a,i, ?_⟩;obtain⟨rfl,rfl⟩|⟨_,_,rfl⟩|⟨_,rfl,_⟩|⟨_,rfl⟩:=l
 .have xQ:=h.kfn;simp_all
 .simp_all
 .simp_all
 .exact⟨rfl,b⟩
def H7(h:vB P K sk ext G):Ih (i5 P K sk ext):=by have⟨d,b,a⟩:=h.ty;exact⟨d,by unfold i5;rw[dF];exact b,a⟩
def kA:(i5 P K sk ext).funcs.size=P.funcs.size:=by unfold i5 ky;simp
def H9(h:vB P K sk ext G):∃fn c,(i5 P K sk ext).funcs[gI]?=some fn/\P.funcs[gI]?=some fn/\fn.body=some c/\vq gI c=true:=by have⟨f,e,fn,c,d,b,a⟩:=h.d1;refine⟨fn,c, ?_,d,b,a⟩;rw[sH,d];simp[rN,sI,if_neg f,e,BZ,↓reduceIte,b,a]
def CY(h:vB P K sk ext G):mu (i5 P K sk ext) P G where
 same:=q8 h
 gl:=h.glob
 tab:=h.tab
 gm:=h.glob
 load w a b:=IX P _ w a b
 store w a v b:=Ed P _ w a v b
 fn ρ g:=H8 h (q8 h) (λf fn hf=>by have⟨fn',hp,_⟩:=mW hf;simp_all) ρ g
 ty:=H7 h
 mix:=rfl
 ex:=by rw[kA];exact h.ex
 lw:=by rw[kA];exact h.lw
 res f fn hf:=CG h hf
 none f hf:=by rw[sH]at hf;simp_all
 inits:=rfl
 d1:=by have⟨fn,c,h1,h2,h3,h4⟩:=H9 h;exact⟨fn,fn,h1,h2,rfl,rfl,c,h3,h4⟩
 z3:=by rw[kA];exact h.z3
def CX(h:vB P K sk ext G):mu (i5 P K sk ext) (i5 P K sk ext) G where
 same:=yN (q8 h)
 gl:=h.glob
 tab:=h.tab
 gm:=h.glob
 load _ _ _:=rfl
 store _ _ _ _:=rfl
 fn ρ g:=H8 h (yN (q8 h)) (λf fn hf=>⟨fn,hf, .inl rfl⟩) ρ g
 ty:=H7 h
 mix:=rfl
 ex:=by rw[kA];exact h.ex
 lw:=by rw[kA];exact h.lw
 res f fn hf:=by have⟨_,_,_,h3⟩:=CG h hf;simp_all
 none f hf:=hf
 inits:=rfl
 d1:=by have⟨fn,c,h1,h2,h3,h4⟩:=H9 h;exact⟨fn,fn,h1,h1,rfl,rfl,c,h3,h4⟩
 z3:=by rw[kA];exact h.z3
def uP(h:vB P K sk ext G)(f)(fn)(c)(i:(i5 P K sk ext).funcs[f]?=some fn)(d:fn.body=some c):vq f c=true:=by
 have⟨l,e,g⟩:=mW i;obtain⟨rfl,rfl⟩|⟨_,j,rfl⟩|⟨_,rfl,m,b,a⟩|⟨_,rfl⟩:=g
 .have⟨m,b,a⟩:=h.kbody;rw[d]at b;cases b;exact SE h.kex a
 .have xQ:=h.ext f fn j e;simp_all
 .simp_all
 .cases d
def uO(h:vB P K sk ext G)(f)(fn)(d:(i5 P K sk ext).funcs[f]?=some fn)(b:fn.body.isSome=true)(j:f≠K):jT (i5 P K sk ext) P f:=by
 have⟨l,c,e⟩:=mW d;obtain⟨rfl,_⟩|⟨_,g,rfl⟩|⟨_,rfl,m,i,a⟩|⟨_,rfl⟩:=e
 .simp_all
 .have xQ:=h.ext f fn g c;simp_all
 .exact⟨fn,fn,d,c,rfl,rfl,m,i,a⟩
 .cases b
end
end
section
open Go.RowKit
def vt(op)(x y):0<=bits op .u64 x y:=by unfold bits;simp[XZ];omega
def sa(x k:Int):Int:=
 bits .or .u32 (JV.wrap (x*2^min (bits .and .u64 (Tu.wrap k) 31).toNat 32)) (x/2^min (Tu.wrap (32- bits .and .u64 (Tu.wrap k) 31)).toNat 32)
def eF(x a b c:Int):Int:=bits .xor .u32 (bits .xor .u32 (sa x (-a)) (sa x (-b))) (sa x (-c))
def iK(x a b c:Int):Int:=bits .xor .u32 (bits .xor .u32 (sa x (-a)) (sa x (-b))) (x/2^c.toNat)
def si{a b:List UInt8}(h:a=b):Zo (.string ⟨a.toArray⟩)= .returned (.string ⟨b.toArray⟩):=by rw[h]
def dC(l:List UInt8):Int:=l.foldl (λn b=>256*n+(b.toNat:Int)) 0
def pZ(l)(b):dC (l++[b])=256*dC l+(b.toNat:Int):=by simp[dC,List.foldl_append]
def Cq(n):∀l,l.length=n->0<=dC l/\dC l<256^n:=by
 induction n with
 |zero=>intro l h;rw[List.length_eq_zero_iff]at h;subst h;simp[dC]
 |succ n a=>
  intro l h;obtain⟨r,b,rfl⟩:∃r b,l=r++[b]:=⟨l.dropLast,l.getLast (by grind),(List.dropLast_concat_getLast _).symm⟩;have:=a r (by simp_all);rw[pZ];have d:=b.toNat_lt;omega
def jY(l)(n)(h:l.length<=n):0<=dC l/\dC l<256^n:=by
 have a:=Cq _ l rfl;refine⟨a.1,Int.lt_of_lt_of_le a.2 ?_⟩;have d:=Nat.pow_le_pow_right (n:=256) d_ h
 grind
def LL(n)(b:UInt8)(a:0<=n)(d:n<72057594037927936):bits .or .u64 (n*256) (Tu.wrap (b.toNat:Int))=256*n+(b.toNat:Int):=by
 have c:=b.toNat_lt;obtain⟨m,rfl⟩:=Int.eq_ofNat_of_zero_le a;rw[XZ,Int.emod_eq_of_lt o_ o_];have e:((m:Int)*256)=((m*256:Nat):Int):=o_
 rw[e,u64_or_nat _ _ o_ o_,nat_join 8 (m*256) b.toNat o_ o_];omega
def vI{k}{a b}(h:a=b):Zo (.int k a)= .returned (.int k b):=by rw[h]
def dm(n:Nat):Nat->List UInt8
 |0=>[]
 |k+1=>dm (n/256) k++[ZJ n]
def cO(k):∀n,(dm n k).length=k:=by
 induction k with
 |zero=>intro n;rfl
 |succ k a=>intro n;simp[dm,a]
def zh(j):∀n,dm n (j+1)=ZJ (n/256^j)::dm n j:=by
 induction j with
 |zero=>intro n;simp[dm]
 |succ j a=>
  intro n;rw[dm,a (n/256),dm,Nat.div_div_eq_div_mul,←Nat.pow_succ',a51]
def aX(l:List UInt8):List Value:=l.map λb=>Value.int .u8 (b.toNat:Int)
def d9(l):(aX l).length=l.length:=by simp[aX]
def IA(n k m:Nat):List Value:=rS m (Value.int .u8 0)++aX (dm n (k- m))
def E6(n k m)(h:m<=k):(IA n k m).length=k:=by simp[IA,d9,cO];omega
def Iz(n k):IA n k k=rS k (Value.int .u8 0):=by simp[IA,dm,aX]
def O8(n k):IA n k 0=aX (dm n k):=by simp[IA]
def O7(n k p):(IA n k (p+1))[p]?=some (Value.int .u8 0):=by rw[IA,yw s_];simp
def O6(n k p)(h:p<k)(v:Int)(hv:v=((n/256^(k-(p+1)))%256:Nat)):(IA n k (p+1)).set p (Value.int .u8 v)=IA n k p:=by subst hv;rw[IA,IA,show k- p=(k-(p+1))+1 from o_,zh,List.replicate_succ',aX,aX,JS,ZQ,WT _ _ s_];simp
def aQ(l:List Int):List Value:=l.map λx=>Value.int .u32 x
def bG(l):(aQ l).length=l.length:=by simp[aQ]
def uf(B:List UInt8)(i:Nat):Int:=JV.wrap (dC ((B.drop (4*i)).take 4))
def uL(W:List Int)(i:Nat):Int:=
 JV.wrap (JV.wrap (JV.wrap (W.getD (i- 16) 0+iK (W.getD (i- 15) 0) 7 18 3)+W.getD (i- 7) 0)+iK (W.getD (i- 2) 0) 17 19 10)
def Cu(W)(m):uL W (m+16)=JV.wrap (JV.wrap (JV.wrap (W.getD m 0+iK (W.getD (m+1) 0) 7 18 3)+W.getD (m+9) 0)+iK (W.getD (m+14) 0) 17 19 10):=by rw[uL,show m+16- 16=m from o_,show m+16- 15=m+1 from o_,show m+16- 7=m+9 from o_,show m+16- 2=m+14 from o_]
def cj(B:List UInt8):Nat->List Int
 |0=>[]
 |k+1=>cj B k++[if k<16 then uf B k else uL (cj B k) k]
def f9(B)(k):(cj B k).length=k:=by
 induction k with
 |zero=>rfl
 |succ k a=>simp[cj,a]
def di(B:List UInt8)(k:Nat):List Int:=cj B k++rS (64- k) 0
def xX(B)(k)(h:k<=64):(di B k).length=64:=by simp[di,f9];omega
def wv(B)(k)(h:k<64)(v)(hv:v=if k<16 then uf B k else uL (cj B k) k):(aQ (di B k)).set k (.int .u32 v)=aQ (di B (k+1)):=by subst hv;rw[di,di,show 64- k=(64-(k+1))+1 from o_,List.replicate_succ,aQ,aQ,cj,Q4,WT _ _ (by simp[f9])];simp[f9]
def nO(B)(k j)(h:j<k):(aQ (di B k))[j]?=some (.int .u32 ((cj B k).getD j 0)):=by rw[di,aQ,Q4,yw (by simp[f9];omega)];simp[f9,h]
def ux(B)(k)(a:k<64):(aQ (di B k))[k]?=some (.int .u32 0):=by rw[di,aQ,Q4,um (by simp[f9]),List.map_replicate,List.getElem?_replicate,if_pos (by simp[f9];omega)]
def uy(B):di B 64=cj B 64:=by simp[di]
def ji(l):∀v∈aQ l,v.oneCell'=true:=by intro v a;simp[aQ,ZA]at a;obtain⟨x,_,rfl⟩:=a;rfl
def xx(l):∀v∈aX l,v.oneCell'=true:=by intro v a;simp[aX,ZA]at a;obtain⟨x,_,rfl⟩:=a;rfl
def gR{p}{ty}(h:fn.results=#[.cell p ty])(tmps)(w)(b o)(cs)(d)
 (e:tmps.getD p undef= .pk b o) (i:w.rangeAt b o cs)
 (c:P.underlying ty=some d) (g:d.isRow=true) (f:(P.info? ty).map (·.size)=some cs.length):
 (results fn tmps).run P w= .ok (.agg cs.toArray) w:=by
 have a:tmps[p]?.getD undef= .pk b o:=by simpa using e
 simp[results,h,a,asAddr,run_loadVar_mid w b o ty cs d i c g f]
def bV{B}(a:B<=b):∀c o w0 w,Below B w0 w->Below B w0 (w.setCells b o c)
 |[],_,_,_,h=>h
 |v::r,o,w0,w,h=>by rw[am6];exact bV a r (o+1) w0 _ (h.setCell (p:=⟨b,o,none⟩) a v)
def P8{a b:List Value}(h:a=b):Zo (.agg a.toArray)= .returned (.agg b.toArray):=by rw[h]
def eq(z)(n):madeCells #[z] n=(rS n z).toArray:=by
 apply a23
 .simp[madeCells]
 .intro i b a;simp[madeCells,Nat.mod_one]
def dG(w:World)(L)(t)(b)(c:b=w.heap.size):(w.alloc (.cells L.toArray t)).rangeAt b 0 L:=λj v a=>by simp_all
def dB(w:World)(c)(t)(b n)(a:b=w.heap.size)(d:c.size=n):(w.alloc (.cells c t)).there b 0 n:=λj e=>by simp_all
def bN{B o}{L}(h:Below B w w')(d:b<B)(c:w.rangeAt b o L):w'.rangeAt b o L:=λj v a=>by rw[h.cell d];exact c j v a
def fF{B o}(h:Below B w w')(a:b<B)(c:w.there b o n):w'.there b o n:=λj d=>by rw[h.cell a,h.frozen a];exact c j d
end
end Go.Proofs.YtkmoglhgkcnalaaGreatDoor
namespace Go.Proofs.YtkmoglhgkcnalaaGreatDoor
open Go.RowKit
structure St where
 a:Int
 b:Int
 c:Int
 d:Int
 e:Int
 f:Int
 g:Int
 h:Int
def St.t(s:St)(k w:Int):Int:=
 JV.wrap (JV.wrap (JV.wrap (JV.wrap (s.h+eF s.e 6 11 25)+bits .xor .u32 (bits .and .u32 s.e s.f) (bits .and .u32 (bits .xor .u32 4294967295 s.e) s.g))+k)+w)
def St.u(s:St):Int:=
 JV.wrap (eF s.a 2 13 22+bits .xor .u32 (bits .xor .u32 (bits .and .u32 s.a s.b) (bits .and .u32 s.a s.c)) (bits .and .u32 s.b s.c))
def St.next(s:St)(k w:Int):St:=
 ⟨JV.wrap (s.t k w+s.u),s.a,s.b,s.c,JV.wrap (s.d+s.t k w),s.e,s.f,s.g⟩
def St.of(H:List Int):St:=⟨H.getD 0 0,H.getD 1 0,H.getD 2 0,H.getD 3 0,H.getD 4 0,H.getD 5 0,H.getD 6 0,H.getD 7 0⟩
def St.list(s:St):List Int:=[s.a,s.b,s.c,s.d,s.e,s.f,s.g,s.h]
def cU(K W H:List Int):Nat->St
 |0=>St.of H
 |i+1=>(cU K W H i).next (K.getD i 0) (W.getD i 0)
def Fs(K H:List Int)(B:List UInt8):List Int:=(cU K (cj B 64) H 64).list
def fA(H G:List Int)(k:Nat):List Int:=(px 8).map λi=>if i<k then JV.wrap (H.getD i 0+G.getD i 0)else H.getD i 0
def od(K H:List Int)(B:List UInt8):List Int:=fA H (Fs K H B) 8
def oa(H G:List Int)(k:Nat):(fA H G k).length=8:=by simp[fA]
def po(K H:List Int)(B:List UInt8):(od K H B).length=8:=oa _ _ _
def Cw(H G:List Int)(h:H.length=8):fA H G 0=H:=by
 apply a53
 .simp[fA,h]
 .intro i h1 h2;simp[fA,List.getD,EN h2]
def Js(H G:List Int)(k:Nat)(h:k<8):(aQ (fA H G k))[k]?=some (.int .u32 (H.getD k 0)):=by simp[fA,aQ,h]
def Jr(H G:List Int)(k:Nat)(v:Int)(hv:v=JV.wrap (H.getD k 0+G.getD k 0)):(aQ (fA H G k)).set k (.int .u32 v)=aQ (fA H G (k+1)):=by
 subst hv;apply a53
 .simp[fA,aQ]
 .intro i h1 h2;simp only[fA,aQ,List.map_map,List.getElem_set,List.getElem_map,List.getElem_range,Function.comp];by_cases e:k=i
  .subst e;simp
  .rw[if_neg e];by_cases e2:i<k
   .rw[if_pos e2,if_pos o_]
   .rw[if_neg e2,if_neg o_]
def VL(s:St)(k w:Int):(s.h+eF s.e 6 11 25+bits .xor .u32 (bits .and .u32 s.e s.f) (bits .and .u32 (bits .xor .u32 (if JV.signed=true then-1 else JV.max) s.e) s.g)+k+w)%4294967296=s.t k w:=by
 have e:(if JV.signed=true then-1 else JV.max)=(4294967295:Int):=d_
 rw[e,St.t];simp only[JZ];omega
def Xt(s:St):(eF s.a 2 13 22+bits .xor .u32 (bits .xor .u32 (bits .and .u32 s.a s.b) (bits .and .u32 s.a s.c)) (bits .and .u32 s.b s.c))%4294967296=s.u:=by rw[St.u,JZ]
def SK(s:St)(k w:Int):((s.h+eF s.e 6 11 25+bits .xor .u32 (bits .and .u32 s.e s.f) (bits .and .u32 (bits .xor .u32 (if JV.signed=true then-1 else JV.max) s.e) s.g)+k+w)%4294967296+
 (eF s.a 2 13 22+bits .xor .u32 (bits .xor .u32 (bits .and .u32 s.a s.b) (bits .and .u32 s.a s.c)) (bits .and .u32 s.b s.c))%4294967296)%4294967296=(s.next k w).a:=by rw[VL,Xt,St.next,JZ]
def SJ(s:St)(k w:Int):(s.d+(s.h+eF s.e 6 11 25+bits .xor .u32 (bits .and .u32 s.e s.f) (bits .and .u32 (bits .xor .u32 (if JV.signed=true then-1 else JV.max) s.e) s.g)+k+w)%4294967296)%4294967296=(s.next k w).e:=by rw[VL,St.next,JZ,JZ]
end Go.Proofs.YtkmoglhgkcnalaaGreatDoor
namespace Go.Proofs.YtkmoglhgkcnalaaGreatDoor
open Go
variable{n b i N l m k j b3 b4 b7 b9 Wg wd:Nat}{w w' w0 wL wM wE:World}{fr:Frame}{v:Value}{cs:List Frame}{args cv:Array Value}{V RO D V0:Nat->Prop}{q main listen ql:Bool}{g:Goroutine}{a:Act}{K:List Item}{P PL PM:Program}{x:Operand}{ops:Array Oper}{KS:List Int}{t u:TypeId}{o:Oper}{f:FuncId}{es:Array Event}{Goal:Goroutine->World->Prop}{fn:Func}{rest:List Nat}{ds:List Deferred}{F:List (Nat×Value)}{e:Event}{listed:Array Bool}{c:Int}{s msg key sig:ByteArray}{ρ:Nat->Nat}{ev:Operand->Value}{Post:Value->World->Prop}
section
open Go.RowKit
def Ti(L)(k)(h:k<L.length):(aQ L)[k]?=some (.int .u32 (L.getD k 0)):=by simp[aQ,h]
def Sv{o}{L}(h:w.rangeAt b o (aQ L))(k)(a:k<L.length):w.cell? ⟨b,o+k,none⟩=some (.int .u32 (L.getD k 0)):=h k _ (Ti L k a)
def iQ{L}(h:w.rangeAt b 0 (aQ L))(k)(a:k<L.length):w.cell? ⟨b,k,none⟩=some (.int .u32 (L.getD k 0)):=by have:=Sv h k a;simp_all
structure UY (w M:World) (H KS S:List Int) (c:Nat):Prop where
 below:Bw w M
 hrow:M.rangeAt w.heap.size 0 (aQ H)
 hthere:M.there w.heap.size 0 8
 res:M.there (w.heap.size+1+1) 0 8
 srow:M.rangeAt c 0 (aQ S)
 krow:M.rangeAt 0 0 (aQ KS)
def Jq(w b)(H KS S)(B)(T i h)(e a)(n:e.size=8)(g:a.size=64)(k:S.length=64)(m:H.length=8)
 (l:w.rangeAt 0 0 (aQ KS)) (o:0<w.heap.size)
 (d:Below (((w.alloc (.cells (aQ H).toArray T)).alloc (.cells (aX B).toArray i)).alloc (.cells e T)).heap.size (((w.alloc (.cells (aQ H).toArray T)).alloc (.cells (aX B).toArray i)).alloc (.cells e T)) b):
 UY w ((b.alloc (.cells a h)).setCells b.heap.size 0 (aQ S)) H KS S b.heap.size:=by
 have j:=d.size;simp at j;have c:Bw w b:=((((a65 _ _).alloc o_ _).alloc s_ _).alloc (by simp;omega) _).trans (d.mono (by simp;omega));have f:(b.alloc (.cells a h)).there b.heap.size 0 (aQ S).length:=by rw[bG,k];exact dB _ _ _ _ _ rfl g
 refine⟨bV o_ _ _ _ _ (c.alloc o_ _), ?_, ?_, ?_, ?_, ?_⟩
 .refine QN (Zr (bN d (by simp;omega) (Zr (Zr (dG _ _ _ _ rfl) _) _)) _) _ _ _ o_
 .refine Y2 (a42 (fF d (by simp;omega) (a42 (a42 (dB _ _ _ _ _ rfl (by simp[bG,m])) _) _)) _) _ _ _
 .refine Y2 (a42 (fF d s_ (dB _ _ _ _ _ s_ n)) _) _ _ _
 .exact Kq _ _ _ _ f
 .refine QN (Zr (bN c o l) _) _ _ _ o_
def A3{c}{Q}{W}(b:World->Prop)(h:b W)(k:∀M,b M->Code.wp P c Q a M):Code.wp P c Q a W:=k W h
def gQ{o}(h:w.there b o n)(a k)(v):(w.setCell ⟨a,k,none⟩ v).there b o n:=Y2 h a k [v]
def kx{L}(h:w.rangeAt b 0 L)(v):(w.setCell ⟨b,k,none⟩ v).rangeAt b 0 (L.set k v):=λj u a=>by
 rw[y6];have d:j<L.length:=by grind
 have c:=h j _ (EN d);rw[y6]at c;by_cases e:k=j
 .subst e;rw[World.cell?_setCell_same _ _ _ c];simp_all
 .rw[World.cell?_setCell_other _ _ _ _ s_,c];simp_all
def H0:List Int:=[1779033703,3144134277,1013904242,2773480762,1359893119,2600822924,528734635,1541459225]
def cM(KS:List Int)(L:List UInt8):Nat->List Int
 |0=>H0
 |n+1=>od KS (cM KS L n) ((L.drop (64*n)).take 64)
def dA(KS)(L)(n):(cM KS L n).length=8:=by
 cases n with
 |zero=>rfl
 |succ n=>exact po ..
def ml(KS)(L p):∀n,64*n<=L.length->cM KS (L++p) n=cM KS L n
 |0,_=>rfl
 |n+1,h=>by rw[cM,cM,ml KS L p n o_,a0_ o_,a28 (by simp;omega)]
def j1(blk q:List UInt8)(h:Nat):List UInt8:=blk.take h++q++blk.drop (h+q.length)
def iR(a q)(h)(b:a.length=64)(c:h+q.length<=64):(j1 a q h).length=64:=by simp[j1,b];omega
def wW(a q)(h)(c:a.length=64)(b:h+q.length<=64):(j1 a q h).take (h+q.length)=a.take h++q:=by rw[j1,a28 (by simp;omega),No (by simp;omega)]
def II(a L q)(e:a.length=64)(d:a.take (L.length%64)=L.drop (64*(L.length/64)))(f:L.length%64+q.length<64):
 (L++q).length/64=L.length/64/\(L++q).length%64=L.length%64+q.length/\
 (j1 a q (L.length%64)).take ((L++q).length%64)=(L++q).drop (64*((L++q).length/64)):=by
 have c:(L++q).length/64=L.length/64:=by simp;omega
 have b:(L++q).length%64=L.length%64+q.length:=by simp;omega
 refine⟨c,b, ?_⟩;rw[c,b,wW _ _ _ e o_,d,a0_ o_]
def IJ(KS)(a L q)(c:a.length=64)(d:a.take (L.length%64)=L.drop (64*(L.length/64)))(f:L.length%64+q.length=64):
 (L++q).length/64=L.length/64+1/\(L++q).length%64=0/\(L++q).drop (64*((L++q).length/64))=[]/\
 cM KS (L++q) ((L++q).length/64)=od KS (cM KS L (L.length/64)) (j1 a q (L.length%64)):=by
 have b:(L++q).length/64=L.length/64+1:=by simp;omega
 have g:(L++q).length%64=0:=by simp;omega
 refine⟨b,g, ?_, ?_⟩
 .rw[b,List.drop_eq_nil_iff];simp;omega
 .rw[b,cM,ml _ _ _ _ o_]
  congr 1
  have e:(j1 a q (L.length%64)).take 64=a.take (L.length%64)++q:=by have:=wW a q (L.length%64) c o_;simp_all
  rw[No (by rw[iR _ _ _ c o_];omega)]at e
  grind
structure fT (w:World) (b:Nat) (KS:List Int) (L blk:List UInt8) (n:Nat):Prop where
 len:blk.length=64
 words:w.rangeAt b 0 (aQ (cM KS L (L.length/64)))
 block:w.rangeAt b 8 (aX blk)
 length:w.cell? ⟨b,72,none⟩=some (.int .u64 (n:Int))
 tail:blk.take (L.length%64)=L.drop (64*(L.length/64))
 there:w.there b 0 73
def j5{o o' a}(h:w.there b o n)(e:o<=o')(d:o'+a<=o+n):w.there b o' a:=λj c=>by
 have:=h (o'+j- o) o_
 grind
def rU(w)(T ty e)(p:P.underlying T=some (.slice e))(k:(P.info? e).isSome=true)(q)(b o a d n)(s)(l:Nat.min s.size a=n)(f:w.there b o n):
 (Yf #[T,q] ty #[.slice (some ⟨b,o,none⟩) a d, .s s]).run P w= .ok (goInt n) (w.setCells b o (aX (s.data.toList.take n))):=by
 cases g:P.info? e with
 |none=>simp[g]at k
 |some i=>
  have h:(s.data.toList.take n).map (λb=>Value.int .u8 (b.toNat:Int))=aX (s.data.toList.take n):=rfl;have r:(aX (s.data.toList.take n)).length<=n:=by grind
  have c:=run_storeCells_cells (P:=P) b o (aX (s.data.toList.take n)) 0 w (λj m=>by simpa using(f j o_).1) (λj m=>by simpa using(f j o_).2) (xx _);simp at c;simp[Yf,run_underlying p,Zm,l,sizeOf,typeInfo,g,Tw];simp_all
def fT.copied{L c}(h:fT w b KS L c n)(q)(g:L.length%64+q.length<=64):
 (w.setCells b (8+L.length%64) (aX q)).rangeAt b 8 (aX (j1 c q (L.length%64)))/\
 (w.setCells b (8+L.length%64) (aX q)).rangeAt b 0 (aQ (cM KS L (L.length/64)))/\
 (w.setCells b (8+L.length%64) (aX q)).cell? ⟨b,72,none⟩=some (.int .u64 (n:Int))/\
 (w.setCells b (8+L.length%64) (aX q)).there b 0 73:=by
 have f:=d9 q;refine⟨?_, ?_, ?_,Y2 h.there _ _ _⟩
 .intro j v d;have e:w.there b (8+L.length%64) (aX q).length:=j5 h.there o_ o_;have k:j<64:=by
   have:=(List.getElem?_eq_some_iff.1 d).1
   rwa [d9,iR _ _ _ h.len g]at this
  rw[aX,YR,IT]at d;obtain⟨x,a,rfl⟩:=d;by_cases i:j<L.length%64
  .rw[ZZ b _ _ _ _ (λ_ _=>ai1 (by simp_all))];refine h.block j _ ?_;rw[j1,ZQ,yw (by simp[h.len];omega),List.getElem?_take_of_lt i]at a;rw[aX,YR,a];rfl
  .by_cases l:j<L.length%64+q.length
   .have:=Kq w b (8+L.length%64) (aX q) e (j- L.length%64) (.int .u8 (x.toNat:Int)) (by rw[j1,ZQ,um (by simp;omega),yw (by grind)]at a;simp[a84,h.len]at a;rw[show min (L.length%64) 64=L.length%64 from o_]at a;rw[aX,YR,a];rfl)
    grind
   .rw[ZZ b _ _ _ _ (λ_ _=>ak2 (by grind))];refine h.block j _ ?_;rw[j1,um (by grind),List.getElem?_drop]at a;simp[List.length_append,a84,h.len]at a;rw[show L.length%64+q.length+(j-(min (L.length%64) 64+q.length))=j from o_]at a;rw[aX,YR,a];rfl
 .exact QN h.words _ _ _ (ak2 (ai1 (by rw[bG,dA];omega)))
 .rw[ZZ b _ _ _ _ (λ_ _=>ak2 (by grind))];exact h.length
def fT.setLen{L a}(h:fT w b KS L a n)(m:Nat):fT (w.setCell ⟨b,72,none⟩ (.int .u64 (m:Int))) b KS L a m:=by
 have e:w.setCell ⟨b,72,none⟩ (.int .u64 (m:Int))=w.setCells b 72 [.int .u64 (m:Int)]:=rfl;rw[e];exact⟨h.len,QN h.words _ _ _ (ak2 (ai1 (by rw[bG,dA];omega))),QN h.block _ _ _ (ak2 (ai1 (by rw[d9,h.len];omega))),
  by have:=Kq w b 72 [.int .u64 (m:Int)] (j5 h.there o_ s_) 0 _ rfl;exact this,h.tail,Y2 h.there _ _ _⟩
def fG{a b c:World}{row}(h:a.grownBy b row)(k:b.grownBy c row):a.grownBy c row:=
 ⟨k.os.trans h.os,k.tape.trans h.tape,k.output.trans h.output,yk h.size k.size,λi e d=>(k.block i (mB e h.size) d).trans (h.block i e d)⟩
def uS{row}(h:Bw w w'):w.grownBy w' row:=⟨h.os,h.tape,h.output,h.size,λk a _=>h.block k a⟩
def qE(w:World)(b o)(v):w.grownBy (w.setCell ⟨b,o,none⟩ v) (some b):=
 ⟨rfl,rfl,rfl,by simp_all,λk _ a=>Below.heap_setCell _ _ _ _ (λe=>a (by rw[e]))⟩
def fB(b):∀a o (w:World),w.grownBy (w.setCells b o a) (some b)
 |[],_,w=>World.grownBy.refl w _
 |v::r,o,w=>fG (qE w b o v) (fB b r (o+1) _)
def fT.more{L a}(h:fT w b KS L a n)(q)(e:L.length%64+q.length<64):
 fT (w.setCells b (8+L.length%64) (aX q)) b KS (L++q) (j1 a q (L.length%64)) n:=by have⟨j,i,g,f⟩:=h.copied q o_;have⟨d,k,c⟩:=II a L q h.len h.tail e;exact⟨iR _ _ _ h.len o_,by rw[d,ml _ _ _ _ o_];exact i,j,g,c,f⟩
def fT.full{e}{L a}(h:fT w b KS L a n)(q)(k:L.length%64+q.length=64)
 (d:Below w.heap.size (w.setCells b (8+L.length%64) (aX q)) e) (c:b<w.heap.size):
 fT (e.setCells b 0 (aQ (od KS (cM KS L (L.length/64)) (j1 a q (L.length%64))))) b KS (L++q) (j1 a q (L.length%64)) n:=by
 have⟨r,u,o,m⟩:=h.copied q o_;have⟨s,j,i,g⟩:=IJ KS a L q h.len h.tail k;have t:(aQ (od KS (cM KS L (L.length/64)) (j1 a q (L.length%64)))).length=8:=by rw[bG,po]
 have f:=fF d c m;refine⟨iR _ _ _ h.len o_, ?_,QN (bN d c r) _ _ _ o_, ?_, ?_,Y2 f _ _ _⟩
 .rw[g];exact Kq _ _ _ _ (j5 f o_ o_)
 .rw[ZZ b _ _ _ _ (λ_ _=>ak2 (by simp_all)),d.cell c];exact o
 .rw[j,i];rfl
def ib(b):∀a o (w:World),(w.setCells b o a).heap.size=w.heap.size
 |[],_,_=>rfl
 |v::r,o,w=>by rw[am6,ib b r (o+1)];simp_all
def C8{row}{o}{L}(h:w.grownBy w' row)(d:w.rangeAt b o L)(a:some b≠row):w'.rangeAt b o L:=λj v c=>h.cell (d j v c) a
def dW{K}{Q}(f)(args)(c:(execOp a.eval o).run P w= .ok (.enter f args) w)(v)(R:World->Prop)
 (g:Calls P f args w λe b=>e= .returned v/\R b) (h:∀b,R b->K (a.put o.dst v) b):o.wp P a w K Q:=by unfold Oper.wp;rw[c,Oper.upon_enter];refine g.mono λe b d=> ?_;simp_all
def fK{o}{L}(h:w.rangeAt b o L):(World.drew w).rangeAt b o L:=(World.rangeAt_drew w b o L).2 h
def cK{Q}{K}(b:ops[i]?=some o)(c:o.guard=none)(h:o.wp P a w K Q):wpOp P ops Q i K a w:=by unfold wpOp;simp[b];rw[if_pos (by simp[lO,c])];exact .inl h
def yB{Q}{K}(d:ops[i]?=some o)(g:o.guard=none)(f)(args)(c:(execOp a.eval o).run P w= .ok (.enter f args) w)(v)(R:World->Prop)
 (j:Calls P f args w λe b=>e= .returned v/\R b) (h:∀b,R b->K (a.put o.dst v) b):wpOp P ops Q i K a w:=cK d g (dW f args c v R j h)
def wT{md}{Q}{d}{b}(i)(v)
 (h:wpAny P md ops Q b (listed.setIfInBounds i true) (a.put d.dst v) w) (j:ops[i]?=some d:=by rfl) (f:Region.noSelect ops=true:=by kernel_rfl) (k:Region.free md ops listed i=true:=by kernel_rfl) (g:(Region.ready md ops listed).contains i=true:=by kernel_rfl)
 (l:∀c a w,Q (.panic c) (a.put d.dst v) w->Q (.panic c) a w:=by exact λ_ _ _ h=>h) (e:Yields P ops d v a:=by exact Or.inl ⟨by rfl,by intro w;go_simp⟩):wpAny P md ops Q (b+1) listed a w:=wpAny_take j f k g l e h
def lW{p:Nat->Prop}{x y}(c:p x)(b:p y):∀i∈[x,y],p i:=by simp_all
def cW{p:Nat->Prop}{x}(b:p x):∀i∈[x],p i:=by simp_all
end
section
open Go Go.Conc
open Go.ConcN (sumTo upd sumTo_upd upd_ne upd_same)
def YV(P:Program)(Post:Value->World->Prop)(m:Machine)(t:Trace):Prop:=
 ∃N last o w' t',runNT P (N+1) m t=(.ended o w',t')/\runN P N m= .next last/\step P last= .ended o w'/\ao4 P Post last o w' t'
section
variable{Stop:Goroutine->World->Prop}
def YV.next{m b}{t ops:Trace}(h:stepT P m=(.next b,ops))(j:YV P Post b (t++ops)):YV P Post m t:=by have⟨N,a,o,c,d,i,g,f,e⟩:=j;exact⟨N+1,a,o,c,d,by rw[runNT];simp_all,by rw[runN];simp[step,h];exact g,f,e⟩
def YV.now{m}{t ops:Trace}{o}(h:stepT P m=(.ended o w,ops))(a:ao4 P Post m o w (t++ops)):YV P Post m t:=
 ⟨0,m,o,w,t++ops,by simp[runNT,h],rfl,by simp[step,h],a⟩
def Re(PL:Program)(g:Goroutine)(w:World)(g2:Goroutine)(w2:World):Prop:=
 ∃τ d g1 w1 es,stepG PL true g (my w τ d)= .go g1 w1 es/\StepsIn (λ_=>True) PL (solo g1 w1) (solo g2 w2)
def BH{C:Goroutine->World->Prop}(i:∀g w,Stop g w->∀k d,∃o s es,stepG PL true g (my w k d)= .ended o s es)
 (h:∀g w,iy PL Stop g w->iw g->(∀f c,Re PL g w f c->C f c)->C g w)   (y:iy PL Stop g w) (p:iw g):C g w:=by
 have v:∀g w,iy PL Stop g w->iw g->∀f c,StepsIn (λ_=>True) PL (solo g w) (solo f c)->C f c:=by
  intro g w y;induction y with
  | @stop g w z=>
    intro p f c b;have B:=h g w (.stop z) p λf c ⟨k,d,G,s,es,e,_⟩=>by have xQ:=i g w z k d;simp_all
    generalize t:solo g w=m at b;generalize j:solo f c=E at b;cases b with
    |refl=>
     obtain⟨rfl,rfl⟩:=jA (t.trans j.symm);exact B
    |head _ a _=>
     exfalso;subst t;have⟨o,s,es,e⟩:=i g w z w.tape w.drawn;have r:stepG PL true g w= .ended o s es:=e;rw[step,stepT_solo p.1]at a;simp[runT,solo,a6_,ae7,r]at a
  | @go g w n A l x D=>
    intro p f c b;have B:=h g w (.go n A l x) p λf c ⟨k,d,G,s,es,e,F⟩=>by
     have xQ:=A k d
     grind
    generalize t:solo g w=m at b;generalize j:solo f c=E at b;cases b with
    |refl=>
     obtain⟨rfl,rfl⟩:=jA (t.trans j.symm);exact B
    | @head _ I _ _ a q=>
      subst t j;have⟨u,r⟩:=A w.tape w.drawn;have H:stepG PL true g w= .go (n w.tape w.drawn).1 (n w.tape w.drawn).2 u:=r;rw[step,stepT_solo p.1,runT_solo_go H]at a
      grind
 exact v g w y p g w (.refl _)
end
def eW(S:Nat->Prop):Loc->Prop
 | .cell a=>S a.block
 | .obj r=>S r
 |_=>False
def dq(S:Nat->Prop)(l:Loc):Prop:=eW S l\/l.isMemory=false
section
variable{Stop:Goroutine->World->Prop}{G T:Nat}
def MJ{o}{wL p}{S}(t:dp G T D o wL p)(C:fP<G)(w:∀b,D b->¬S (o b))(u:∀r,S r->G<=r)(g:jm D o e\/xM e):EvL (dq S) p.heap.size e:=by
 obtain g|⟨a,B,rfl⟩:=g
 .have⟨q,v,A⟩:=e;cases q with
  |cell a=>
   obtain⟨rfl,b,n,l⟩:=g;have s:¬dq S (.cell a):=by
    rintro(h|h)
    .have y:S a.block:=h
     grind
    .cases h
   have d:a.block<p.heap.size:=l▸t.ltM n;exact evL_cell a v s d
  |obj r=>
   obtain⟨rfl,b,n,rfl⟩:=g;refine⟨λx k c=> ?_,s_,s_, ?_⟩
   .have j:=k;simp[OF,MemAct.touch?,Option.some.injEq]at j;subst j;exact c.elim (λh=>absurd h (w b n)) λh=>by cases h
   .simp[OF,MemAct.low,Loc.low];exact (t.ltM n)
  |mark m=>
   have z:fO m=true:=g;cases m with
   |extern f=>exact⟨λx k=>(by cases k),(by simp_all),(by simp_all),trivial⟩
   |noRoom=>exact⟨λx k=>(by cases k),(by simp_all),(by simp_all),trivial⟩
   |_=>simp[fO]at z
  |output=>exact g.elim
  |goroutines=>exact g.elim
 .refine evL_cell a false (λc=> ?_) (by have:=t.far;omega);obtain c|c:=c
  .have:S a.block:=c
   grind
  .cases c
end
section
variable{Stop:Goroutine->World->Prop}{G T:Nat}
def cN{g}{fn}{pos}:∀op∈Sy g fn pos es,op.g=g:=λop a=>by obtain⟨e,_,rfl⟩:=JW a;rfl
def pp{t}{gs}{q}(h:Leavers P t gs q)(a a')(w')(fn)(pos)(es)(d:0<gs.size):
 Leavers P (t++Sy 0 fn pos es) ((gs.map (woken P a a' w')).setIfInBounds 0 a') q:=by
 refine⟨λi g l e=> ?_,λj k=> ?_⟩
 .rw[sN o_,By]at e;obtain⟨y,f,rfl⟩:=IT.1 e;have c:=h.old i y l f;rw[woken_quitsD c,Deaf_other t o_ _ cN];exact c
 .have b:gs.size<=j:=by simpa using k
  rw[Deaf_other t o_ _ cN];exact h.above j b
def LY{t}{gs}{q}(h:Leavers P t gs q){g'}(d:i<gs.size)(w')(es)(m:QuitsD P k (deafBehind (Deaf t i) es) g'):
 Leavers P (t++Sy i g.frame.fn g.frame.place es) ((gs.map (woken P g g' w')).setIfInBounds i g') (upd q i k):=by
 refine⟨λj x f c=> ?_,λj f=> ?_⟩
 .by_cases a:i=j
  .subst a;rw[AI (by simpa using d)]at c;cases c;rw[upd_same,Deaf_own];exact m
  .rw[sN a,By]at c;obtain⟨y,l,rfl⟩:=IT.1 c;have b:=h.old j y f l;rw[woken_quitsD b,upd_ne q k o_,Deaf_other t a _ cN];exact b
 .have e:gs.size<=j:=by simpa using f
  rw[Deaf_other t o_ _ cN];exact h.above j e
def Cy{t}{gs}{q}(h:Leavers P t gs q){a}(c:gs[0]?=some a)(d:a.status= .running):∀g∈gs,Conc.awake g:=by
 intro g e;obtain⟨i,b,rfl⟩:=Array.mem_iff_getElem.1 e;by_cases f:i=0
 .subst f;rw[Array.getElem?_eq_getElem b]at c;cases c;exact awake_of (.inl d)
 .exact awake_of ((h.old i _ o_ s_).status.elim .inl λx=> .inr (.inr x))
def Ep{c}{t}(h:Quiet c t){g}{fn}{pos}(d:∀e∈es,e.mute=true):Quiet c (t++Sy g fn pos es):=
 h.app λi b x a _=>by obtain⟨e,f,rfl⟩:=JW b;have:=touch_mute (d e f);simp_all
def Lh{S}{B}{a}(z:a.status= .running)(w:World):
 ∀(M:Nat) (gs:Array Goroutine) (h:Nat) (sl:Option (Nat×Nat)) (t:Trace) (q:Nat->Nat),sumTo gs.size q<=M->gs[0]?=some a->Leavers P t gs q->Past (dq S) B t->Quiet (dq S) t->(∀op∈t,op.g<gs.size)->
  (∀c h v d b u K,c[0]?=some a->Leavers P u c K->Past (dq S) B u->Quiet (dq S) u->(∀op∈u,op.g<c.size)->stepT P (crowd c (w.at h) v)=runT P (crowd c (w.at d) b) 0->YV P Post (crowd c (w.at h) v) u)->
  YV P Post (crowd gs (w.at h) sl) t:=by
 intro M;induction M with
 |zero=>
  intro gs h sl t q O o n F E D C;obtain⟨i,g,d,b,s,r,j⟩:=crowd_pick (P:=P) (w:=w.at h) (sl:=sl) (Cy n o z) ⟨0,a,o,z⟩;by_cases m:i=0
  .subst m;exact C gs h sl d b t q o n F E D j
  .exfalso;have p:=n.old i g o_ s;have f:i<gs.size:=(gA s).1;have l:q i=0:=by have Q:sumTo gs.size (upd q i 0)+q i=sumTo gs.size q+0:=sumTo_upd q 0 id f;omega
   rw[l]at p;rw[p.1]at r;cases r
 |succ M L=>
  intro gs h sl t q O o n F E D C;obtain⟨i,g,d,b,s,r,j⟩:=crowd_pick (P:=P) (w:=w.at h) (sl:=sl) (Cy n o z) ⟨0,a,o,z⟩;by_cases m:i=0
  .subst m;exact C gs h sl d b t q o n F E D j
  .have A:0<i:=o_;have p:=n.old i g A s;have f:i<gs.size:=(gA s).1;have H:(i==0)=false:=(by simpa using m);cases l:q i with
   |zero=>rw[l]at p;rw[p.1]at r;cases r
   |succ k=>
    rw[l]at p;rcases p with⟨N,_⟩|⟨_,T,R,J,x,G⟩
    .simp_all
    .have y:=runT_crowd_go (P:=P) (sl:=b) (i:=i) s (by rw[H];exact x ((w.at h).at d));have I:sumTo gs.size (upd q i k)+(k+1)=sumTo gs.size q+k:=by have Q:sumTo gs.size (upd q i k)+q i=sumTo gs.size q+k:=sumTo_upd q k id f;omega
     refine YV.next (j.trans y) ?_;refine L _ d b _ (upd q i k) (by grind) ?_ (LY n f _ R G) (F.mute o_ J) (Ep E J) (λop e=> ?_) C
     .rw[sN o_,By,o];simp[woken_run z]
     .rw[Array.size_setIfInBounds,ZO];rcases JY.1 e with e|e
      .exact D op e
      .exact cN op e▸f
end
structure WV (B:List Frame) (P:Program) (G:Nat) (D0:Nat->Prop) (W:World) (gL:Goroutine) (wL:World) (gs:Array Goroutine) (wM:World) (t:Trace) (D:Nat->Prop) (ρ:Nat->Nat) (S:Nat->Prop) (gM:Goroutine) (q:Nat->Nat):Prop where
 rel:dp G 0 D ρ wL wM
 grel:fc G D ρ B gL gM
 nopan:DJ B
 at0:gs[0]?=some gM
 first:∀b,D0 b->D b/\ρ b=b
 shun:∀b,D b->¬S (ρ b)
 shunLow:∀r,S r->G<=r/\r<wM.heap.size
 past:Past (dq S) wM.heap.size t
 quiet:Quiet (dq S) t
 who:∀op∈t,op.g<gs.size
 tab:mq wL wM
 calm:bE wL
 leave:Leavers P t gs q
 same:wM.os=W.os/\wM.output=W.output/\wM.tape=W.tape
 tabW:wM.heap[fP]?=W.heap[fP]?
end
section
open Go Go.Conc
open Go.ConcN (sumTo upd sumTo_upd upd_ne upd_same CT Apart PermW WgLive)
section
variable{α:Type}{r:α->α->Prop}
def GK(r:α->α->Prop)(n:Nat)(f' f:Nat->α):Prop:=∃i x,i<n/\r x (f i)/\f'=upd f i x
def tY:∀n f,(∀i,i<n->Acc r (f i))->Acc (GK r n) f
 |0,f,_=>⟨_,λf' ⟨i,_,g,_⟩=>o_⟩
 |n+1,f,h=>by
  have j:∀x,Acc r x->∀f,Acc (GK r n) f->f n=x->(∀i,i<n->Acc r (f i))->Acc (GK r (n+1)) f:=by
   intro x s;induction s with
   |intro x _ l=>
    intro f u;induction u with
    |intro f t m=>
     intro q p;refine⟨_,λf' ⟨i,y,g,c,e⟩=> ?_⟩;subst e;by_cases v:i=n
     .subst v;rw[q]at c;have b:∀k,k<i->Acc r (upd f i y k):=λk d=>by rw[upd_ne f y o_];exact p k d
      exact l y c (upd f i y) (tY i _ b) (upd_same f i y) b
     .have o:i<n:=o_;refine m (upd f i y) ⟨i,y,o,c,rfl⟩ (by rw[upd_ne f y o_];exact q) λk d=> ?_;by_cases a:k=i
      .subst a;rw[upd_same];exact(p k d).inv c
      .rw[upd_ne f y a];exact p k d
  exact j (f n) (h n o_) f (tY n f λi g=>h i o_) rfl λi g=>h i o_
end
def im(V RO:Nat->Prop)(e:Event):Prop:=
 match e.loc with
 | .cell a=>e.sync=false/\(V a.block\/(RO a.block/\e.write=false))
 | .obj b=>e.sync=false/\V b
 | .mark m=>fO m=true
 |_=>False
def cG(V:Nat->Prop)(w w':World)(b:Nat):Prop:=V b\/(w.heap.size<=b/\b<w'.heap.size)
structure cQ (V RO:Nat->Prop) (w w':World) (es:Array Event):Prop where
 keep:∀b,b<w.heap.size->¬V b->w'.heap[b]?=w.heap[b]?
 size:w.heap.size<=w'.heap.size
 os:w'.os=w.os
 output:w'.output=w.output
 tape:w'.tape=w.tape
 ev:∀e∈es,im (cG V w w') RO e
structure fo (V:Nat->Prop) (w w₁:World):Prop where
 keep:∀b,V b->w₁.heap[b]?=w.heap[b]?
 size:w.heap.size<=w₁.heap.size
 os:w₁.os=w.os
 output:w₁.output=w.output
 tape:w₁.tape=w.tape
def fo.refl(V)(w):fo V w w:=⟨s_,o_,rfl,rfl,rfl⟩
def fo.trans{c a}(h:fo V w c)(d:fo V c a):fo V w a:=
 ⟨λb e=>(d.keep b e).trans (h.keep b e),yk h.size d.size,d.os.trans h.os,d.output.trans h.output,d.tape.trans h.tape⟩
def fo.at(V)(w)(d):fo V w (w.at d):=⟨λ_ _=>rfl,oS _,rfl,rfl,rfl⟩
def fo.mono{c}{a}(h:fo V w a)(hv:∀b,c b->V b):fo c w a:=⟨λb d=>h.keep b (hv b d),h.size,h.os,h.output,h.tape⟩
section
variable{G T:Nat}
def qD(D:Nat->Prop)(ρ:Nat->Nat)(r:Nat):Prop:=∃b,D b/\ρ b=r
def Ey{D'}{c}{wL' wM'}(h:jz G T D ρ wL wM D' c wL' wM')(j:RO fP)(s:∀e∈es,jm D' c e\/xM e):
 cQ (qD D ρ) RO wM wM' es/\∀r,qD D' c r->cG (qD D ρ) wM wM' r:=by
 have k:∀r,qD D' c r->cG (qD D ρ) wM wM' r:=λr ⟨b,f,e⟩=>by
  obtain d|⟨_,g⟩:=h.new b f
  .exact .inl ⟨b,d,(h.ext b d).2.symm.trans e⟩
  .exact .inr ⟨o_,e▸h.rel.ltM f⟩
 refine⟨⟨λb f p=>h.keep b f λx o e=>p ⟨x,o,e⟩,h.size,h.os,h.output,h.tape,λe q=> ?_⟩,k⟩;obtain d|⟨a,t,rfl⟩:=s e q
 .have⟨i,u,v⟩:=e;cases i with
  |cell a=>
   have⟨g,b,n,l⟩:=d;exact⟨g, .inl (k _ ⟨b,n,l⟩)⟩
  |obj r=>
   have⟨g,b,n,l⟩:=d;exact⟨g,k _ ⟨b,n,l⟩⟩
  |mark m=>exact d
  |output=>exact d.elim
  |goroutines=>exact d.elim
 .exact⟨rfl, .inr ⟨t▸j,rfl⟩⟩
def dp.kept(h:dp G T D ρ wL wM){wM'}(c:fo (qD D ρ) wM wM'):dp G 0 D ρ wL wM':=
 ⟨h.inj,λb d=>let ⟨o,h1,h2,h3⟩:=h.obj b d;⟨o,h1,h2,λa e=>by rw[c.keep _ ⟨b,d,rfl⟩];exact h3 a e⟩,o_,h.glob,⟨h.far.1,h.far.2.1,yk h.far.2.2 c.size⟩,h.out⟩
end
section
variable{Sh:Loc->Prop}{Own Own' Rd Rd':Nat->Loc->Prop}{t:Trace}
def Qf(h:CT Sh Own Rd t j)(n:∀i a,touchAt t i=some a->∀k,Own' k a.loc↔Own k a.loc)(o:∀i a,touchAt t i=some a->∀k,Rd' k a.loc↔Rd k a.loc):CT Sh Own' Rd' t j:=
 {quiet:=h.quiet
  own:=λk d c l f i a b e=>h.own k d c l (by grind) i a b e
  rd:=λk d c l f i a b e g=>h.rd k d c l (by grind) i a b e g
  free:=λl m f i a b e=>h.free l m (λk d c=>⟨λx=>(f k d c).1 (by grind),λx=>(f k d c).2 (by grind)⟩) i a b e
  mine:=λl m f i a b e g=>h.mine l m (λk d c x=>f k d c (by grind)) i a b e g
  nr:=h.nr
  gs:=h.gs}
end
end
section
open Go Go.Conc
open Go.ConcN (sumTo upd sumTo_upd upd_ne upd_same CT Apart PermW WgLive)
open Go.ConcR (KK WgAt stA smA rd wr mk DC0)
abbrev eU:Go.ConcR.Payload:=⟨0⟩
def Vf(P:Program)(ty:TypeId)(Wg:Nat):Goroutine->World->Prop:= @Go.ConcN.AtK1 eU P ty Wg 0 0 0 1
def zW(ty:TypeId)(Wg:Nat):World->World->Prop:= @Go.ConcN.RW eU ty Wg 0 0 0 0
structure bX where
 P:Program
 ty:TypeId
 /-- the group's block;the list's;the type of the list's cells;how many there are;what each is to hold-/
 Wg:Nat
 C:Nat
 ety:TypeId
 n:Nat
 val:Nat->Value
 /-- what nobody writes-/
 RO:Nat->Prop
 /-- whose cell is whose-/
 mine:Nat->Nat->Prop
def bX.list(X:bX)(w:World):Prop:=∃cs,w.heap[X.C]?=some (.cells cs X.ety)/\cs.size=X.n
def bX.at(X:bX)(c:Nat):Addr:=⟨X.C,c,none⟩
structure bY (X:bX) (i:Nat) (V:Nat->Prop) (w w₁:World):Prop where
 own:fo (λb=>V b\/X.RO b) w w₁
 live:WgLive X.ty X.Wg w->WgLive X.ty X.Wg w₁
 list:X.list w->X.list w₁
 cells:∀c,X.mine i c->w₁.cell? (X.at c)=w.cell? (X.at c)
def bY.refl(X)(i)(V)(w):bY X i V w w:=⟨fo.refl _ w,id,id,s_⟩
def bY.trans{X}{b a}(h:bY X i V w b)(d:bY X i V b a):bY X i V w a:=
 ⟨h.own.trans d.own,d.live∘h.live,d.list∘h.list,λc e=>(d.cells c e).trans (h.cells c e)⟩
structure ge where
 V:Nat->Prop
 g:Goroutine
 w:World
def zZ(X:bX)(i:Nat)(x:ge):Prop:=
 x.g.status= .running/\∀w₁,bY X i x.V x.w w₁->(∀c,X.mine i c->w₁.cell? (X.at c)=some (X.val c))/\
  ∃g',stepG X.P false x.g w₁= .go g' w₁ #[mk (.releaseMerge (stA X.Wg))]/\∃m,Goes X.P false (zW X.ty X.Wg) DC0 (Vf X.P X.ty X.Wg) m g' w₁
def lx(X:bX)(i:Nat)(V:Nat->Prop)(w w':World)(es:Array Event):Prop:=
 cQ V X.RO w w' es\/∃c v,X.mine i c/\w'=w.setCell (X.at c) v/\es=#[⟨.cell (X.at c),true,false⟩]
def ge.next(x:ge)(w₁:World)(g':Goroutine)(w':World):ge:=⟨cG x.V w₁ w',g',w'⟩
def bC(X:bX)(i:Nat)(x:ge):Prop:=
 ∀Q:ge->Prop,(∀x,zZ X i x->Q x)->
  (∀x:ge,x.g.status= .running->(∀w₁,bY X i x.V x.w w₁->∃g' w' es,stepG X.P false x.g w₁= .go g' w' es/\lx X i x.V w₁ w' es/\Q (x.next w₁ g' w'))->Q x)->Q x
section
variable{X:bX}{x:ge}
def bC.stop(h:zZ X i x):bC X i x:=λ_ a _=>a x h
def bC.step(e:x.g.status= .running)(h:∀a,bY X i x.V x.w a->∃g' w' es,stepG X.P false x.g a= .go g' w' es/\lx X i x.V a w' es/\bC X i (x.next a g' w')):bC X i x:=
 λQ d c=>c x e λa b=>let ⟨g',w',es,h1,h2,h3⟩:=h a b;⟨g',w',es,h1,h2,h3 Q d c⟩
def bC.cases(h:bC X i x):zZ X i x\/(x.g.status= .running/\∀a,bY X i x.V x.w a->∃g' w' es,stepG X.P false x.g a= .go g' w' es/\lx X i x.V a w' es/\bC X i (x.next a g' w')):=by
 have c:=h (λx=>bC X i x/\(zZ X i x\/(x.g.status= .running/\∀a,bY X i x.V x.w a->∃g' w' es,stepG X.P false x.g a= .go g' w' es/\lx X i x.V a w' es/\bC X i (x.next a g' w'))))
  (λx d=>⟨bC.stop d, .inl d⟩) (λx e g=> ?_)
 .exact c.2
 .have f:∀a,bY X i x.V x.w a->∃g' w' es,stepG X.P false x.g a= .go g' w' es/\lx X i x.V a w' es/\bC X i (x.next a g' w'):=λa b=>
   let ⟨g',w',es,h1,h2,h3⟩:=g a b
   ⟨g',w',es,h1,h2,h3.1⟩
  exact⟨bC.step e f, .inr ⟨e,f⟩⟩
def bC.running(h:bC X i x):x.g.status= .running:=by
 obtain h|h:=h.cases
 .exact h.1
 .exact h.1
def mx(X:bX)(i:Nat)(y x:ge):Prop:=¬zZ X i x/\∃w₁ g' w' es,bY X i x.V x.w w₁/\stepG X.P false x.g w₁= .go g' w' es/\y=x.next w₁ g' w'
def bC.acc(h:bC X i x):Acc (mx X i) x:=by
 refine h (λx=>Acc (mx X i) x) (λx d=>⟨_,λy b=>absurd d b.1⟩) λx _ e=>⟨_,λy b=> ?_⟩;obtain⟨_,a,o,m,p,j,c,rfl⟩:=b
 grind
end
structure ce (X:bX) (V:Nat->Prop) (w w₁:World):Prop where
 own:fo (λb=>V b\/X.RO b) w w₁
 live:WgLive X.ty X.Wg w->WgLive X.ty X.Wg w₁
def ce.refl(X)(V)(w):ce X V w w:=⟨fo.refl _ w,id⟩
def ce.trans{X}{b a}(h:ce X V w b)(c:ce X V b a):ce X V w a:=⟨h.own.trans c.own,c.live∘h.live⟩
def cS(X:bX)(Next:(Nat->Prop)->Goroutine->World->Prop):Nat->(Nat->Prop)->Goroutine->World->Prop
 |0,V,g,w=>∀w₁,ce X V w w₁->Next V g w₁
 |m+1,V,g,w=>(∀w₁,ce X V w w₁->Next V g w₁)\/(g.status= .running/\∀w₁,ce X V w w₁->∃g' w' es,stepG X.P true g w₁= .go g' w' es/\cQ V X.RO w₁ w' es/\cS X Next m (cG V w₁ w') g' w')
section
variable{X:bX}{Next Next':(Nat->Prop)->Goroutine->World->Prop}{w₁:World}
def cS.stop(h:∀a,ce X V w a->Next V g a):cS X Next m V g w:=by
 cases m with
 |zero=>exact h
 |succ m=>exact .inl h
def cS.step(b:g.status= .running)(h:∀a,ce X V w a->∃g' w' es,stepG X.P true g a= .go g' w' es/\cQ V X.RO a w' es/\cS X Next m (cG V a w') g' w'):cS X Next (m+1) V g w:= .inr ⟨b,h⟩
def cS.rely:∀{m:Nat} {V:Nat->Prop} {g:Goroutine} {w c:World},cS X Next m V g w->ce X V w c->cS X Next m V g c
 |0,_,_,_,_,h,hr=>λa b=>h a (hr.trans b)
 |_+1,_,_,_,_,h,hr=>h.elim (λh=> .inl λa b=>h a (hr.trans b)) λ⟨d,h⟩=> .inr ⟨d,λa b=>h a (hr.trans b)⟩
def cS.mono(c:∀V g w,Next V g w->Next' V g w):∀{m:Nat} {V:Nat->Prop} {g:Goroutine} {w:World},cS X Next m V g w->cS X Next' m V g w
 |0,_,_,_,h=>λa b=>c _ _ _ (h a b)
 |_+1,_,_,_,h=>h.elim (λh=> .inl λa b=>c _ _ _ (h a b)) λ⟨d,h⟩=> .inr ⟨d,λa b=>let ⟨g',w',es,h1,h2,h3⟩:=h a b;⟨g',w',es,h1,h2,cS.mono c h3⟩⟩
def cS.running(a:∀V g w,Next V g w->g.status= .running)(h:cS X Next m V g w):g.status= .running:=by
 cases m with
 |zero=>exact a _ _ _ (h w (ce.refl X V w))
 |succ m=>exact h.elim (λh=>a _ _ _ (h w (ce.refl X V w))) λh=>h.1
def cS.trans{c}:∀{m:Nat} {V:Nat->Prop} {g:Goroutine} {w:World},cS X c m V g w->(∀V g w,c V g w->cS X Next k V g w)->cS X Next (m+k) V g w
 |0,V,g,w,h,hM=>by have f:=hM V g w (h w (ce.refl X V w));simp_all
 |m+1,V,g,w,h,hM=>by
  rw[show m+1+k=(m+k)+1 from o_];obtain h|⟨d,h⟩:=h
  .have f:=hM V g w (h w (ce.refl X V w))
   have i:∀{k:Nat} {V:Nat->Prop} {g:Goroutine} {w:World},cS X Next k V g w->∀e,cS X Next (e+k) V g w:=by
    intro k;induction k with
    |zero=>exact λh e=>cS.stop h
    |succ k j=>
     intro V g w h e;rw[show e+(k+1)=(e+k)+1 from o_];exact h.elim .inl λ⟨d,h⟩=> .inr ⟨d,λa b=>let ⟨g',w',es,h1,h2,h3⟩:=h a b;⟨g',w',es,h1,h2,j h3 e⟩⟩
   grind
  .exact .inr ⟨d,λa b=>let ⟨g',w',es,h1,h2,h3⟩:=h a b;⟨g',w',es,h1,h2,cS.trans h3 hM⟩⟩
def eI(V RO)(w):cQ V RO w w #[]:=⟨s_,o_,rfl,rfl,rfl,s_⟩
def cY(V)(w):cG V w w=V:=by
 funext b
 apply propext;exact⟨λh=>h.elim id o_, .inl⟩
def cS.of_goes{c}:∀{m:Nat} {g:Goroutine} {w:World},Goes X.P true (ce X V) DC0 c m g w->cS X (λo g w=>o=V/\c g w) m V g w
 |0,_,_,h=>λa b=>⟨rfl,h a b⟩
 |m+1,g,w,h=>by
  obtain h|⟨i,h⟩:=h
  .exact .inl λa b=>⟨rfl,h a b⟩
  .refine .inr ⟨i,λa b=> ?_⟩;have e:=h a b;cases d:stepG X.P true g a with
   |go n f p=>
    rw[d,goes_go]at e;have⟨⟨l,k⟩,j⟩:=e;subst l k;refine⟨n,f,#[],rfl,eI .., ?_⟩;rw[cY];exact cS.of_goes j
   |_=>rw[d]at e;exact e.elim
end
end
variable{X:bX}
end Go.Proofs.YtkmoglhgkcnalaaGreatDoor
