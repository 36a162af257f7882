/- A part of what the last text imports. -/
import Derived.Conc.Own
import Derived.Below
import Derived.KernelRfl
import Derived.Laws.Sem
import GoSem.Dispatch
import GoSem.Step
import Derived.RunT
import Derived.Conc.Events
import Derived.Fence
import Derived.Conc.Fork
import Derived.CallsIn
import Derived.ProofKit
import Derived.WalkKit
import Derived.WalkSpells
import Derived.WalkLawsBesides
import Derived.Deep.MidRow
import Derived.Deep.OwnRows
set_option maxHeartbeats 16000000
set_option maxRecDepth 100000
open Array renaming getElem?_setIfInBounds_self_of_lt->TF,replicate->TG,getD_eq_getD_getElem?->TO,getElem?_map->TQ,getElem?_push->Uh,mem_append->Ur,all_eq_true'->Uv,append_empty->Uw,mem_of_getElem?->UA,getElem?_modify->UB,getElem?_setIfInBounds->UE,size_map->V1,map_append->V8,toList_map->Vj,size_push->VW,map_congr_left->W6,map_setIfInBounds->Wa,getElem?_mapIdx->Wr,mapM_eq_mapM_toList->Wt,map->Ww,ext->WI,ext_getElem?->WW,getElem_mem->X7,mem_push->Xi,forIn_toList->Xy,map_extract->XG,map_map->XX,range->Y1,map_replicate->Ya,foldl_toList->Yk,mem_replicate->Zu,map_empty->a22,map_push->a3_,mem_map->a45
open Bind renaming bind->a8_
open Bool renaming and_eq_true->IN,false_eq_true->TK,or_eq_true->Ve,not_eq_true'->WA,not_true->WZ,true_or->XL,not_false->Yo,and_true->YF
open ByteArray renaming empty->V7
open Classical renaming byContradiction->V5,choose_spec->Ws,choose->XV
open Except renaming map->Yi,bind->a15,pure->a16
open Function renaming comp_def->VR,comp->a46
open Go.Addr renaming block->Yj
open Go.Builtin renaming firstCells->Vr,len_->Vy,zeroCells->VS,append_->VX,lenOf->WC,copy_->WE,unsafeSliceData_->Xq,min2->XI,max2->XJ,ssaWrapNilChk_->XK,unsafeString_->XQ,holdsCells->Yn,unsafeAdd_->Yr,mayShare->YK,min_->YP,max_->YQ,cap_->ZQ
open Go.Conv renaming runesFrom->WJ,bytesToString->WU,runesToString->WV,floatToFloat->X8,complexToComplex->XS,stringToBytes->Ym,stringToRunes->Yp,unsafePointer->Yq,floatToInt->Z4,seenAt->a19
open Go.Deferred renaming ofValue->UX
open Go.Ending renaming returned->Wx
open Go.Extern renaming findNext->WY,find->Y2
open Go.Extern.AbiNoEscape renaming same->XD
open Go.Extern.BytealgMakeNoZero renaming digits->Vd,makeNoZero->VK
open Go.Frame renaming enter->TJ,round->Vt,finish->VL,eval->Wb,oper?->Xh,raise->a58,todo->a69
open Go.GStep renaming after->TI,go->VP
open Go.Instr renaming loadAt->TN,fieldAt->TS,enterLoop->U3,buildSlice->Uf,field->Ui,build->Uj,alloc->Uo,sliceAt->UF,endLoop->UG,endRound->UI,sliceBounds->UK,takeDeferred->UN,sliceBound->UQ,sureAddr->V2,indexAt->V3,beginRound->Vk,makeInterface->Vm,makeSlice->Vx,slice->VE,yield->VF,storeAt->VH,getLoop->VI,fill->WB,index->Xf,makeFunc->XH,extract->YE,box->Zt
open Go.IntKind renaming i64->U2,u32->UL,u64->UV,wrap_u64->Vz,wrap_u32->VA
open Go.Item renaming code->WK,inRegion->Xr
open Go.Kernel renaming perform->a36
open Go.LoopState renaming busy->a35
open Go.Made renaming infoAt->XC,reckonStruct->ZW,reckon->a59
open Go.Mode renaming atomic->Wy,plain->WT
open Go.Next renaming value->ZF,round->a68
open Go.Obj renaming cells->Xm
open Go.Op renaming equalIn->V6,floatArith->XZ,floatCmp->Yx,stringOp->Zi,complexOp->ZS,twoPlaces->ZT,eqGuardIn->ZU,intArith->a18,intBits->a31,addrMod->a34,intDiv->a49,intCmp->a5_,shift->a57
open Go.Op.Complex renaming corrected->Zj,quotient->Zv,product->ZE,arith->a06,conv->a24,cmp->a33
open Go.Operand renaming const->Xt
open Go.Region renaming wanted->TD
open Go.Result renaming ok->Yf
open Go.RowKit.Below renaming refl->Xd
open Go.Sem renaming runT_eq->U8,run->Ub,bind->Ud,runT->Um,run_bind->Uz,runT_fst->UH,run_bind'->ZB,runT_bind'->a37,store->a48
open Go.Tables renaming info?->a53
open Go.Value renaming cells->XB,pointer->XY,ofBytes->a43
open Go.World renaming cell?->U6,setCell->U9,frozen?->Ux,rangeAt_setCells_apart->V9,farStore->Vf,cell?_alloc_at->Vu,farLoad->Vw,rangeAt_alloc->VD,there_setCells->VQ,freeze->Wz,there_alloc->Xa,viewStore->Xw,viewLoad->Zh,seen->ZD,noCell->a52,ask->a78,sys->a79
open Int renaming natCast_pow->UY
open List renaming map_cons->TP,getElem?_eq_getElem->TX,replicate->TZ,range->U5,getElem?_append_left->Ue,cons_append->UD,set_append_right->Vo,all_cons->VJ,map_append->VM,mem_cons_of_mem->W7,mem_map->Wh,mem_cons_self->Wm,map_nil->Xo,foldlM_cons->XT,map_toArray->XU,all_nil->YR,foldl_cons->Z2,forIn_cons->Z3,all_append->Z5,nil_append->Z6,map->Zg,ext_getElem->a07,mapM_cons->a30,forIn_nil->a32,mapM_nil->a44
open Nat renaming le_refl->TB,lt_of_lt_of_le->TC,zero_add->TL,le_trans->TW,not_lt->Xe,add_zero->XN,add_assoc->YD,add_comm->ZP,le_succ->a17
open Option renaming map_some->TE,getD_some->U0,map_eq_some_iff->U1,bind_some->Ug,bind_eq_some_iff->Uy,isNone_eq_false_iff->Vs,bind_eq_bind->VC,pure_def->Wc,isNone_iff_eq_none->Wu,elim_none->WL,map_none->Xx,map->Yh,isSome_map->ZR,any_some->a23
open Std.Legacy.Range renaming forIn_eq_forIn_range'->Xg
open UInt8 renaming ofNat->Zk
namespace Go
@[match_pattern] abbrev Value.i(n:Int):Value:= .int .i64 n
abbrev Value.pk(b k:Nat):Value:= .pointer (some ⟨b,k,none⟩)
abbrev Value.sk(b n c:Nat):Value:= .slice (some ⟨b,0,none⟩) n c
@[match_pattern] abbrev Value.s(b:ByteArray):Value:= .string b
abbrev World.z(w:World):Nat:=w.heap.size
abbrev World.aC(w:World)(c:Array Value)(t:TypeId):World:=w.alloc (.cells c t)
abbrev _root_.ByteArray.l(b:ByteArray):List UInt8:=b.data.toList
end Go
namespace Go.Value
abbrev pt(b:Nat):Value:= .pk b 0
end Go.Value
namespace Go.Proofs.YtkmoglhgkcnalabGreatDoor
open Go
variable{n b i N l m k j b3 b4 b7 b9 Wg wd:Nat}{w w' w0 wL wM wE:World}{fr:Frame}{v:Value}{cs:List Frame}{args cv:Array Value}{V RO D V0:Nat->Prop}{q main listen ql:Bool}{g:Goroutine}{a:Act}{K:List Item}{P PL PM:Program}{x:Operand}{ops:Array Oper}{KS:List Int}{t u:TypeId}{o:Oper}{f:FuncId}{es:Array Event}{Goal:Goroutine->World->Prop}{fn:Func}{rest:List Nat}{ds:List Deferred}{F:List (Nat×Value)}{e:Event}{listed:Array Bool}{c:Int}{s msg key sig:ByteArray}{ρ:Nat->Nat}{ev:Operand->Value}{Post:Value->World->Prop}
section
open Go.RowKit
abbrev Bw(w w':World):Prop:=Below w.heap.size w w'
theorem k_{p:Prop}(h:p:=by kernel_rfl):p:=h
theorem o_{p:Prop}(h:p:=by omega):p:=h
theorem d_{p:Prop}(h:p:=by decide):p:=h
theorem s_{p:Prop}(h:p:=by simp):p:=h
theorem gA{a:Type}{l:Array a}{v:a}(h:l[i]?=some v):∃h:i<l.size,l[i]=v:=Array.getElem?_eq_some_iff.1 h
theorem mG{a:Type}{l:List a}{v:a}(h:l[i]?=some v):v∈l:=List.mem_of_getElem? h
theorem sN{a:Type}{l:Array a}{v:a}(h:i≠j):(l.setIfInBounds i v)[j]?=l[j]?:=Array.getElem?_setIfInBounds_ne h
theorem bR:Below N w w:=Xd _ _
end
section
open Go
def aX(ρ:Nat->Nat)(a:Addr):Addr:={a with block:=ρ a.block}
def gZ(ρ:Nat->Nat):Fn->Fn
 | .yield l=> .yield (ρ l)
 |f=>f
def aD(ρ:Nat->Nat):Value->Value
 | .pointer a=> .pointer (a.map (aX ρ))
 | .slice a l c=> .slice (a.map (aX ρ)) l c
 | .map r=> .map (r.map ρ)
 | .chan r=> .chan (r.map ρ)
 | .func fn first cap=> .func (gZ ρ fn) (first.map (aD ρ)) (cap.map (aD ρ))
 | .iface t v=> .iface t (aD ρ v)
 | .agg cs=> .agg (cs.map (aD ρ))
 | .tuple vs=> .tuple (vs.map (aD ρ))
 | .bool b=> .bool b
 | .int k n=> .int k n
 | .float k b=> .float k b
 | .complex k a b=> .complex k a b
 | .string s=> .string s
 | .nilFunc=> .nilFunc
 | .nilIface=> .nilIface
def nQ:Fn->Bool
 | .yield _=>false
 |_=>true
mutual
def bQ:Value->Bool
 | .pointer a=>a.isNone
 | .slice a _ _=>a.isNone
 | .map r=>r.isNone
 | .chan r=>r.isNone
 | .func fn ⟨first⟩ ⟨cap⟩=>nQ fn&&ma first&&ma cap
 | .iface _ v=>bQ v
 | .agg ⟨cs⟩=>ma cs
 | .tuple ⟨vs⟩=>ma vs
 | .bool _| .int _ _| .float _ _| .complex _ _ _| .string _| .nilFunc| .nilIface=>true
def ma:List Value->Bool
 |[]=>true
 |v::r=>bQ v&&ma r
end
theorem ik:∀{l:List Value},ma l=true->∀v∈l,bQ v=true
 |[],_,v,h=>by cases h
 |x::r,h,v,hv=>by
  simp only[ma,IN]at h;rcases List.mem_cons.1 hv with rfl|hv
  ·exact h.1
  ·exact ik h.2 v hv
theorem iP{f:Value->Value}{cs:Array Value}(h:∀v∈cs,f v=v):cs.map f=cs:=by
 apply WI
 ·simp
 ·intro i b a;simp[h cs[i] (X7 _)]
theorem rx(a:Nat->Nat){fn:Fn}(h:nQ fn=true):gZ a fn=fn:=by cases fn<;>first|rfl|simp[nQ]at h
theorem dS(i:Nat->Nat):∀v:Value,bQ v=true->aD i v=v:=by
 intro v;induction v using aD.induct with
 |case1 a=>intro h;simp[bQ]at h;subst h;simp[aD]
 |case2 a l c=>intro h;simp[bQ]at h;subst h;simp[aD]
 |case3 r=>intro h;simp[bQ]at h;subst h;simp[aD]
 |case4 r=>intro h;simp[bQ]at h;subst h;simp[aD]
 |case5 m first e g f=>
  intro h;obtain⟨first⟩:=first
  obtain⟨e⟩:=e;simp only[bQ,IN]at h;rw[aD,rx i h.1.1,iP λv b=>g v b (ik h.1.2 v (by simpa using b)),iP λv b=>f v b (ik h.2 v (by simpa using b))]
 |case6 t v d=>intro h;simp[bQ]at h;simp[aD,d h]
 |case7 k d=>
  intro h;obtain⟨k⟩:=k;simp only[bQ]at h;rw[aD,iP λv b=>d v b (ik h v (by simpa using b))]
 |case8 j d=>
  intro h;obtain⟨j⟩:=j;simp only[bQ]at h;rw[aD,iP λv b=>d v b (ik h v (by simpa using b))]
 |_=>intro _;simp[aD]
def KV(ρ:Nat->Nat):Target->Target
 | .fn fn cap=> .fn (gZ ρ fn) (cap.map (aD ρ))
 | .nil=> .nil
 | .builtin b a t c=> .builtin b a t c
 | .collected r=> .collected (ρ r)
 | .coroexit c=> .coroexit (ρ c)
def iN(ρ:Nat->Nat)(d:Deferred):Deferred:=⟨KV ρ d.target,d.args.map (aD ρ)⟩
def sD(ρ:Nat->Nat)(l:Loop):Loop:={l with tmps:=l.tmps.map (aD ρ),defers:=ρ l.defers}
def d7(ρ:Nat->Nat):Obj->Obj
 | .cells c e f=> .cells (c.map (aD ρ)) e f
 | .pending c e=> .pending (c.map (aD ρ)) e
 | .view a t=> .view (aX ρ a) t
 | .number a l=> .number (aX ρ a) l
 | .map es c=> .map (es.map λe=>⟨aD ρ e.key,aD ρ e.val,e.born⟩) c
 | .chan cap buf closed s r t=> .chan cap (buf.map (aD ρ)) closed s r t
 | .stringIter s p=> .stringIter s p
 | .mapIter m a b c=> .mapIter (m.map ρ) a b c
 | .loop l=> .loop (sD ρ l)
 | .deferred ds=> .deferred (ds.map (Zg (iN ρ)))
 | .coro p=> .coro p
 | .finalizers fs r=> .finalizers (fs.map λx=>(ρ x.1,iN ρ x.2)) r
def j1:FuncId:=55
def dx:Tmp:=54
def xA:FuncId:=55
def SZ:List Nat:=[1,4,27,29,34,35,40,41]
def Lv:FuncId:=73
def Lw:FuncId:=43
def fF:FuncId:=58
def dm(f:FuncId):Nat:=if f=j1 then 1 else if f=xA then 2 else if f=Lv\/f=Lw\/f=fF then 3 else 0
def qb(z t:Nat):Bool:=(z==1&&t==dx)||(z==2&&SZ.contains t)
theorem fV:dm j1=1:=by simp[dm]
theorem mj(t:Nat):qb 1 t=(t==dx):=by simp[qb]
theorem Tr(t:Nat):qb 0 t=false:=rfl
theorem DK:dm f=1↔f=j1:=by
 unfold dm;split
 ·simp_all
 ·split
  ·simp_all
  ·split<;>simp_all
def eN:Nat:=0
def oU:TypeId:=64
def lN(x:Nat):Operand->Bool
 | .tmp t=> !(qb x t)
 | .func _=>true
 | .const v=>bQ v
 | .global _=>false
def L3:Builtin->Bool
 | .append| .cap| .copy| .len| .min| .max| .unsafeSliceData| .unsafeString=>true
 |_=>false
def oG(x:Nat)(c:Call):Bool:=
 c.args.all (lN x)&&match c.callee with
  | .builtin b=>L3 b
  | .value f=>lN x f
  | .invoke _ _=>false
def mC(z:Nat):Op->Bool
 | .move x| .assign x| .box _ x| .load _ x| .nilCheck x| .unOp _ _ x| .convert _ _ x| .makeInterface _ x| .fieldAddr _ x _| .field _ x _| .extract x _=>lN z x
 | .alloc _=>true
 | .pick a b c=>lN z a&&lN z b&&lN z c
 | .build _ ps| .buildSlice _ _ ps=>ps.all λx=>lN z x.2
 | .store _ a b| .binOp _ _ a b _| .makeSlice _ a b| .indexAddr _ a b| .index _ a b=>lN z a&&lN z b
 | .makeFunc fn a b=>nQ fn&&a.all (lN z)&&b.all (lN z)
 | .slice _ x l h m=>lN z x&&l.all (lN z)&&h.all (lN z)&&m.all (lN z)
 | .call c=>oG z c
 |_=>false
def AI(z:Nat)(o:Oper):Bool:=
 match o.op with
 | .call c=>z==3&&match c.callee with
   | .builtin .recover=>true
   |_=>false
 |_=>false
def dH(z:Nat)(ops:Array Oper):Bool:=
 match ops.toList with
 |[o,p]=>(z==3||z==0)&&o.guard.isNone&&p.guard.isNone&&p.dst.isNone&&match o.dst,o.op,p.op with
  |some d, .makeInterface _ (.const (.string _)), .panic (.tmp t)=>d==t
  |some d, .makeFunc (.func g) a b, .defer c=>z==3&&g==fF&&a.all (lN z)&&b.all (lN z)&&c.args.isEmpty&&match c.callee with
   | .value (.tmp t)=>d==t
   |_=>false
  |_,_,_=>false
 |_=>false
def y9(z:Nat)(o:Oper):Bool:=
 (mC z o.op&& !(o.dst.any (qb z)))||AI z o||
 (z==1&&match o.op with
   | .indexAddr _ (.global g) i=>g==eN&&lN z i&&o.dst==some dx
   | .load ty (.tmp t)=>ty==oU&&t==dx&&o.dst !=some dx
   |_=>false)
def j3(z:Nat):Code->Bool
 | .skip| .exit _| .label _| .ret| .refuse _=>true
 | .region _ ops q=>ops.all (y9 z)||(!q&&dH z ops)
 | .seq a b=>j3 z a&&j3 z b
 | .cond c a b=>lN z c&&j3 z a&&j3 z b
 | .block _ b| .loop b| .scope b=>j3 z b
 | .rangeFunc f _ a b=>z==0&&lN z f&&j3 z a&&j3 z b
 | .goto _=>false
def oa(f:FuncId)(c:Code):Bool:=j3 (dm f) c&&dm f !=2
theorem Dn{c:Code}(h:oa f c=true):j3 (dm f) c=true:=by simp only[oa,IN]at h;exact h.1
theorem Dm{c:Code}(h:oa f c=true):dm f≠2:=by simp only[oa,IN]at h;simpa using h.2
theorem Oe{c:Code}(h:dm f=0)(a:j3 0 c=true):oa f c=true:=by simp[oa,h,a]
def cN:Obj->Bool
 | .cells _ _ _| .stringIter _ _| .view _ _| .number _ _=>true
 | .deferred ds=>(ds.getD []).isEmpty
 | .loop l=>j3 0 l.assign&&j3 0 l.body&&l.pending.all (j3 0)&&dm l.fn==0
 |_=>false
def fm:Mark->Bool
 | .extern _| .noRoom=>true
 |_=>false
def eO:Halt->Prop
 | .unsupported (.initOrder _)| .panic _=>False
 | .blocked| .waiting| .goexit=>False
 |_=>True
def bE(w:World):Prop:=∀(b:Nat) (o:Obj),w.heap[b]?=some o->cN o=true
inductive aF (ρ:Nat->Nat) (PL PM:Program) {α β:Type} (f:α->β):Sem α->Sem β->Prop
 |pure (a:α):aF ρ PL PM f (.pure a) (.pure (f a))
 |load {a:Addr} {k:Value->Sem α} {k':Value->Sem β} (h:∀v,aF ρ PL PM f (k v) (k' (aD ρ v))):aF ρ PL PM f (.load .plain a k) (.load .plain (aX ρ a) k')
 |store {a:Addr} {v:Value} {k:Sem α} {k':Sem β} (h:aF ρ PL PM f k k'):aF ρ PL PM f (.store .plain a v k) (.store .plain (aX ρ a) (aD ρ v) k')
 |new {o:Obj} {k:Nat->Sem α} {k':Nat->Sem β} (ho:cN o=true) (h:∀b,aF ρ PL PM f (k b) (k' (ρ b))):aF ρ PL PM f (.new o k) (.new (d7 ρ o) k')
 |shape {r:Nat} {k:Option (TypeId×Nat)->Sem α} {k':Option (TypeId×Nat)->Sem β} (h:∀s,aF ρ PL PM f (k s) (k' s)):aF ρ PL PM f (.shape r k) (.shape (ρ r) k')
 |freeze {a:Addr} {n:Nat} {k:Sem α} {k':Sem β} (h:aF ρ PL PM f k k'):aF ρ PL PM f (.freeze a n k) (.freeze (aX ρ a) n k')
 |frozen {a:Addr} {k:Bool->Sem α} {k':Bool->Sem β} (h:∀b,aF ρ PL PM f (k b) (k' b)):aF ρ PL PM f (.frozen a k) (.frozen (aX ρ a) k')
 |getObj {r:Nat} {k:Obj->Sem α} {k':Obj->Sem β} (h:∀o,cN o=true->aF ρ PL PM f (k o) (k' (d7 ρ o))):aF ρ PL PM f (.getObj r k) (.getObj (ρ r) k')
 |setObj {r:Nat} {o:Obj} {k:Sem α} {k':Sem β} (ho:cN o=true) (h:aF ρ PL PM f k k'):aF ρ PL PM f (.setObj r o k) (.setObj (ρ r) (d7 ρ o) k')
 |choose {q:Question} {k:Nat->Sem α} {k':Nat->Sem β} (h:∀n,aF ρ PL PM f (k n) (k' n)):aF ρ PL PM f (.choose q k) (.choose q k')
 |program {k:Program->Sem α} {k':Program->Sem β} (h:aF ρ PL PM f (k PL) (k' PM)):aF ρ PL PM f (.program k) (.program k')
 |mark {m:Mark} {k:Sem α} {k':Sem β} (hm:fm m=true) (h:aF ρ PL PM f k k'):aF ρ PL PM f (.mark m k) (.mark m k')
 |panic {v:Value} (h:bQ v=true):aF ρ PL PM f (.halt (.panic v)) (.halt (.panic v))
 |dead {h:Halt} {s:Sem β} (d:eO h):aF ρ PL PM f (.halt h) s
 |deadMark {m:Mark} {h:Halt} {s:Sem β} (d:eO h):aF ρ PL PM f (.mark m (.halt h)) s
 |sys {c:Sys} {k:SysRet->Sem α} {s:Sem β} (d:∀r w,∃h w',(k r).run PL w= .halt h w'/\eO h/\(bE w->bE w')):aF ρ PL PM f (.sys c k) s
theorem aF.bind{j i e c:Type}{f:j->i}{g:e->c}{s:Sem j}{s':Sem i}{k:j->Sem e}{l:i->Sem c}(h:aF ρ PL PM f s s')(o:∀a,aF ρ PL PM g (k a) (l (f a))):aF ρ PL PM g (s>>=k) (s'>>=l):=by
 show aF ρ PL PM g (s.bind k) (s'.bind l);induction h with
 |pure a=>exact o a
 |load _ b=>exact .load b
 |store _ b=>exact .store (b)
 |new _ _ b=>exact .new ‹_› b
 |shape _ b=>exact .shape b
 |freeze _ b=>exact .freeze (b)
 |frozen _ b=>exact .frozen b
 |getObj _ b=>exact .getObj b
 |setObj _ _ b=>exact .setObj ‹_› b
 |choose _ b=>exact .choose b
 |program _ b=>exact .program (b)
 |mark _ _ b=>exact .mark ‹_› b
 |panic h=>exact .panic h
 |dead d=>exact .dead d
 |deadMark d=>exact .deadMark d
 |sys d=>
  refine .sys λr w=> ?_;obtain⟨x,m,n,p⟩:=d r w;exact⟨x,m,by rw[ZB,n];rfl,p⟩
def aS(G:Nat)(D:Nat->Prop)(ρ ρ':Nat->Nat):Prop:=((∀x y,ρ' x=ρ' y->x=y)/\∀b,b<G↔ρ' b<G)/\∀b,D b->ρ' b=ρ b
structure cI (G T:Nat) (D:Nat->Prop) (ρ:Nat->Nat) (wL wM:World):Prop where
 inj:∀x y,ρ x=ρ y->x=y
 obj:∀b,D b->∃o,wL.heap[b]?=some o/\cN o=true/\∀ρ',aS G D ρ ρ'->wM.heap[ρ b]?=some (d7 ρ' o)
 tape:∀i,wL.drawn+i<T->wM.tape (wM.drawn+i)=wL.tape (wL.drawn+i)
 glob:∀b,b<G↔ρ b<G
 far:2<=G/\G<=wL.heap.size/\G<=wM.heap.size
 out:∀b,D b->G<=b
def kQ(a b v:Nat):Nat:=if v=a then b else if v=b then a else v
theorem qf{a x y:Nat}(h:kQ a b x=kQ a b y):x=y:=by unfold kQ at h;split at h<;>split at h<;>(try split at h)<;>(try split at h)<;>omega
theorem lP(a b:Nat):kQ a b a=b:=by simp[kQ]
theorem sZ{a G:Nat}(h:b<G↔a<G)(v:Nat):v<G↔kQ a b v<G:=by
 unfold kQ;split
 ·subst v;exact h.symm
 ·split
  ·subst v;exact h
  ·exact Iff.rfl
theorem mJ{a v:Nat}(d:v≠a)(c:v≠b):kQ a b v=v:=by simp[kQ,d,c]
section
variable{G T:Nat}
theorem aK{o:Obj}(h:w.heap[b]?=some o):b<w.heap.size:=(gA h).1
theorem cI.self(h:cI G T D ρ wL wM):aS G D ρ ρ:=⟨⟨h.inj,h.glob⟩,λ_ _=>rfl⟩
theorem cI.ltL(h:cI G T D ρ wL wM)(a:D b):b<wL.heap.size:=let ⟨_,h1,_⟩:=h.obj b a;aK h1
theorem cI.ltM(h:cI G T D ρ wL wM)(a:D b):ρ b<wM.heap.size:=let ⟨_,_,_,h1⟩:=h.obj b a;aK (h1 ρ h.self)
theorem cI.dom(h:cI G T D ρ wL wM){x:Nat}(k:∀c,aS G D ρ c->c x=ρ x):D x:=by
 refine V5 λl=> ?_;obtain⟨y,j,f,d⟩:∃y,(wM.heap.size<=y\/y<G)/\y≠ρ x/\(y<G↔ρ x<G):=by
  have:=h.far;by_cases n:ρ x<G
  ·by_cases i:ρ x=0
   ·exact⟨1,o_,o_,o_⟩
   ·exact⟨0,o_,o_,o_⟩
  ·by_cases i:ρ x=wM.heap.size
   ·exact⟨wM.heap.size+1,o_,o_,o_⟩
   ·exact⟨wM.heap.size,o_,λe=>i e.symm,o_⟩
 have m:aS G D ρ (λz=>kQ (ρ x) y (ρ z)):=by refine⟨⟨λa b e=>h.inj _ _ (qf e),λb=>(h.glob b).trans (sZ d _)⟩,λb g=>mJ (λe=>l (h.inj _ _ e▸g)) ?_⟩;have n:=h.ltM g;have p:=h.out b g;have o:=h.glob b;omega
 have:=k _ m;rw[lP]at this;exact f this
theorem cI.fresh(h:cI G T D ρ wL wM):∃a:Nat->Nat,((∀x y,a x=a y->x=y)/\∀b,b<G↔a b<G)/\a wL.heap.size=wM.heap.size/\∀b,D b->a b=ρ b:=
 ⟨λz=>kQ (ρ wL.heap.size) wM.heap.size (ρ z),⟨λ_ _ e=>h.inj _ _ (qf e),λb=>(h.glob b).trans (sZ (by have:=h.far;have:=h.glob wL.heap.size;omega) _)⟩,lP _ _,λb c=>mJ (λe=>by have:=h.inj _ _ e;have:=h.ltL c;omega) (by have:=h.ltM c;omega)⟩
end
structure i8 (G T:Nat) (D:Nat->Prop) (ρ:Nat->Nat) (wL wM:World) (D':Nat->Prop) (ρ':Nat->Nat) (wL' wM':World):Prop where
 rel:cI G T D' ρ' wL' wM'
 ext:∀b,D b->D' b/\ρ' b=ρ b
 new:∀b,D' b->D b\/(wL.heap.size<=b/\wM.heap.size<=ρ' b)
 size:wM.heap.size<=wM'.heap.size
 sizeL:wL.heap.size<=wL'.heap.size
 keep:∀r,r<wM.heap.size->(∀b,D b->ρ b≠r)->wM'.heap[r]?=wM.heap[r]?
 os:wM'.os=wM.os
 output:wM'.output=wM.output
 tape:wM'.tape=wM.tape
 tapeL:wL'.tape=wL.tape
 keepL:∀r,r<wL.heap.size->¬D r->wL'.heap[r]?=wL.heap[r]?
 newL:∀r,wL.heap.size<=r->r<wL'.heap.size->D' r
 drawn:wL.drawn<=wL'.drawn
 drew:wM'.drawn+wL.drawn=wL'.drawn+wM.drawn
theorem i8.refl{G T:Nat}{a:Nat->Nat}{wL b:World}(h:cI G T D a wL b):i8 G T D a wL b D a wL b:=
 ⟨h,λ_ c=>⟨c,rfl⟩,λ_ c=> .inl c,TB _,TB _,λ_ _ _=>rfl,rfl,rfl,rfl,rfl,λ_ _ _=>rfl,λ_ e d=>o_,TB _,ZP _ _⟩
theorem i8.trans{G T:Nat}{s q:Nat->Prop}{o j i:Nat->Nat}{wL p d k wL2 wM2:World}(h:i8 G T D o wL p s j d k)(a:i8 G T s j d k q i wL2 wM2):i8 G T D o wL p q i wL2 wM2:=by
 refine⟨a.rel,λb e=> ?_,λb e=> ?_,TW h.size a.size,TW h.sizeL a.sizeL,λr l m=> ?_,a.os.trans h.os,a.output.trans h.output,a.tape.trans h.tape,a.tapeL.trans h.tapeL,λr l m=> ?_,λr c g=> ?_,TW h.drawn a.drawn,by have:=h.drew;have:=a.drew;omega⟩
 ·obtain⟨c,g⟩:=h.ext b e;obtain⟨f,n⟩:=a.ext b c;exact⟨f,n.trans g⟩
 ·rcases a.new b e with c|⟨c,g⟩
  ·rcases h.new b c with f|⟨f,n⟩
   ·exact .inl f
   ·exact .inr ⟨f,by rw[(a.ext b c).2];exact n⟩
  ·exact .inr ⟨TW h.sizeL c,TW h.size g⟩
 ·rw[a.keep r (TC l h.size) λb e=> ?_,h.keep r l m];rcases h.new b e with c|⟨_,g⟩
  ·rw[(h.ext b c).2];exact m b c
  ·omega
 ·rw[a.keepL r (TC l h.sizeL) λe=> ?_,h.keepL r l m];rcases h.new r e with c|⟨c,_⟩
  ·exact m c
  ·omega
 ·by_cases f:r<d.heap.size
  ·exact(a.ext r (h.newL r c f)).1
  ·exact a.newL r o_ g
def iw(D:Nat->Prop)(ρ:Nat->Nat)(e:Event):Prop:=
 match e.loc with
 | .cell a=>e.sync=false/\∃b,D b/\ρ b=a.block
 | .obj r=>e.sync=false/\∃b,D b/\ρ b=r
 | .mark m=>fm m=true
 |_=>False
theorem iw.mono{D':Nat->Prop}{d a:Nat->Nat}(h:iw D d e)(f:∀b,D b->D' b/\a b=d b):iw D' a e:=by
 obtain⟨c,k,l⟩:=e;cases c<;>simp only[iw]at h⊢<;>first
  |exact h
  |(obtain⟨j,b,g,i⟩:=h;exact⟨j,b,(f b g).1,(f b g).2.trans i⟩)
inductive AE (G:Nat) {α β:Type} (F:(Nat->Nat)->α->β) (D:Nat->Prop) (ρ:Nat->Nat):Result α->World->Result β->World->Prop
 |ok {a:α} {a':β} {wL wM:World} (h:∀ρ',aS G D ρ ρ'->a'=F ρ' a):AE G F D ρ (.ok a wL) wL (.ok a' wM) wM
 |panic {v:Value} {wL wM:World} (h:bQ v=true):AE G F D ρ (.halt (.panic v) wL) wL (.halt (.panic v) wM) wM
def CE{α:Type}:Result α->World->Prop
 | .ok _ w,w'| .halt (.panic _) w,w'=>w'=w
 |_,_=>False
def pE:Value->Bool
 | .agg _| .tuple _=>false
 |_=>true
theorem zf(a:Nat->Nat)(v:Value):pE (aD a v)=pE v:=by cases v<;>simp[aD,pE]
section
variable{α β:Type}{p:Program}
theorem gE{m:Mode}{a:Addr}{k:Sem α}(hv:pE v=false):∃b,(a48 m a v k).run p w= .halt (.stuck b) w:=by cases v<;>simp[pE]at hv<;>exact⟨_,rfl⟩
theorem fX{m:Mode}{a:Addr}{k:Sem α}(hv:pE v=true):(a48 m a v k).run p w=match w.cell? a with
 |some _=>if w.frozen? a then .halt (.unsupported (.unsafePointer "a write to bytes that a string shares")) w else k.run p (w.setCell a v)
 |none=>match w.farStore p a v (m== .atomic)with
  | .ok (w,_)=>k.run p w
  | .error h=> .halt h w:=by cases v<;>simp[pE]at hv<;>rfl
theorem mR{m:Mode}{a:Addr}{k:Sem α}(hv:pE v=true):(a48 m a v k).runT p w es=match w.cell? a with
 |some _=>if w.frozen? a then(.halt (.unsupported (.unsafePointer "a write to bytes that a string shares")) w,es)else k.runT p (w.setCell a v) (es.push ⟨.cell a,true,m== .atomic⟩)
 |none=>match w.farStore p a v (m== .atomic)with
  | .ok (w,touched)=>k.runT p w (es++touched.toArray.map (⟨.cell ·,true,m== .atomic⟩))
  | .error h=>(.halt h w,es):=by cases v<;>simp[pE]at hv<;>rfl
end
section
variable{G T:Nat}
theorem DU{a:Addr}(h:w.cell? a=some v):∃c e f,w.heap[a.block]?=some (.cells c e f)/\a.spot=none/\c[a.off]?=some v:=by
 unfold U6 at h;split at h
 ·rename_i c e f g;split at h
  ·cases h
  ·rename_i b;exact⟨c,e,f,g,by cases d:a.spot with|none=>rfl|some _=>simp[d]at b,h⟩
 ·cases h
theorem DV{a:Addr}{c:Array Value}{e:TypeId}{f:Nat×Nat}(h:w.heap[a.block]?=some (.cells c e f))(b:a.spot=none):w.cell? a=c[a.off]?:=by unfold U6;simp[h,b]
theorem wh(a:Nat->Nat)(v:Value):(aD a v).bytes?=v.bytes?:=by cases v<;>simp[aD,Value.bytes?]
theorem zg(a:Nat->Nat)(v:Value)(bs:List UInt8):(aD a v).ofBytes bs=v.ofBytes bs:=by cases v<;>simp[aD,a43]
theorem od{u:Value}{bs:List UInt8}(h:v.ofBytes bs=some u):∀a,aD a u=u:=by
 intro a;unfold a43 at h;split at h
 ·split at h<;>first|(cases h;simp[aD];done)|cases h
 ·split at h
  ·cases h;simp[aD]
  ·cases h
 ·split at h
  ·cases h;simp[aD]
  ·cases h
 ·split at h
  ·cases h;simp[aD]
  ·cases h
 ·cases h
theorem nZ(p:Program)(b:Nat->Nat)(c:Array Value)(e:TypeId):∀f x a,seenCells p (c.map (aD b)) e f x a=seenCells p c e f x a
 |0,_,_=>rfl
 |f+1,x,a=>by
  unfold seenCells;simp only[TQ,nZ p b c e f];split
  ·rfl
  split
  ·rfl
  split
  ·rfl
  rename_i i s _;cases c[i]? with
  |none=>rfl
  |some v=>simp only[TE,wh]
theorem yA(p:Program)(g:Nat->Nat){a:Addr}{k:Addr}{b:Bool}{c:Array Value}{e:TypeId}{fr:Nat×Nat}(h:w.heap[a.block]?=some (.cells c e fr))(o:w'.heap[g a.block]?=some (.cells (c.map (aD g)) e fr)):
 w'.seen p (aX g a) u (aX g k) b=(w.seen p a u k b).map λx=>(x.1.map (aD g),x.2):=by
 unfold ZD;simp only[aX,h,o,nZ];by_cases n:(k.spot.isSome||a.spot.isSome)=true
 ·rw[if_pos n,if_pos n];rfl
 rw[if_neg n,if_neg n];cases plainCell p p.depth u k.off with
 |none=>rfl
 |some j=>
  dsimp only;cases Yh (λx=>x.length) j.bytes? with
  |none=>rfl
  |some d=>
   dsimp only;cases byteOfCell p p.depth u k.off with
   |none=>rfl
   |some i=>
    dsimp only;by_cases m:p.cellsOf e=0
    ·rw[if_pos m,if_pos m];rfl
    rw[if_neg m,if_neg m];cases byteOfCell p p.depth e (a.off%p.cellsOf e)with
    |none=>rfl
    |some l=>
     dsimp only;cases seenCells p c e (d+1) (a.off/p.cellsOf e*p.bytesOf e+l+i) (a.off/p.cellsOf e*p.bytesOf e+l+i+d)with
     |error x=>rfl
     |ok f=>
      cases b with
      |false=>rfl
      |true=>
       match f with
       |[]=>rfl
       |[(_,s,bs)]=>
        show(if (decide (s≠a.off/p.cellsOf e*p.bytesOf e+l+i)||decide (bs.length≠d))=true then _ else _)=Yi _ (if (decide (s≠a.off/p.cellsOf e*p.bytesOf e+l+i)||decide (bs.length≠d))=true then _ else _);generalize (decide (s≠a.off/p.cellsOf e*p.bytesOf e+l+i)||decide (bs.length≠d))=q;cases q<;>rfl
       |_::_::_=>rfl
theorem lU{p:Program}{d:Addr}{k:Addr}{b:Bool}{y:Array Value×TypeId×(Nat×Nat)×Nat×Value×List (Nat×Nat×List UInt8)}(a:w.seen p d u k b= .ok y):∃c e f,w.heap[d.block]?=some (.cells c e f):=by
 refine V5 λq=> ?_;unfold ZD at a;by_cases j:(k.spot.isSome||d.spot.isSome)=true
 ·rw[if_pos j]at a;cases a
 rw[if_neg j]at a;cases n:plainCell p p.depth u k.off with
 |none=>rw[n]at a;cases a
 |some g=>
  simp only[n]at a;cases m:Yh (λx=>x.length) g.bytes? with
  |none=>simp only[m]at a;cases a
  |some i=>
   simp only[m]at a;cases l:byteOfCell p p.depth u k.off with
   |none=>simp only[l]at a;cases a
   |some r=>
    simp only[l]at a;cases h:w.heap[d.block]? with
    |none=>simp only[h]at a;cases a
    |some o=>
     cases o<;>first|exact q ⟨_,_,_,h⟩|(simp only[h]at a;cases a)
theorem wG(p:Program)(g:Nat->Nat){a:Addr}{k:Addr}{b:Bool}{c:Array Value}{e:TypeId}{fr:Nat×Nat}(h:w.heap[a.block]?=some (.cells c e fr))(o:w'.heap[g a.block]?=some (.cells (c.map (aD g)) e fr)){j:List Addr}(hv:w.viewLoad p a u k b= .ok (v,j)):
 w'.viewLoad p (aX g a) u (aX g k) b= .ok (v,j.map (aX g))/\(∀i,aD i v=v)/\∀x∈j,x.block=a.block:=by
 unfold Zh at hv⊢;rw[yA p g h o];cases m:w.seen p a u k b with
 |error x=>rw[m]at hv;cases hv
 |ok y=>
  obtain⟨t,s,q,first,d,f⟩:=y;rw[m]at hv;simp only[Yi,bind,a15]at hv⊢;cases l:d.ofBytes (f.flatMap λx=>(x.2.2.drop (first- x.2.1)).take (first+((d.bytes?.map (·.length)).getD 0)- max first x.2.1))with
  |none=>simp only[l]at hv;cases hv
  |some r=>
   simp only[l]at hv⊢;cases hv;refine⟨?_,od l,λx n=> ?_⟩
   ·simp[aX,pure,a16,VR]
   ·obtain⟨y,_,rfl⟩:=Wh.1 n;rfl
theorem vX{b:Type}(a:Nat->Nat)(g:Array Value->b->Except String (Array Value))(d:∀c x,g (c.map (aD a)) x=(g c x).map (Ww (aD a))):∀(xs:List b) (c:Array Value),xs.foldlM g (c.map (aD a))=(xs.foldlM g c).map (Ww (aD a))
 |[],_=>rfl
 |x::xs,c=>by
  rw[XT,XT,d];cases g c x with
  |error y=>rfl
  |ok e=>exact vX a g d xs e
theorem iy(p:Program)(ρ:Nat->Nat){at_:Addr}{k:Addr}{b:Bool}{c:Array Value}{e:TypeId}{fr:Nat×Nat}(h:w.heap[at_.block]?=some (.cells c e fr))(h':w'.heap[ρ at_.block]?=some (.cells (c.map (aD ρ)) e fr)){w1:World}{tc:List Addr}(hv:w.viewStore p at_ u k v b= .ok (w1,tc)):
 ∃c1,w1={w with heap:=w.heap.setIfInBounds at_.block (.cells c1 e fr)}/\w'.viewStore p (aX ρ at_) u (aX ρ k) (aD ρ v) b= .ok ({w' with heap:=w'.heap.setIfInBounds (ρ at_.block) (.cells (c1.map (aD ρ)) e fr)},tc.map (aX ρ))/\∀x∈tc,x.block=at_.block:=by
 have hce:∀y,w.seen p at_ u k b= .ok y->y.1=c/\y.2.1=e/\y.2.2.1=fr:=by
  intro y hy;unfold ZD at hy;simp only[h]at hy;by_cases hk:(k.spot.isSome||at_.spot.isSome)=true
  ·rw[if_pos hk]at hy;cases hy
  rw[if_neg hk]at hy;cases h1:plainCell p p.depth u k.off with
  |none=>rw[h1]at hy;cases hy
  |some like=>
   simp only[h1]at hy;cases h2:Yh (λx=>x.length) like.bytes? with
   |none=>simp only[h2]at hy;cases hy
   |some size=>
    simp only[h2]at hy;cases h3:byteOfCell p p.depth u k.off with
    |none=>simp only[h3]at hy;cases hy
    |some β=>
     simp only[h3]at hy;by_cases hs:p.cellsOf e=0
     ·rw[if_pos hs]at hy;cases hy
     rw[if_neg hs]at hy;cases h4:byteOfCell p p.depth e (at_.off%p.cellsOf e)with
     |none=>simp only[h4]at hy;cases hy
     |some b0=>
      simp only[h4]at hy;cases h5:seenCells p c e (size+1) (at_.off/p.cellsOf e*p.bytesOf e+b0+β) (at_.off/p.cellsOf e*p.bytesOf e+b0+β+size)with
      |error x=>simp only[h5]at hy;cases hy
      |ok cells=>
       simp only[h5]at hy;cases b with
       |false=>cases hy;exact⟨rfl,rfl,rfl⟩
       |true=>
        match cells,hy with
        |[],hy=>cases hy
        |[(_,s,bs)],hy=>
         dsimp only[bind,a15]at hy;rw[if_pos rfl]at hy;split at hy
         ·cases hy
         ·cases hy;exact⟨rfl,rfl,rfl⟩
        |_::_::_,hy=>cases hy
 unfold Xw at hv⊢;rw[yA p ρ h h',wh];by_cases ht:(!tight p p.depth u)=true
 ·rw[if_pos ht]at hv;cases hv
 rw[if_neg ht]at hv⊢;cases hq:w.seen p at_ u k b with
 |error x=>rw[hq]at hv;cases hv
 |ok y=>
  obtain⟨h1,h2,h3⟩:=hce y hq;obtain⟨c1,e1,fr1,first,like,cells⟩:=y;dsimp only at h1 h2 h3;subst h1 h2 h3;rw[hq]at hv;simp only[Yi,bind,a15]at hv⊢;cases hb:v.bytes? with
  |none=>simp only[hb]at hv;cases hv
  |some bytes=>
   simp only[hb]at hv⊢;by_cases hn:some bytes.length≠Yh (λx=>x.length) like.bytes?
   ·rw[if_pos hn]at hv;cases hv
   rw[if_neg hn]at hv⊢;rw[vX ρ]
   ·generalize (List.foldlM (m:=Except String) _ c1 cells)=q at hv⊢;cases q with
    |error x=>cases hv
    |ok c2=>
     cases hv;refine⟨c2,rfl, ?_,λx hx=> ?_⟩
     ·simp[aX,pure,a16,Yi,VR]
     ·obtain⟨y,_,rfl⟩:=Wh.1 hx;rfl
   ·intro c x;by_cases h1:(decide (x.2.1<first)||decide (x.2.1+x.2.2.length>first+bytes.length))=true
    ·rw[if_pos h1,if_pos h1];rfl
    rw[if_neg h1,if_neg h1];by_cases h2:(decide (fr1.1<=x.1)&&decide (x.1<fr1.2))=true
    ·rw[if_pos h2,if_pos h2];rfl
    rw[if_neg h2,if_neg h2,TQ];cases c[x.1]? with
    |none=>rfl
    |some old=>
     simp only[TE,zg];cases ho:old.ofBytes (List.take x.2.2.length (List.drop (x.2.1- first) bytes))with
     |none=>rfl
     |some new=>
      simp[pure,a16,Yi,Wa,od ho ρ]
theorem cI.turn(h:cI G T D ρ wL wM)(d:D b){wL' wM':World}{o o':Obj}(A:cN o=true)(B:∀a,aS G D ρ a->o'=d7 a o)
 (F:wL'.heap[b]?=some o) (E:wM'.heap[ρ b]?=some o') (q:∀k,k≠b->wL'.heap[k]?=wL.heap[k]?) (p:∀k,k≠ρ b->wM'.heap[k]?=wM.heap[k]?)
 (w:wL'.heap.size=wL.heap.size) (v:wM'.heap.size=wM.heap.size) (n:wL'.tape=wL.tape) (m:wM'.tape=wM.tape) (u:wL'.drawn=wL.drawn) (I:wM'.drawn=wM.drawn) (g:wM'.os=wM.os) (f:wM'.output=wM.output):
 i8 G T D ρ wL wM D ρ wL' wM':=by
 refine⟨⟨h.inj,λx z=> ?_,λi C=>by rw[n,m,u,I];exact h.tape i (by rw[←u];exact C),h.glob,by rw[w,v];exact h.far,h.out⟩,λ_ d=>⟨d,rfl⟩,λ_ d=> .inl d,o_,o_,λr _ j=>p r λe=>j b d e.symm,g,f,m,n,λr _ j=>q r λe=>j (e▸d),λr t s=>o_,o_,o_⟩;by_cases c:x=b
 ·subst c;exact⟨o,F,A,λa l=>by rw[E,B a l]⟩
 ·obtain⟨y,t,s,H⟩:=h.obj x z;exact⟨y,by rw[q x c];exact t,s,λa l=>by rw[p _ λe=>c (h.inj _ _ e)];exact H a l⟩
theorem cI.viewDom(h:cI G T D ρ wL wM)(f:D b){a:Addr}(g:wL.heap[b]?=some (.view a u)):D a.block:=by obtain⟨o,e,_,d⟩:=h.obj b f;rw[g]at e;cases e;refine h.dom λc i=> ?_;have:=(d c i).symm.trans (d ρ h.self);simp only[d7,Option.some.injEq,Obj.view.injEq,and_true]at this;exact congrArg Yj this
theorem uJ(h:cI G T D ρ wL wM){p:Program}{a:Addr}{k:Bool}(t:D a.block){m:List Addr}(hv:wL.farLoad p a k= .ok (v,m)):
 wM.cell? (aX ρ a)=none/\wM.farLoad p (aX ρ a) k= .ok (v,m.map (aX ρ))/\(∀l,aD l v=v)/\∀x∈m,D x.block:=by
 obtain⟨o,w,C,E⟩:=h.obj _ t;have g:=E ρ h.self;unfold Vw at hv⊢;cases o<;>simp[cN]at C<;>simp only[w]at hv<;>first|(cases hv;done)|skip
 rename_i b u;have r:=h.viewDom t w;cases d:wL.viewLoad p b u a k with
 |error x=>rw[d]at hv;cases hv
 |ok y=>
  rw[d]at hv;cases hv;obtain⟨J,i,B,n⟩:=h.obj _ r;obtain⟨c,e,f,s⟩:∃c e f,wL.heap[b.block]?=some (.cells c e f):=by
   unfold Zh at d;cases q:wL.seen p b u a k with
   |error x=>rw[q]at d;cases d
   |ok z=>exact lU q
  rw[i]at s;cases s;obtain⟨I,H,F⟩:=wG p ρ i (n ρ h.self) d;refine⟨?_, ?_,H,λx A=>by rw[F x A];exact r⟩
  ·unfold U6;simp only[aX,g,d7]
  ·simp only[aX,g,d7];have j:=I;simp only[aX]at j;rw[j]
theorem tX(h:cI G T D ρ wL wM){p:Program}{a:Addr}{bb:Bool}(hb:D a.block){w1:World}{tc:List Addr}(hsame:∀ρ',aS G D ρ ρ'->aD ρ' v=aD ρ v)(hv:wL.farStore p a v bb= .ok (w1,tc)):
 ∃wM1,wM.cell? (aX ρ a)=none/\wM.farStore p (aX ρ a) (aD ρ v) bb= .ok (wM1,tc.map (aX ρ))/\i8 G T D ρ wL wM D ρ w1 wM1/\∀x∈tc,D x.block:=by
 obtain⟨o,hL,hq,hM⟩:=h.obj _ hb;have hM0:=hM ρ h.self;unfold Vf at hv⊢;cases o<;>simp[cN]at hq<;>simp only[hL]at hv<;>first|(cases hv;done)|skip
 rename_i at_ u;have hd:=h.viewDom hb hL;cases hl:wL.viewStore p at_ u a v bb with
 |error x=>rw[hl]at hv;cases hv
 |ok y=>
  rw[hl]at hv;cases hv;obtain⟨o2,hL2,hq2,hM2⟩:=h.obj _ hd;obtain⟨c,e,f,hc⟩:∃c e f,wL.heap[at_.block]?=some (.cells c e f):=by
   unfold Xw at hl;by_cases ht:(!tight p p.depth u)=true
   ·rw[if_pos ht]at hl;cases hl
   rw[if_neg ht]at hl;cases hs:wL.seen p at_ u a bb with
   |error x=>rw[hs]at hl;cases hl
   |ok z=>exact lU hs
  rw[hL2]at hc;cases hc;obtain⟨c1,rfl,h1,h3⟩:=iy p ρ hL2 (hM2 ρ h.self) hl;refine⟨{wM with heap:=wM.heap.setIfInBounds (ρ at_.block) (.cells (c1.map (aD ρ)) e f)}, ?_, ?_,h.turn hd (o:= .cells c1 e f) (o':= .cells (c1.map (aD ρ)) e f) rfl (λρ' hA=> ?_) ?_ ?_ (λk hk=> ?_) (λk hk=> ?_) s_ s_ rfl rfl rfl rfl rfl rfl,λx hx=>by rw[h3 x hx];exact hd⟩
  ·unfold U6;simp only[aX,hM0,d7]
  ·simp only[aX,hM0,d7];have h1':=h1;simp only[aX]at h1';rw[h1']
  ·obtain⟨c1',he,h1'',_⟩:=iy p ρ' hL2 (w':=wM) (by rw[hA.2 _ hd];exact hM2 ρ' hA) hl;have e1:aX ρ' at_=aX ρ at_:=(by simp[aX,hA.2 _ hd]);have e2:aX ρ' a=aX ρ a:=(by simp[aX,hA.2 _ hb]);rw[e1,e2,hsame ρ' hA,h1,hA.2 _ hd]at h1'';have hlt:=aK (hM2 ρ h.self);have ec:c1'=c1:=by have h5:=congrArg (λw:World=>w.heap[at_.block]?) he;simp only[TF (aK hL2),Option.some.injEq,Xm.injEq,and_true]at h5;exact h5.symm
   subst ec;simp only[Except.ok.injEq,Prod.mk.injEq,World.mk.injEq,and_true]at h1'';have h6:=congrArg (λhp:Array Obj=>hp[ρ at_.block]?) h1''.1;simp only[TF hlt,Option.some.injEq]at h6;exact h6
  ·simp[aK hL2]
  ·simp[aK (hM2 ρ h.self)]
  ·rw[UE,if_neg (λe=>hk e.symm)]
  ·rw[UE,if_neg (λe=>hk e.symm)]
theorem aS.of_ran{D':Nat->Prop}{a c:Nat->Nat}{wL' wM':World}(h:i8 G T D ρ wL wM D' a wL' wM')(e:aS G D' a c):aS G D ρ c:=
 ⟨e.1,λb d=>(e.2 b (h.ext b d).1).trans (h.ext b d).2⟩
end
section
variable{α β:Type}
theorem ky{xs:Array Obj}{f:Obj->Obj}(h:k≠i):(xs.modify i f)[k]?=xs[k]?:=by rw[UB,if_neg (λe=>h e.symm)]
theorem tl{xs:Array Obj}{o:Obj}(h:k≠i):(xs.setIfInBounds i o)[k]?=xs[k]?:=by rw[UE,if_neg (λe=>h e.symm)]
theorem qw(a:Nat->Nat)(o:Obj):cN (d7 a o)=cN o:=by
 cases o with
 |deferred b=>rcases b with _|_|⟨_,_⟩<;>rfl
 |_=>rfl
theorem tI{o:Obj}(h:cN o=true):o.isChan=false:=by cases o<;>simp[cN]at h<;>rfl
theorem dF{F:(Nat->Nat)->α->β}{G T:Nat}{j:Nat->Prop}{d:Nat->Nat}{g c:World}(m:i8 G T D ρ wL wM j d g c){s' s1:Sem β}{es1:Array Event}{r:Result α}{wL':World}
 (l:s'.runT PM wM es=s1.runT PM c (es++es1)) (n:∀e∈es1,iw j d e)
 (h:∃D' a f wM' b,s1.runT PM c (es++es1)=(f,es++es1++b)/\AE G F D' a r wL' f wM'/\i8 G T j d g c D' a wL' wM'/\∀e∈b,iw D' a e):
 ∃D' a f wM' b,s'.runT PM wM es=(f,es++b)/\AE G F D' a r wL' f wM'/\i8 G T D ρ wL wM D' a wL' wM'/\∀e∈b,iw D' a e:=by
 obtain⟨D',a,f,wM',b,q,p,k,o⟩:=h;refine⟨D',a,f,wM',es1++b,by rw[l,q,Array.append_assoc],p,m.trans k,λe i=> ?_⟩;rcases Ur.1 i with i|i
 ·exact(n e i).mono k.ext
 ·exact o e i
theorem qI{x:Halt}(h:∀v,x≠ .panic v)(a:CE (α:=α) (.halt x w) w'):False:=by cases x<;>first|exact a|exact h _ rfl
theorem ka{x:Halt}(h:eO x)(a:CE (α:=α) (.halt x w) w'):False:=qI (λv e=>by rw[e]at h;exact h) a
theorem vK(w:World)(a:Addr)(b:String)(v:Value):w.noCell a b≠ .panic v:=by unfold a52;split<;>simp
theorem oN{p:Program}{a:Addr}{b:Bool}{x:Halt}(e:w.farLoad p a b= .error x)(v:Value):x≠ .panic v:=by
 unfold Vw at e;split at e
 ·split at e<;>cases e;simp
 ·cases e;exact vK _ _ _ v
theorem zK{p:Program}{a:Addr}{b:Bool}{x:Halt}(e:w.farStore p a v b= .error x)(u:Value):x≠ .panic u:=by
 unfold Vf at e;split at e
 ·split at e<;>cases e;simp
 ·cases e;exact vK _ _ _ u
theorem IE{b:Nat->Nat}{c:List Addr}{f:Bool}(h:∀x∈c,D x.block):∀e∈(c.map (aX b)).toArray.map (λa=>(⟨.cell a,f,false⟩:Event)),iw D b e:=by intro e d;simp only[XU,List.mem_toArray,Wh]at d;obtain⟨a,⟨x,g,rfl⟩,rfl⟩:=d;exact⟨rfl,x.block,h x g,rfl⟩
theorem dO(hV:∀w a b,Vw PM w a b=Vw PL w a b)(hS:∀w a v b,Vf PM w a v b=Vf PL w a v b){G T:Nat}(F:(Nat->Nat)->α->β):∀(s:Sem α) (s':Sem β) (D:Nat->Prop) (l:Nat->Nat) (wL C:World),cI G T D l wL C->(∀g,aS G D l g->aF g PL PM (F g) s s')->
 ∀(es:Array Event) (r:Result α) (wL':World),s.run PL wL=r->CE r wL'->wL'.drawn<=T->
  ∃D' g r' wM' a8,s'.runT PM C es=(r',es++a8)/\AE G F D' g r wL' r' wM'/\i8 G T D l wL C D' g wL' wM'/\∀e∈a8,iw D' g e:=by
 intro s;induction s with
 |pure a=>
  intro s' D l wL C z H es r wL' j I M;cases H l z.self;subst j;have:wL'=wL:=I;subst this;refine⟨D,l, .ok (F l a) C,C,#[],by simp[Um], .ok λg A=> ?_,i8.refl z,λe J=>by simp at J⟩;have:=H g A;generalize F l a=x at this;cases this;rfl
 |load m a k O=>
  intro s' D l wL C z H es r wL' j I M;cases H l z.self with
  | @load _ _ E h0=>
    have B:D a.block:=z.dom λg A=>by have:=H g A;generalize Q:aX l a=x at this;cases this;exact congrArg Yj Q.symm
    obtain⟨o,U,R,P⟩:=z.obj _ B;rw[Ub]at j;cases Y:wL.cell? a with
    |none=>
     simp only[Y]at j;cases Q:wL.farLoad PL a (WT==Wy)with
     |error x=>
      rw[Q]at j;subst j;exact(qI (oN Q) I).elim
     |ok y=>
      obtain⟨v,tc⟩:=y;rw[Q]at j;obtain⟨f1,f2,f3,f4⟩:=uJ z B Q;refine dF (i8.refl z) (s1:=E v) (es1:=(tc.map (aX l)).toArray.map (⟨.cell ·,false,false⟩)) ?_ (IE f4) (O v (E v) D l wL C z (λg A=> ?_) _ r wL' j I M)
      ·rw[Um,f1];simp only;rw[hV,f2];rfl
      ·have:=H g A;generalize aX l a=x at this;cases this with
       |load h=>
        have:=h v
        rwa [f3 g]at this
    |some v=>
     simp only[Y]at j;obtain⟨c,e,f,L,hs,hv⟩:=DU Y;rw[U]at L;cases L;have a2:∀g,aS G D l g->C.cell? (aX l a)=some (aD g v):=λg A=>by rw[DV (w:=C) (a:=aX l a) (P g A) hs];show(c.map (aD g))[a.off]?=_;rw[TQ,hv];rfl
     have V:∀g,aS G D l g->aD g v=aD l v:=λg A=>Option.some.inj ((a2 g A).symm.trans (a2 l z.self));refine dF (i8.refl z) (s1:=E (aD l v)) (es1:=#[⟨.cell (aX l a),false,false⟩]) ?_ ?_ (O v (E (aD l v)) D l wL C z (λg A=> ?_) _ r wL' j I M)
     ·rw[Um,a2 l z.self];rfl
     ·intro e J;simp at J;subst J;exact⟨rfl,a.block,B,rfl⟩
     ·have:=H g A;rw[←V g A];generalize aX l a=x at this;cases this with
      |load h=>exact h v
 |store m a v k O=>
  intro s' D l wL C z H es r wL' j I M;cases H l z.self with
  | @store _ _ _ E h0=>
    have t:∀g,aS G D l g->aX l a=aX g a/\aD l v=aD g v/\aF g PL PM (F g) k E:=λg A=>by
     have:=H g A;generalize Q:aX l a=x at this;generalize hy:aD l v=y at this;cases this with
     |store h=>exact⟨rfl,rfl,h⟩
    have B:D a.block:=z.dom λg A=>(congrArg Yj (t g A).1).symm;obtain⟨o,U,R,P⟩:=z.obj _ B;cases X:pE v with
    |false=>
     obtain⟨ac,hw⟩:=gE (p:=PL) (w:=wL) (m:= .plain) (a:=a) (k:=k) X;rw[hw]at j;subst j;exact I.elim
    |true=>
     rw[fX X]at j;cases Y:wL.cell? a with
     |none=>
      simp only[Y]at j;cases Q:wL.farStore PL a v (WT==Wy)with
      |error x=>
       rw[Q]at j;subst j;exact(qI (zK Q) I).elim
      |ok y=>
       obtain⟨w1,tc⟩:=y;rw[Q]at j;obtain⟨ad,f1,f2,f3,f4⟩:=tX z B (λg A=>(t g A).2.1.symm) Q;refine dF f3 (s1:=E) (es1:=(tc.map (aX l)).toArray.map (⟨.cell ·,true,false⟩)) ?_ (IE f4) (O E D l _ _ f3.rel (λg A=>(t g A).2.2) _ r wL' j I M);rw[mR (by rw[zf];exact X),f1];simp only;rw[hS,f2];rfl
     |some u=>
      simp only[Y]at j;obtain⟨c,e,f,L,hs,hv⟩:=DU Y;rw[U]at L;cases L;by_cases hf:wL.frozen? a=true
      ·rw[if_pos hf]at j;subst j;exact I.elim
      ·rw[if_neg hf]at j;have a2:C.cell? (aX l a)=some (aD l u):=by rw[DV (w:=C) (a:=aX l a) (P l z.self) hs];show(c.map (aD l))[a.off]?=_;rw[TQ,hv];rfl
       have ab:C.frozen? (aX l a)=wL.frozen? a:=by have:=P l z.self;unfold Ux;simp only[aX,U,this,d7];rfl
       have K:i8 G T D l wL C D l (wL.setCell a v) (C.setCell (aX l a) (aD l v)):=by
        refine z.turn B (o:= .cells (c.setIfInBounds a.off v) e f) (o':= .cells ((c.map (aD l)).setIfInBounds a.off (aD l v)) e f) rfl (λg A=> ?_) ?_ ?_ (λk hk=> ?_) (λk hk=> ?_) (by simp[U9]) (by simp[U9]) rfl rfl rfl rfl rfl rfl
        ·have Z:=(P g A).symm.trans (P l z.self);simp only[d7,Option.some.injEq,Xm.injEq,and_true]at Z;simp only[d7,Xm.injEq,and_true];rw[←Z,(t g A).2.1,Wa]
        ·simp[U9,UB,U,hs]
        ·have:=P l z.self;simp[U9,UB,aX,this,hs,d7]
        ·exact ky hk
        ·exact ky hk
       refine dF K (s1:=E) (es1:=#[⟨.cell (aX l a),true,false⟩]) ?_ ?_ (O E D l _ _ K.rel (λg A=>(t g A).2.2) _ r wL' j I M)
       ·rw[mR (by rw[zf];exact X),a2,ab];simp only[hf];rfl
       ·intro e J;simp at J;subst J;exact⟨rfl,a.block,B,rfl⟩
 |new o k O=>
  intro s' D l wL C z H es r wL' j I M;cases H l z.self with
  | @new _ _ E R h0=>
    have t:∀g,aS G D l g->d7 l o=d7 g o/\∀b,aF g PL PM (F g) (k b) (E (g b)):=λg A=>by
     have:=H g A;generalize Q:d7 l o=x at this;cases this with
     |new _ h=>exact⟨rfl,h⟩
    obtain⟨a5,hi,hn,J⟩:=z.fresh;have a6:∀g,aS G (λb=>D b\/b=wL.heap.size) a5 g->aS G D l g:=λg A=>⟨A.1,λb L=>(A.2 b (.inl L)).trans (J b L)⟩;have S:i8 G T D l wL C (λb=>D b\/b=wL.heap.size) a5 {wL with heap:=wL.heap.push o} {C with heap:=C.heap.push (d7 l o)}:=by
     refine⟨⟨hi.1,λb L=> ?_,z.tape,hi.2,by have:=z.far;simp only[VW];omega,λb L=> ?_⟩,λb L=>⟨.inl L,J b L⟩,λb L=> ?_,s_,s_,λr hr _=> ?_,rfl,rfl,rfl,rfl,λr hr _=> ?_,λr Z h2=> .inr (by simp only[VW]at h2;omega),TB _,ZP _ _⟩
     ·rcases L with L|rfl
      ·obtain⟨ob,Z,h2,h3⟩:=z.obj b L;refine⟨ob, ?_,h2,λg A=> ?_⟩
       ·rw[Uh,if_neg (by have:=aK Z;omega)];exact Z
       ·rw[J b L,Uh,if_neg (by have:=z.ltM L;omega)];exact h3 g (a6 g A)
      ·refine⟨o,s_,R,λg A=> ?_⟩;rw[hn,(t g (a6 g A)).1];simp
     ·rcases L with L|rfl
      ·exact z.out b L
      ·exact z.far.2.1
     ·rcases L with L|rfl
      ·exact .inl L
      ·exact .inr ⟨TB _,by rw[hn];exact TB _⟩
     ·rw[Uh,if_neg o_]
     ·rw[Uh,if_neg o_]
    refine dF S (s1:=E C.heap.size) (es1:=#[]) (by simp[Um]) (λe J=>by simp at J) (O wL.heap.size (E C.heap.size) _ a5 _ _ S.rel (λg A=> ?_) _ r wL' j I M);have Z:=(t g (a6 g A)).2 wL.heap.size;rwa [A.2 _ (.inr rfl),hn]at Z
 |shape N k O=>
  intro s' D l wL C z H es r wL' j I M;cases H l z.self with
  | @shape _ _ E h0=>
    have t:∀g,aS G D l g->l N=g N/\∀b,aF g PL PM (F g) (k b) (E b):=λg A=>by
     have:=H g A;generalize Q:l N=x at this;cases this with
     |shape h=>exact⟨rfl,h⟩
    have B:D N:=z.dom λg A=>(t g A).1.symm;obtain⟨o,U,R,P⟩:=z.obj _ B;have a9:C.shape? (l N)=wL.shape? N:=by have:=P l z.self;unfold World.shape?;rw[U,this];cases o<;>simp[cN]at R<;>simp[d7]
    refine dF (i8.refl z) (s1:=E (wL.shape? N)) (es1:=#[]) (by simp[Um,a9]) (λe J=>by simp at J) (O _ (E (wL.shape? N)) D l wL C z (λg A=>(t g A).2 _) _ r wL' j I M)
 |freeze a n k O=>
  intro s' D l wL C z H es r wL' j I M;cases H l z.self with
  | @freeze _ _ _ E h0=>
    have t:∀g,aS G D l g->aX l a=aX g a/\aF g PL PM (F g) k E:=λg A=>by
     have:=H g A;generalize Q:aX l a=x at this;cases this with
     |freeze h=>exact⟨rfl,h⟩
    have B:D a.block:=z.dom λg A=>(congrArg Yj (t g A).1).symm;obtain⟨o,U,R,P⟩:=z.obj _ B;have K:i8 G T D l wL C D l (wL.freeze a n) (C.freeze (aX l a) n):=by
     by_cases hn:n=0
     ·have e1:wL.freeze a n=wL:=(by simp[Wz,hn]);have e2:C.freeze (aX l a) n=C:=(by simp[Wz,hn]);rw[e1,e2];exact i8.refl z
     ·have a4:=P l z.self;refine z.turn B (o:=match o with| .cells c a3 (lo,hi)=> .cells c a3 (if lo==hi then(a.off,a.off+n)else(min lo a.off,max hi (a.off+n)))|o=>o) (o':=match d7 l o with| .cells c a3 (lo,hi)=> .cells c a3 (if lo==hi then(a.off,a.off+n)else(min lo a.off,max hi (a.off+n)))|o=>o) ?_ (λg A=> ?_) ?_ ?_ (λk hk=> ?_) (λk hk=> ?_) ?_ ?_ ?_ ?_ ?_ ?_ ?_ ?_
      ·cases o<;>first|exact R|(simp[cN]at R;done)|rfl
      ·have Z:=(P g A).symm.trans (P l z.self);rw[Option.some.injEq]at Z;rw[←Z];cases o<;>simp[cN]at R<;>rfl
      ·simp only[Wz,if_neg hn,UB,U];cases o<;>simp[cN]at R<;>simp
      ·simp only[Wz,if_neg hn,UB,aX,a4];cases o<;>simp[cN]at R<;>simp[d7]
      ·simp only[Wz,if_neg hn];exact ky hk
      ·simp only[Wz,if_neg hn];exact ky hk
      all_goals simp[Wz,hn]
    refine dF K (s1:=E) (es1:=#[]) (by simp[Um]) (λe J=>by simp at J) (O E D l _ _ K.rel (λg A=>(t g A).2) _ r wL' j I M)
 |frozen a k O=>
  intro s' D l wL C z H es r wL' j I M;cases H l z.self with
  | @frozen _ _ E h0=>
    have t:∀g,aS G D l g->aX l a=aX g a/\∀b,aF g PL PM (F g) (k b) (E b):=λg A=>by
     have:=H g A;generalize Q:aX l a=x at this;cases this with
     |frozen h=>exact⟨rfl,h⟩
    have B:D a.block:=z.dom λg A=>(congrArg Yj (t g A).1).symm;obtain⟨o,U,R,P⟩:=z.obj _ B;have aa:C.frozen? (aX l a)=wL.frozen? a:=by have:=P l z.self;unfold Ux;simp only[aX,U,this];cases o<;>simp[cN]at R<;>rfl
    refine dF (i8.refl z) (s1:=E (wL.frozen? a)) (es1:=#[]) (by simp[Um,aa]) (λe J=>by simp at J) (O _ (E (wL.frozen? a)) D l wL C z (λg A=>(t g A).2 _) _ r wL' j I M)
 |getObj N k O=>
  intro s' D l wL C z H es r wL' j I M;cases H l z.self with
  | @getObj _ _ E h0=>
    have t:∀g,aS G D l g->l N=g N/\∀o,cN o=true->aF g PL PM (F g) (k o) (E (d7 g o)):=λg A=>by
     have:=H g A;generalize Q:l N=x at this;cases this with
     |getObj h=>exact⟨rfl,h⟩
    have B:D N:=z.dom λg A=>(t g A).1.symm;obtain⟨o,U,R,P⟩:=z.obj _ B;have V:∀g,aS G D l g->d7 g o=d7 l o:=λg A=>Option.some.inj ((P g A).symm.trans (P l z.self));rw[Ub,U]at j;have a1:∀c e f,o≠ .cells c e f:=λc e f h=>by subst h;simp only at j;subst j;exact I.elim
    have W:(k o).run PL wL=r:=by cases o<;>first|exact j|exact absurd rfl (a1 _ _ _)
    refine dF (i8.refl z) (s1:=E (d7 l o)) (es1:=#[⟨.obj (l N),false,false⟩]) ?_ ?_ (O o (E (d7 l o)) D l wL C z (λg A=>by rw[←V g A];exact(t g A).2 o R) _ r wL' W I M)
    ·have:=P l z.self;have Y:=tI (o:=d7 l o) (by rw[qw];exact R);rw[Um,this];cases o<;>simp[cN]at R<;>first|exact absurd rfl (a1 _ _ _)|(simp only[d7]at Y⊢;rw[Y];rfl)
    ·intro e J;simp at J;subst J;exact⟨rfl,N,B,rfl⟩
 |setObj N o k O=>
  intro s' D l wL C z H es r wL' j I M;cases H l z.self with
  | @setObj _ _ _ E a7 h0=>
    have t:∀g,aS G D l g->l N=g N/\d7 l o=d7 g o/\aF g PL PM (F g) k E:=λg A=>by
     have:=H g A;generalize Q:l N=x at this;generalize hy:d7 l o=y at this;cases this with
     |setObj _ h=>exact⟨rfl,rfl,h⟩
    have B:D N:=z.dom λg A=>(t g A).1.symm;obtain⟨o0,U,R,P⟩:=z.obj _ B;rw[Ub,U]at j;have a1:∀c e f,o0≠ .cells c e f:=λc e f h=>by subst h;simp only at j;subst j;exact I.elim
    have W:k.run PL {wL with heap:=wL.heap.setIfInBounds N o}=r:=by cases o0<;>first|exact j|exact absurd rfl (a1 _ _ _)
    have a4:=P l z.self;have K:i8 G T D l wL C D l {wL with heap:=wL.heap.setIfInBounds N o} {C with heap:=C.heap.setIfInBounds (l N) (d7 l o)}:=by
     refine z.turn B (o:=o) (o':=d7 l o) a7 (λg A=>(t g A).2.1) ?_ ?_ (λk hk=> ?_) (λk hk=> ?_) s_ s_ rfl rfl rfl rfl rfl rfl
     ·simp[aK U]
     ·simp[aK a4]
     ·exact tl hk
     ·exact tl hk
    refine dF K (s1:=E) (es1:=#[⟨.obj (l N),true,false⟩]) ?_ ?_ (O E D l _ _ K.rel (λg A=>(t g A).2.2) _ r wL' W I M)
    ·have Y:=tI (o:=d7 l o) (by rw[qw];exact a7);generalize d7 l o=x at Y⊢;rw[Um,a4];cases o0<;>simp[cN]at R<;>first|exact absurd rfl (a1 _ _ _)|(simp only[d7,Y];rfl)
    ·intro e J;simp at J;subst J;exact⟨rfl,N,B,rfl⟩
 |choose q k O=>
  intro s' D l wL C z H es r wL' j I M;cases H l z.self with
  | @choose _ _ E h0=>
    have t:∀g,aS G D l g->∀b,aF g PL PM (F g) (k b) (E b):=λg A=>by
     cases H g A with
     |choose h=>exact h
    rw[Ub]at j;by_cases hf:q.forced=true
    ·rw[if_pos hf]at j;refine dF (i8.refl z) (s1:=E 0) (es1:=#[]) (by simp[Um,hf]) (λe J=>by simp at J) (O 0 (E 0) D l wL C z (λg A=>t g A 0) _ r wL' j I M)
    ·rw[if_neg hf]at j;have S:i8 G T D l wL C D l {wL with drawn:=wL.drawn+1} {C with drawn:=C.drawn+1}:=by refine⟨⟨z.inj,z.obj,λi hi=> ?_,z.glob,z.far,z.out⟩,λ_ L=>⟨L,rfl⟩,λ_ L=> .inl L,TB _,TB _,λ_ _ _=>rfl,rfl,rfl,rfl,rfl,λ_ _ _=>rfl,λr Z h2=>absurd h2 (Xe.2 Z),a17 _,by show C.drawn+1+wL.drawn=wL.drawn+1+C.drawn;omega⟩;have:=z.tape (1+i) (by have:wL.drawn+1+i<T:=hi;omega);rwa [←YD,←YD]at this
     have a0:=λes1=>O _ (E (q.cut (wL.tape wL.drawn q))) D l _ _ S.rel (λg A=>t g A _) es1 r wL' j I M;have ht:C.tape C.drawn=wL.tape wL.drawn:=by obtain⟨_,_,_,_,_,_,_,h3,_⟩:=a0 #[];have:wL.drawn+1<=wL'.drawn:=h3.drawn;exact z.tape 0 o_
     exact dF S (s1:=E (q.cut (wL.tape wL.drawn q))) (es1:=#[]) (by simp[Um,hf,ht]) (λe J=>by simp at J) (a0 _)
 |sys c k O=>
  intro s' D l wL C z H es r wL' j I M;cases H l z.self with
  |sys d=>
   obtain⟨x,w',Q,hd,_⟩:=d (wL.sys c).1 (wL.sys c).2;rw[Ub,Q]at j;subst j;exact(ka hd I).elim
 |program k O=>
  intro s' D l wL C z H es r wL' j I M;cases H l z.self with
  | @program _ E h0=>
    have t:∀g,aS G D l g->aF g PL PM (F g) (k PL) (E PM):=λg A=>by
     cases H g A with
     |program h=>exact h
    exact dF (i8.refl z) (s1:=E PM) (es1:=#[]) (by simp[Um]) (λe J=>by simp at J) (O PL (E PM) D l wL C z t _ r wL' j I M)
 |mark m k O=>
  intro s' D l wL C z H es r wL' j I M;cases H l z.self with
  | @mark _ _ E hm h0=>
    have t:∀g,aS G D l g->aF g PL PM (F g) k E:=λg A=>by
     cases H g A with
     |mark _ h=>exact h
     |deadMark d=>rw[Ub,Ub]at j;subst j;exact(ka d I).elim
    refine dF (i8.refl z) (s1:=E) (es1:=#[⟨.mark m,false,true⟩]) rfl ?_ (O E D l wL C z t _ r wL' j I M);intro e J;simp at J;subst J;exact hm
  |deadMark d=>rw[Ub,Ub]at j;subst j;exact(ka d I).elim
 |halt h=>
  intro s' D l wL C z H es r wL' j I M;subst j;cases H l z.self with
  | @panic v hp=>
    have:wL'=wL:=I;subst this;exact⟨D,l,_,C,#[],by simp[Um], .panic hp,i8.refl z,λe J=>by simp at J⟩
  |dead d=>exact(ka d I).elim
end
structure bO (PL PM:Program):Prop where
 info:∀t,PL.info? t=PM.info? t
 under:∀t,PL.underlying t=PM.underlying t
 zero:∀t i z,PL.info? t=some i->i.zero=some z->bQ z=true
 rt:PL.rt=PM.rt
 cells:∀t,PL.cellsOf t=PM.cellsOf t
 bytes:∀t,PL.bytesOf t=PM.bytesOf t
 byteOf:∀t o,byteOfCell PL PL.depth t o=byteOfCell PM PM.depth t o
 lies:∀e n o u m,liesAt PL PL.depth e n o u m=liesAt PM PM.depth e n o u m
 atBytes:∀e n o b,cellAtBytes PL PL.depth e n o b=cellAtBytes PM PM.depth e n o b
 held:∀e,PL.holdsStoodIn PL.depth e=PM.holdsStoodIn PM.depth e
 guard:∀t,PL.eqGuardType PL.depth t=PM.eqGuardType PM.depth t
 stood:∀t,PL.stoodInHeld t=PM.stoodInHeld t
 types:PL.types.size=PM.types.size
 packed:∀t,PL.holdsPacked PL.depth t=PM.holdsPacked PM.depth t
section
variable{α β:Type}{f:α->β}
theorem aP(a:α){b:β}(h:b=f a):aF ρ PL PM f (pure a:Sem α) (pure b):=h▸aF.pure a
theorem eW(a:String)(s:Sem β):aF ρ PL PM f (stuck a) s:= .dead trivial
theorem de(a:bO PL PM)(t:TypeId):aF ρ PL PM id (typeInfo t) (typeInfo t):=by
 refine .program ?_;show aF ρ PL PM id (match PL.info? t with|some i=>pure i|none=>stuck "no such type") (match PM.info? t with|some i=>pure i|none=>stuck "no such type");rw[a.info t];split
 ·exact aP _ rfl
 ·exact eW _ _
theorem aY(a:bO PL PM)(t:TypeId):aF ρ PL PM id (underlying t) (underlying t):=by
 refine .program ?_;show aF ρ PL PM id (match PL.underlying t with|some i=>pure i|none=>stuck "no such type") (match PM.underlying t with|some i=>pure i|none=>stuck "no such type");rw[a.under t];split
 ·exact aP _ rfl
 ·exact eW _ _
theorem mp(a:bO PL PM)(t:TypeId):aF ρ PL PM (aD ρ) (zeroValue t) (zeroValue t):=by
 unfold zeroValue;show aF ρ PL PM (aD ρ) (typeInfo t>>=λi=>match i.zero with|some v=>pure v|none=>unsupported _) (typeInfo t>>=λi=>match i.zero with|some v=>pure v|none=>unsupported _);refine .program ?_;show aF ρ PL PM _ ((match PL.info? t with|some i=>pure i|none=>stuck "no such type" :Sem TypeInfo).bind _) ((match PM.info? t with|some i=>pure i|none=>stuck "no such type" :Sem TypeInfo).bind _);rw[←a.info t];cases c:PL.info? t with
 |none=>exact eW _ _
 |some i=>
  show aF ρ PL PM _ (match i.zero with|some v=>pure v|none=>unsupported _) (match i.zero with|some v=>pure v|none=>unsupported _);cases b:i.zero with
  |none=>exact .dead trivial
  |some z=>exact aP _ (dS ρ z (a.zero t i z c b)).symm
theorem ef(a:bO PL PM)(t:TypeId):aF ρ PL PM id (sizeOf t) (sizeOf t):=
 (de a t).bind λ_=>aP _ rfl
theorem uk(a:bO PL PM)(t:TypeId):aF ρ PL PM id (isAgg t) (isAgg t):=
 (aY a t).bind λd=>by show aF ρ PL PM id _ _;cases d<;>exact aP _ rfl
theorem jr(b:Nat->Nat)(a:Addr)(n:Nat):aX b (a.add n)=(aX b a).add n:=by unfold Addr.add aX;split<;>rfl
theorem fk(a:Nat->Nat)(v:Value):(aD a v).cells=v.cells.map (aD a):=by cases v<;>simp[aD,XB]
theorem sL(a:Addr):aF ρ PL PM (aD ρ) (load a) (load (aX ρ a)):= .load λv=> .pure v
theorem J7(a:Addr)(v:Value):aF ρ PL PM id (store a v) (store (aX ρ a) (aD ρ v)):= .store (.pure ())
theorem Cn(o:Obj)(a:cN o=true):aF ρ PL PM ρ (newObj o) (newObj (d7 ρ o)):= .new a λb=> .pure b
theorem lE(a:Addr):∀(n i:Nat) (b:Array Value),aF ρ PL PM (Ww (aD ρ)) (loadCellsFrom a i n b) (loadCellsFrom (aX ρ a) i n (b.map (aD ρ)))
 |0,_,b=>aP _ rfl
 |n+1,i,b=>by unfold loadCellsFrom;refine aF.bind (f:=aD ρ) (by rw[←jr];exact sL _) λv=> ?_;have:=lE a n (i+1) (b.push v);rwa [a3_]at this
theorem gT(a:Addr)(n:Nat):aF ρ PL PM (Ww (aD ρ)) (loadCells a n) (loadCells (aX ρ a) n):=by have:=lE (ρ:=ρ) (PL:=PL) (PM:=PM) a n 0 #[];simpa[loadCells]using this
theorem iF(a:Addr):∀(b:List Value) (i:Nat),aF ρ PL PM id (storeCells a b i) (storeCells (aX ρ a) (b.map (aD ρ)) i)
 |[],_=>by unfold storeCells;exact aP _ rfl
 |v::r,i=>by unfold storeCells;exact aF.bind (f:=id) (by rw[←jr];exact J7 _ _) λ_=>iF a r (i+1)
theorem jI(c:bO PL PM)(t:TypeId)(a:Addr):aF ρ PL PM (aD ρ) (loadVar t a) (loadVar t (aX ρ a)):=by
 unfold loadVar;refine(uk c t).bind λb=> ?_;cases b with
 |true=>exact(ef c t).bind λn=>(gT a n).bind λd=>aP _ (by simp[aD])
 |false=>exact sL a
theorem Am(b:bO PL PM)(t:TypeId)(a:Addr)(v:Value):aF ρ PL PM id (storeVar t a v) (storeVar t (aX ρ a) (aD ρ v)):=by
 unfold storeVar;refine(ef b t).bind λn=> ?_;rw[fk,V1];show aF ρ PL PM id (if v.cells.size≠n then _ else _) (if v.cells.size≠n then _ else _);split
 ·exact(eW (f:=id) _ _:aF ρ PL PM id _ _).bind λa=>by rw[Vj];exact iF _ _ _
 ·rw[Vj];exact iF _ _ _
theorem fQ(e:TypeId)(cs:Array Value):aF ρ PL PM (aX ρ) (newRow e cs) (newRow e (cs.map (aD ρ))):=
 (Cn (.cells cs e) rfl).bind λ_=>aP _ rfl
theorem G5(t:TypeId)(v:Value):aF ρ PL PM (aX ρ) (newVar t v) (newVar t (aD ρ v)):=by unfold newVar;rw[fk];exact fQ _ _
theorem xS(a:bO PL PM)(t:TypeId)(cs:Array Value)(off:Nat):aF ρ PL PM (aD ρ) (part t cs off) (part t (cs.map (aD ρ)) off):=by
 unfold part;refine(uk a t).bind λb=> ?_;cases b with
 |true=>exact(ef a t).bind λn=>aP _ (by simp[aD,XG])
 |false=>
  show aF ρ PL PM (aD ρ) (match cs[off]? with|some v=>pure v|none=>stuck _) (match (cs.map (aD ρ))[off]? with|some v=>pure v|none=>stuck _);rw[TQ];cases cs[off]? with
  |none=>exact eW _ _
  |some v=>exact aP _ rfl
theorem p7(v:Value):aF ρ PL PM id (asIntOf v) (asIntOf (aD ρ v)):=by
 cases v<;>simp only[aD,asIntOf]<;>first|exact aP _ rfl|exact eW _ _|skip
 rename_i a;cases a with
 |none=>exact eW _ _
 |some a=>exact .dead trivial
theorem lG(v:Value):aF ρ PL PM id (asInt v) (asInt (aD ρ v)):=(p7 v).bind λ_=>aP _ rfl
theorem wA(v:Value):aF ρ PL PM id (asBool v) (asBool (aD ρ v)):=by cases v<;>simp only[aD,asBool]<;>first|exact aP _ rfl|exact eW _ _
theorem Tp(v:Value):aF ρ PL PM id (asString v) (asString (aD ρ v)):=by cases v<;>simp only[aD,asString]<;>first|exact aP _ rfl|exact eW _ _
theorem Jg(v:Value):aF ρ PL PM (Ww (aD ρ)) (asAgg v) (asAgg (aD ρ v)):=by cases v<;>simp only[aD,asAgg]<;>first|exact aP _ rfl|exact eW _ _
theorem Ak(v:Value):aF ρ PL PM (aX ρ) (V2 v) (V2 (aD ρ v)):=by
 cases v<;>simp only[aD,V2]<;>first|exact eW _ _|skip
 rename_i a;cases a with
 |none=>exact eW _ _
 |some a=>exact aP _ rfl
end
section
variable{α β:Type}{f:α->β}
theorem cG{c:Prop}[Decidable c]{A B:Sem α}{b a:Sem β}(e:aF ρ PL PM f A b)(d:aF ρ PL PM f B a):aF ρ PL PM f (if c then A else B) (if c then b else a):=by split<;>assumption
theorem wn(a:Addr):(aX ρ a).block=ρ a.block:=rfl
theorem RP(a:Addr):(aX ρ a).off=a.off:=rfl
theorem MS(a:Addr):(aX ρ a).spot=a.spot:=rfl
def yV:RuntimeError->Bool
 | .bounds _ _ _ _| .error _| .plain _| .nilDeref=>true
 |_=>false
theorem jH(hP:bO PL PM){e:RuntimeError}(a:yV e=true):aF ρ PL PM f (runtimePanic e) (runtimePanic e):= .program (by simp only[Ud,hP.rt];cases e<;>cases a<;>exact .panic (by rfl))
theorem kE(hP:bO PL PM){e:RuntimeError}(d:yV e=true){b a:Type}(k:b->Sem α)(c:a->Sem β):aF ρ PL PM f (runtimePanic e>>=k) (runtimePanic e>>=c):= .program (by simp only[Ud,hP.rt];cases e<;>cases d<;>exact .panic (by rfl))
theorem aL{s:Sem α}{s':Sem β}(h:aF ρ PL PM f s s':=by
 first
 |exact nB hP _ _ _ _ _ none
 |with_reducible first
  |exact aY hP _
  |exact ef hP _
  |exact de hP _
  |exact Ak _
  |exact p7 _
  |exact lG _
  |exact uk hP _
  |exact mp hP _
  |exact wA _
  |exact Jg _
  |exact Tp _
  |exact G5 _ _
  |exact fQ _ _
  |exact jI hP _ _
  |exact Am hP _ _ _
  |exact sL _
  |exact gT _ _
  |exact iF _ _ _
  |exact xS hP _ _ _
  |exact lC _
  |exact wq _
  |exact wm _
  |exact G4 _
  |exact lF hP _
  |exact wy hP _ _ _ _
  |exact G3 hP _ _ _
  |exact kF hP _ _
  |exact uQ hP _ _ _
  |exact nB hP _ _ _ _ _ _
  |exact lH hP _
  |exact J8 hP _ _ _ _ _
  |exact jL _
  |exact wx hP _
  |exact ug hP _ _ _
  |exact qa _ _ _
  |exact PV _
  |exact Qx hP _
  |exact rU _
  |exact MW _ _
  |exact iu _
  |exact Md _
  |exact MV _ _
  |exact MR hi _ _
  |exact MR hF.1 _ _
  |exact uh hF.1 _ _
  |exact uS _ _
  |exact Ar hi _ _ _ _ _
  |exact mB _ _ _
  |exact ih _ _ _
  |exact Tt _ _ _ _
  |exact Qy hP _ _ _ _
  |exact Tx _ _ _ _
  |exact RL hP _ _ _ _ _
  |exact Ty _ _ _
  |exact MQ _ _ _
  |exact Av _
  |exact iH _ _ _
  |exact lD _
  |exact qT _ _
  |exact qS _ _
  |exact qZ _
  |exact qU _
  |exact uT _ _ _
  |exact mB _ _ _
  |exact nY _ _ _ _
  |exact JA _ _ _ _
  |exact Tu _ _ _ _
  |exact Mi _ _ _ _ _ _
  |exact Cw hP hF _ _ _
  |exact Cx hP hF _ _ _
  |exact PZ hP _ _ _
  |exact q8 hP hF _ _
 |exact Cn _ rfl
 ):aF ρ PL PM f s s':=h
theorem aU{s:Sem α}{s':Sem β}(h:aF ρ PL PM f s s':=by
 try simp only[id,aD,wn,RP,MS,Option.map_none,Option.map_some,Option.isSome_map,Array.getElem?_map,pure_bind,bind_assoc]
 first
 |exact .dead trivial
 |exact .program (.dead trivial)
 |with_reducible exact jH hP rfl
 |with_reducible exact kE hP rfl _ _
 |exact aP _ (by first|rfl|(simp[aD,goInt,jr,Function.comp_def,apply_ite (aX ρ),apply_ite (Option.map (aX ρ))];done)|(simp[aD,aX];done))
 |exact aL
 |refine cG ?_ ?_
 |(apply aF.bind;(· exact aL);intro a)
 |refine .choose λn=> ?_
 |exact .getObj λo ho=>by cases o<;>first|exact .dead trivial|(simp[cN]at ho;done)
 |(refine .program ?_;try simp only[Sem.bind,hP.held,hP.cells,hP.bytes,hP.byteOf,hP.lies,hP.atBytes,hP.guard,hP.stood,hP.packed])
 |cases (a:TypeDesc)
 |cases (x:Value)
 |cases (y:Value)
 |cases (op:BinOp)
 |cases (a:Option _)
 |cases (a:Bool)
 |(split<;>try simp_all only[Option.map_some,Option.map_none,Option.some.injEq,reduceCtorEq,Value.slice.injEq,Value.pointer.injEq,Value.map.injEq,Value.chan.injEq])
 all_goals first|contradiction|exact aU
 ):aF ρ PL PM f s s':=h
theorem wy(hP:bO PL PM)(k:IntKind)(x y:Int)(c:BoundsCode):aF ρ PL PM f (boundsPanic k x y c) (boundsPanic k x y c):=by
 unfold boundsPanic;dsimp only;split
 ·exact .choose λn=>jH (e:= .bounds (U2.wrap x) y (n==1) c) hP rfl
 ·exact jH (e:= .bounds (U2.wrap x) y _ c) hP rfl
theorem Jh(hP:bO PL PM)(t:TypeId):aF ρ PL PM (aD ρ) (Uo t true (.tuple #[])) (Uo t true (.tuple #[])):=by unfold Uo;exact aU
theorem PX(t:TypeId)(v:Value):aF ρ PL PM (aD ρ) (Zt t v) (Zt t (aD ρ v)):=by unfold Zt;exact aU
theorem gy(hP:bO PL PM)(t:TypeId)(v:Value):aF ρ PL PM (aD ρ) (TN t v) (TN t (aD ρ v)):=by unfold TN;exact aU
theorem Ck(hP:bO PL PM)(t:TypeId)(v z:Value):aF ρ PL PM id (VH t v z) (VH t (aD ρ v) (aD ρ z)):=by unfold VH;exact aU
theorem lC(r:Nat):aF ρ PL PM id (shape r) (shape (ρ r)):= .shape λs=> .pure s
theorem wm(r:Nat):aF ρ PL PM (Yh λx=>(aX ρ x.1,x.2)) (viewAt r) (viewAt (ρ r)):=by
 unfold viewAt;refine(lC r).bind λs=> ?_;cases s
 ·exact .getObj λo _=>by cases o<;>exact aP _ rfl
 ·exact aP _ rfl
theorem G4(a:Addr):aF ρ PL PM id (noView a) (noView (aX ρ a)):=by unfold noView;exact aU
theorem lF(hP:bO PL PM)(a:Addr):aF ρ PL PM id (byteOf a) (byteOf (aX ρ a)):=by unfold byteOf;rw[MS];cases a.spot<;>exact aU
theorem G3(d:bO PL PM)(a:Addr)(c b:Nat):aF ρ PL PM (aX ρ) (partAt a c b) (partAt (aX ρ a) c b):=by unfold partAt;refine(lF d a).bind λx=> ?_;refine(lF d {block:=a.block,off:=a.off+c}).bind λy=>aP _ ?_;simp only[id];split<;>rfl
theorem kF(hP:bO PL PM)(a:Addr)(b:Field):aF ρ PL PM (aX ρ) (fieldPlace a b) (fieldPlace (aX ρ a) b):=by unfold fieldPlace;exact aU
theorem Cp(hP:bO PL PM)(t:TypeId)(v:Value)(i:Nat):aF ρ PL PM (aD ρ) (TS t v i) (TS t (aD ρ v) i):=by unfold TS;exact aU
theorem jJ(hP:bO PL PM)(t:TypeId)(x a:Value):aF ρ PL PM (aD ρ) (V3 t x a) (V3 t (aD ρ x) (aD ρ a)):=by unfold V3;exact aU
theorem uQ(hP:bO PL PM)(v:Value)(y:Nat)(c:BoundsCode):aF ρ PL PM id (UQ v y c) (UQ (aD ρ v) y c):=by unfold UQ;exact aU
theorem nB(hP:bO PL PM)(s:Bool)(len cap:Nat)(b hi a:Option Value):aF ρ PL PM id (UK s len cap b hi a) (UK s len cap (b.map (aD ρ)) (hi.map (aD ρ)) (a.map (aD ρ))):=by unfold UK;cases a<;>cases hi<;>cases b<;>exact aU
theorem lH(b:bO PL PM)(v:Value):aF ρ PL PM (aX ρ) (asAddr v) (asAddr (aD ρ v)):=by
 cases v<;>simp only[aD,asAddr]<;>first|exact eW _ _|skip
 rename_i a;cases a with
 |none=>exact jH b rfl
 |some a=>exact aP _ rfl
theorem J8(hP:bO PL PM)(t:TypeId)(x:Value)(b hi a:Option Value):aF ρ PL PM (aD ρ) (VE t x b hi a) (VE t (aD ρ x) (b.map (aD ρ)) (hi.map (aD ρ)) (a.map (aD ρ))):=by unfold VE;exact aU
theorem Cl(hP:bO PL PM)(t:TypeId)(x:Value)(b hi a:Option Value):aF ρ PL PM (aD ρ) (UF t x b hi a) (UF t (aD ρ x) (b.map (aD ρ)) (hi.map (aD ρ)) (a.map (aD ρ))):=by unfold UF;exact aU
theorem Ja(hP:bO PL PM)(t:TypeId)(x a:Value):aF ρ PL PM (aD ρ) (Xf t x a) (Xf t (aD ρ x) (aD ρ a)):=by unfold Xf;exact aU
theorem Jc(hP:bO PL PM)(t:TypeId)(v:Value)(i:Nat):aF ρ PL PM (aD ρ) (Ui t v i) (Ui t (aD ρ v) i):=by unfold Ui;exact aU
theorem Cq(x:Value)(i:Nat):aF ρ PL PM (aD ρ) (YE x i) (YE (aD ρ x) i):=by unfold YE;exact aU
theorem Au(fn:Fn)(b:nQ fn=true)(first a:Array Value):aF ρ PL PM (aD ρ) (XH fn first a) (XH fn (first.map (aD ρ)) (a.map (aD ρ))):=
 aP _ (by rw[aD,rx ρ b])
theorem jL(n:Nat):aF ρ PL PM id (askRoom n) (askRoom n):=by
 unfold askRoom;split
 ·exact .mark rfl (.pure ())
 ·exact aP _ rfl
theorem Lq(a:Nat->Nat)(z:Array Value)(i:Nat):(z.map (aD a))[i]! =aD a (z[i]!):=by
 have b:aD a (default:Value)=default:=dS a _ (by rfl);by_cases h:i<z.size
 ·simp[h]
 ·simp[h,b]
theorem pJ(a:Nat->Nat)(z:Array Value)(n:Nat):((Y1 n).map λx=>(z.map (aD a))[x%(z.map (aD a)).size]!)=((Y1 n).map λx=>z[x%z.size]!).map (aD a):=by rw[XX];apply W6;intro i _;rw[Lq,V1];rfl
end
section
variable{α β:Type}{f:α->β}
theorem xU(e:bO PL PM)(t:TypeId)(l c:Value):aF ρ PL PM (aD ρ) (Vx t l c) (Vx t (aD ρ l) (aD ρ c)):=by
 unfold Vx;refine(aY e t).bind λd=> ?_;cases d with
 |slice b=>
  refine(lG l).bind λl=>(lG c).bind λc=>(de e b).bind λi=> ?_;dsimp only[id];refine cG ?_ ?_
  ·refine cG (kE e rfl _ _) (cG (kE e rfl _ _) ?_);exact aF.bind (f:=id) (.choose λn=> .pure n) λn=>kE e rfl _ _
  ·refine(jL _).bind λ_=>(ef e b).bind λg=> ?_;dsimp only[id];refine cG ?_ ?_
   ·have h:=pJ ρ #[] ((U2.wrap c).toNat*g);rw[a22]at h;refine aF.bind (f:=aX ρ) ?_ λa=>aP _ (by simp[aD]);have:=fQ (ρ:=ρ) (PL:=PL) (PM:=PM) b ((Y1 ((U2.wrap c).toNat*g)).map λx=>(#[]:Array Value)[x%(#[]:Array Value).size]!);rwa [←h]at this
   ·refine(mp e b).bind λz=> ?_;refine aF.bind (f:=aX ρ) ?_ λa=>aP _ (by simp[aD]);rw[fk,pJ];exact fQ _ _
 |_=>exact .dead trivial
theorem rM(a:Nat->Nat)(off:Nat):∀(l:List (Value×Nat)) (cs:Array Value),
 (l.map λx=>(aD a x.1,x.2)).foldl (λcs x=>cs.setIfInBounds (off+x.2) x.1) (cs.map (aD a))=(l.foldl (λcs x=>cs.setIfInBounds (off+x.2) x.1) cs).map (aD a)
 |[],_=>rfl
 |x::l,cs=>by rw[TP,Z2,Z2,←Wa,rM a off l]
theorem nk(c:Nat->Nat)(a:Nat->Option (Nat×Nat)):∀(b:List (Nat×Value)) (cells:Array Value),
 WB a (cells.map (aD c)) (b.map λx=>(x.1,aD c x.2))=(WB a cells b).map (Ww (aD c))
 |[],_=>rfl
 |(i,v)::rest,cells=>by
  rw[TP];unfold WB;cases a i with
  |none=>rfl
  |some p=>
   obtain⟨off,size⟩:=p;simp only[fk,V1];split
   ·rfl
   ·rw[←nk c a rest]
    congr 1
    have h:=rM c off v.cells.zipIdx.toList cells;simp only[←Yk];rw[←h]
    congr 1
    simp[List.zipIdx_map]
theorem E6{a b:Type}{g g':a->Sem b}(h:∀x,aF ρ PL PM id (g x) (g' x)):∀l:List a,aF ρ PL PM id (l.mapM g) (l.mapM g')
 |[]=>by simp only[a44];exact aP _ rfl
 |x::l=>by simp only[a30];exact(h x).bind λy=>(E6 h l).bind λc=>aP _ rfl
theorem Mg{a b:Type}{g g':a->Sem b}(h:∀x,aF ρ PL PM id (g x) (g' x))(xs:Array a):aF ρ PL PM id (xs.mapM g) (xs.mapM g'):=by rw[Wt,Wt,map_eq_pure_bind,map_eq_pure_bind];exact(E6 h _).bind λc=>aP _ rfl
theorem Jf(hP:bO PL PM)(t:TypeId)(b:Array (Nat×Value)):aF ρ PL PM (aD ρ) (Uj t b) (Uj t (b.map λx=>(x.1,aD ρ x.2))):=by
 unfold Uj;refine(mp hP t).bind λz=>(aY hP t).bind λd=> ?_;have e:(b.map λx=>(x.1,aD ρ x.2)).toList=b.toList.map λx=>(x.1,aD ρ x.2):=s_
 cases d<;>try exact aU
 ·refine(ef hP _).bind λg=> ?_;rw[fk,e,nk];dsimp only[id];generalize WB _ _ _=a;cases a<;>exact aU
 ·refine aF.bind (f:=id) (Mg (λx=>by exact aU) _) λc=> ?_;dsimp only[id];rw[fk,e,nk];generalize WB _ _ _=a;cases a<;>exact aU
theorem uU(j:bO PL PM)(t:TypeId)(f:Nat)(b:Array (Nat×Value)):aF ρ PL PM (aD ρ) (Uf t f b) (Uf t f (b.map λx=>(x.1,aD ρ x.2))):=by
 unfold Uf;have k:(b.map λx=>(x.1,aD ρ x.2)).toList=b.toList.map λx=>(x.1,aD ρ x.2):=s_
 refine(aY j t).bind λd=> ?_;cases d with
 |slice e=>
  refine(ef j e).bind λg=> ?_;dsimp only[id];refine cG (.dead trivial) (cG ?_ ?_)
  ·have h:=pJ ρ #[] (f*g);rw[a22]at h;have l:=nk ρ (λi=>some (i*g,g)) b.toList ((Y1 (f*g)).map λx=>(#[]:Array Value)[x%(#[]:Array Value).size]!);rw[←h]at l;show aF ρ PL PM (aD ρ) (match WB _ _ _ with|some c=>_|_=>_) (match WB _ _ _ with|some c=>_|_=>_);rw[k,l];cases WB (λi=>some (i*g,g)) ((Y1 (f*g)).map λx=>(#[]:Array Value)[x%(#[]:Array Value).size]!) b.toList with
   |none=>exact .dead trivial
   |some c=>exact(fQ e c).bind λa=>aP _ (by simp[aD])
  ·refine(mp j e).bind λz=> ?_;show aF ρ PL PM (aD ρ) (match WB _ _ _ with|some c=>_|_=>_) (match WB _ _ _ with|some c=>_|_=>_);rw[fk,pJ,k,nk];cases WB (λi=>some (i*g,g)) ((Y1 (f*g)).map λx=>z.cells[x%z.cells.size]!) b.toList with
   |none=>exact .dead trivial
   |some c=>exact(fQ e c).bind λa=>aP _ (by simp[aD])
 |_=>exact .dead trivial
theorem Tt(op:BinOp)(k:IntKind)(x y:Int):aF ρ PL PM (aD ρ) (a18 op k x y) (a18 op k x y):=by unfold a18;exact aU
theorem Qy(hP:bO PL PM)(op:BinOp)(k:IntKind)(x y:Int):aF ρ PL PM (aD ρ) (a49 op k x y) (a49 op k x y):=by unfold a49;exact aU
theorem Tx(op:BinOp)(k:IntKind)(x y:Int):aF ρ PL PM (aD ρ) (a31 op k x y) (a31 op k x y):=by unfold a31;exact aU
theorem RL(hP:bO PL PM)(op:BinOp)(k:IntKind)(x:Int)(k2:IntKind)(y:Int):aF ρ PL PM (aD ρ) (a57 op k x k2 y) (a57 op k x k2 y):=by unfold a57;exact aU
theorem Ty(op:BinOp)(x y:Int):aF ρ PL PM (aD ρ) (a5_ op x y) (a5_ op x y):=by unfold a5_;exact aU
theorem MQ(op:BinOp)(x y:ByteArray):aF ρ PL PM (aD ρ) (Zi op x y) (Zi op x y):=by unfold Zi;exact aU
theorem J6(op:UnOp)(x:Value):aF ρ PL PM (aD ρ) (Op.unary op x) (Op.unary op (aD ρ x)):=by cases x<;>cases op<;>first|exact aU|(rename_i a;cases a<;>exact aU)
end
section
variable{α β:Type}{f:α->β}
theorem tF(k:∀x y,ρ x=ρ y->x=y)(a b:Addr):(aX ρ a==aX ρ b)=(a==b):=by
 obtain⟨j,i,g⟩:=a;obtain⟨f,d,c⟩:=b;by_cases h:(⟨j,i,g⟩:Addr)=⟨f,d,c⟩
 ·rw[h];simp
 ·have l:aX ρ ⟨j,i,g⟩≠aX ρ ⟨f,d,c⟩:=λe=>h (by simp only[aX,Addr.mk.injEq]at e⊢;exact⟨k _ _ e.1,e.2⟩)
  rw[beq_eq_false_iff_ne.2 h,beq_eq_false_iff_ne.2 l]
theorem lA(c:∀x y,ρ x=ρ y->x=y)(a b:Nat):(ρ a==ρ b)=(a==b):=by
 by_cases h:a=b
 ·subst h;simp
 ·rw[beq_eq_false_iff_ne.2 h,beq_eq_false_iff_ne.2 λe=>h (c _ _ e)]
theorem wq(a:Addr):aF ρ PL PM id (frozen a) (frozen (aX ρ a)):= .frozen λb=> .pure b
theorem Md(a:Addr):aF ρ PL PM id (stringish a) (stringish (aX ρ a)):=by
 unfold stringish;refine(wq a).bind λb=>cG aU ((lC a.block).bind λs=> ?_);cases s
 ·exact aU
 ·exact .frozen λb=> .pure b
theorem MV(a b:Addr):aF ρ PL PM id (mayBeOne a b) (mayBeOne (aX ρ a) (aX ρ b)):=by unfold mayBeOne;exact aU
theorem MR(c:∀x y,ρ x=ρ y->x=y)(a b:Addr):aF ρ PL PM id (sameAddr a b) (sameAddr (aX ρ a) (aX ρ b)):=by unfold sameAddr;rw[wn,wn,lA c,tF c];exact aU
theorem uh(hi:∀x y,ρ x=ρ y->x=y)(a b:Option Addr):aF ρ PL PM id (samePointer a b) (samePointer (a.map (aX ρ)) (b.map (aX ρ))):=by cases a<;>cases b<;>unfold samePointer<;>exact aU
end
section
variable{α β:Type}{f:α->β}
theorem qW{a d:Type}(r:a->a){g g':a->d->Sem (ForInStep d)}(h:∀c s,aF ρ PL PM id (g c s) (g' (r c) s)):∀(l:List a) (b:d),aF ρ PL PM id (forIn l b g) (forIn (l.map r) b g')
 |[],b=>by simp only[Xo,a32];exact aP _ rfl
 |c::l,b=>by
  simp only[TP,Z3];refine(h c b).bind λs=> ?_;cases s with
  |done x=>exact aP _ rfl
  |yield x=>exact qW r h l x
theorem qX{a d:Type}(r:a->a){g g':a->d->Sem (ForInStep d)}(h:∀c s,aF ρ PL PM id (g c s) (g' (r c) s))(xs:Array a)(b:d):aF ρ PL PM id (forIn xs b g) (forIn (xs.map r) b g'):=by rw[←Xy,←Xy,Vj];exact qW r h _ _
theorem qZ(x:Value):aF ρ PL PM (aD ρ) (WU x) (WU (aD ρ x)):=by
 unfold WU;cases x<;>try exact aU
 rename_i a l c;cases a
 ·exact aU
 ·simp only[aD,TE];refine(gT _ l).bind λb=>(qX (aD ρ) (λx s=> ?_) b V7).bind λs=>aU;cases x<;>exact aU
theorem lD(a:Addr):aF ρ PL PM id (markStringish a) (markStringish (aX ρ a)):=by
 unfold markStringish;refine(lC a.block).bind λs=> ?_;cases s
 ·exact aU
 ·exact aF.freeze (a:=⟨_,_,none⟩) (.pure ())
theorem qT(e:TypeId)(s:ByteArray):aF ρ PL PM (aD ρ) (Ym e s) (Ym e s):=by
 unfold Ym;refine aF.bind (f:=id) (.choose λn=> .pure n) λc=> ?_;dsimp only[id];refine aF.bind (f:=aX ρ) ?_ λa=>(lD a).bind λ_=>aP _ (by simp[aD]);have h:=fQ (ρ:=ρ) (PL:=PL) (PM:=PM) e ((s.data.map λb:UInt8=>Value.int .u8 b.toNat)++TG (c- s.size) (Value.int .u8 0));have g:((s.data.map λb:UInt8=>Value.int .u8 b.toNat)++TG (c- s.size) (Value.int .u8 0)).map (aD ρ)=(s.data.map λb:UInt8=>Value.int .u8 b.toNat)++TG (c- s.size) (Value.int .u8 0):=by
  refine iP λv d=> ?_;rcases Ur.1 d with d|d
  ·obtain⟨b,_,rfl⟩:=a45.1 d;simp[aD]
  ·obtain⟨_,rfl⟩:=Zu.1 d;simp[aD]
 rwa [g]at h
theorem PU(hP:bO PL PM)(a:Array TypeId)(t:TypeId)(args:Array Value):aF ρ PL PM (aD ρ) (Vy a t args) (Vy a t (args.map (aD ρ))):=by unfold Vy;rw[TQ];cases a[0]?<;>cases args[0]?<;>exact aU
theorem PW(hP:bO PL PM)(a:Array TypeId)(t:TypeId)(args:Array Value):aF ρ PL PM (aD ρ) (ZQ a t args) (ZQ a t (args.map (aD ρ))):=by unfold ZQ;rw[TQ];cases a[0]?<;>cases args[0]?<;>exact aU
theorem Av(x:Value):aF ρ PL PM id (WC x) (WC (aD ρ x)):=by unfold WC;exact aU
theorem iH(size n:Nat)(x:Value):aF ρ PL PM (Ww (aD ρ)) (Vr size n x) (Vr size n (aD ρ x)):=by
 cases x with
 |slice a l c=>
  cases a with
  |none=>simp only[aD,Xx];exact aP _ s_
  |some a=>simp only[aD,TE];exact gT a _
 |string s=>
  simp only[aD];refine aP _ (iP λv d=> ?_).symm;obtain⟨b,_,rfl⟩:=a45.1 d;simp[aD]
 |_=>simp only[aD];exact .dead trivial
theorem Mh(hP:bO PL PM)(b:Array TypeId)(t:TypeId)(args:Array Value):aF ρ PL PM (aD ρ) (WE b t args) (WE b t (args.map (aD ρ))):=by
 unfold WE;rw[TQ,TQ];cases b[0]?<;>cases args[0]?<;>cases args[1]?<;>try exact .dead trivial
 rename_i x v;refine(aY hP _).bind λa=> ?_;cases a<;>try exact .dead trivial
 cases x<;>try exact .dead trivial
 simp only[aD];refine(Av v).bind λn=>(ef hP _).bind λc=>(iH _ _ v).bind λd=> ?_;rename_i a _ _;cases a
 ·exact aU
 ·simp only[TE,Vj];exact aU
theorem Me(x y:Value):aF ρ PL PM (aD ρ) (XI x y) (XI (aD ρ x) (aD ρ y)):=by cases x<;>cases y<;>unfold XI<;>first|exact aU|(rename_i b;cases b<;>exact aU)
theorem wv:∀(l:List Value) (x:Value),aF ρ PL PM (aD ρ) (l.foldlM XI x) ((l.map (aD ρ)).foldlM XI (aD ρ x))
 |[],x=>aP _ rfl
 |y::l,x=>by simp only[TP,XT];exact(Me x y).bind λz=>wv l z
theorem PS(a:Array TypeId)(t:TypeId)(args:Array Value):aF ρ PL PM (aD ρ) (YP a t args) (YP a t (args.map (aD ρ))):=by
 unfold YP;rw[Vj];cases args.toList
 ·exact aU
 ·exact wv _ _
theorem Mf(x y:Value):aF ρ PL PM (aD ρ) (XJ x y) (XJ (aD ρ x) (aD ρ y)):=by cases x<;>cases y<;>unfold XJ<;>first|exact aU|(rename_i b;cases b<;>exact aU)
theorem wu:∀(l:List Value) (x:Value),aF ρ PL PM (aD ρ) (l.foldlM XJ x) ((l.map (aD ρ)).foldlM XJ (aD ρ x))
 |[],x=>aP _ rfl
 |y::l,x=>by simp only[TP,XT];exact(Mf x y).bind λz=>wu l z
theorem PT(a:Array TypeId)(t:TypeId)(args:Array Value):aF ρ PL PM (aD ρ) (YQ a t args) (YQ a t (args.map (aD ρ))):=by
 unfold YQ;rw[Vj];cases args.toList
 ·exact aU
 ·exact wu _ _
theorem qV(hP:bO PL PM)(t:TypeId)(v:Value):aF ρ PL PM (aD ρ) (Vm t v) (Vm t (aD ρ v)):=by unfold Vm;exact aU
def nI(P:Program)(s:Sem α):Prop:=∀w,∃h w',s.run P w= .halt h w'/\True
theorem nI.after{c:Type}{s:Sem c}{k:c->Sem α}(h:∀a,nI PL (k a)):nI PL (s>>=k):=λw=>by
 rw[Uz];cases e:s.run PL w with
 |ok a b=>exact h a b
 |halt x b=>exact⟨x,b,rfl,trivial⟩
theorem np(v:Value):nI PL (goPanic v:Sem α):=λw=>⟨_,w,rfl,trivial⟩
theorem bE.push(h:bE w){o:Obj}(c:cN o=true):bE {w with heap:=w.heap.push o}:=by
 intro b x a;simp only[Uh]at a;split at a
 ·cases a;exact c
 ·exact h b x a
theorem ly(e:RuntimeError):nI PL (runtimePanic e:Sem α):=by unfold runtimePanic;refine nI.after λp=> ?_;cases e<;>first|exact np _|exact nI.after λ_=>nI.after λ_=>np _
end
section
variable{α β:Type}{f:α->β}
theorem uS(a:Addr)(n:Nat):aF ρ PL PM id (Yn a n) (Yn (aX ρ a) n):=by unfold Yn;exact aU
theorem Ar(hi:∀x y,ρ x=ρ y->x=y)(size l n:Nat)(base:Option Addr)(x:Value):aF ρ PL PM id (YK size l n base x) (YK size l n (base.map (aX ρ)) (aD ρ x)):=by
 unfold YK;cases base with
 |none=>
  simp only[Xx,pure_bind,WZ,TK,↓reduceIte,Option.any_none];cases x<;>try exact aU
  rename_i b _ _;cases b<;>exact aU
 |some a=>
  refine(uS a _).bind λh=> ?_;refine aF.bind (f:=id) (by rw[←jr];exact wq _) λc=> ?_;simp only[id,TE,pure_bind,a23];refine cG aU ?_;cases x<;>try exact aU
  rename_i b _ _;cases b
  ·exact aU
  ·simp only[aD,TE,wn,lA hi];exact aU
theorem mo(a:Nat->Nat)(z:Array Value)(n:Nat):VS (z.map (aD a)) n=(VS z n).map (aD a):=by unfold VS;have:=pJ a z (n*z.size);rwa [V1]at this⊢
theorem ot(size n:Nat)(b:Option Addr)(l c:Nat):aF ρ PL PM (Ww (aD ρ)) (Vr size n (.slice b l c)) (Vr size n (.slice (b.map (aX ρ)) l c)):=by have:=iH (ρ:=ρ) (PL:=PL) (PM:=PM) size n (.slice b l c);simpa only[aD]using this
theorem wl(b:bO PL PM)(e:TypeId)(n size:Nat){k:Array Value->Sem α}{a:Array Value->Sem β}(h:∀cs,aF ρ PL PM f (k cs) (a (cs.map (aD ρ)))):
 aF ρ PL PM f ((if n*size=0 then pure #[]else do pure (VS (←zeroValue e).cells n))>>=k) ((if n*size=0 then pure #[]else do pure (VS (←zeroValue e).cells n))>>=a):=by refine aF.bind (f:=Ww (aD ρ)) (cG (aP _ s_) ?_) h;exact(mp b e).bind λz=>aP _ (by rw[fk,mo])
theorem G6(hP:bO PL PM)(hi:∀x y,ρ x=ρ y->x=y)(m:Array TypeId)(t:TypeId)(args:Array Value):aF ρ PL PM (aD ρ) (VX m t args) (VX m t (args.map (aD ρ))):=by
 unfold VX;rw[TQ,TQ];cases m[0]?<;>cases args[0]?<;>cases args[1]?<;>try exact .dead trivial
 rename_i s x;refine(aY hP _).bind λe=> ?_;cases e<;>try exact .dead trivial
 cases s<;>try exact .dead trivial
 rename_i e g f h;simp only[aD];refine(ef hP e).bind λb=> ?_;dsimp only[id];cases m[1]?
 case' some t1=>
  refine(aY hP t1).bind λd=> ?_;dsimp only[id];cases d
  case int k=>
   simp only[pure_bind,TK,↓reduceIte,WZ];refine(lG x).bind λl=>cG (kE hP rfl _ _) ((de hP e).bind λi=>cG (.choose λn=>kE (e:= .error (if n==1 then "makeslice: len out of range" else "growslice: len out of range")) hP rfl _ _) (cG (wl hP e _ b λj=> ?_) ?_))
   ·rcases g with _|a
    ·exact aU
    ·simp only[TE,←jr,Vj];exact aU
   ·refine(de hP e).bind λi=>cG (kE hP rfl _ _) ((de hP e).bind λr=>cG (kE hP rfl _ _) (.choose λc=>(de hP e).bind λp=>(jL _).bind λ_=>(ot b f g f h).bind λo=>wl hP e _ b λj=>(mp hP e).bind λz=> ?_));rw[fk,mo,←V8,←V8];exact aU
 all_goals
  simp only[pure_bind,TK,↓reduceIte,Yo];refine(Av x).bind λn=>cG ((iH b n x).bind λj=> ?_) ((de hP e).bind λi=>cG (kE hP rfl _ _) ((de hP e).bind λr=>cG ?_ (.choose λc=>(de hP e).bind λp=>(jL _).bind λ_=>(ot b f g f h).bind λo=>(iH b n x).bind λj=>(mp hP e).bind λz=> ?_)))
  ·rcases g with _|a
   ·exact aU
   ·simp only[TE,←jr,Vj];exact aU
  ·rw[bind_assoc,bind_assoc];refine(Ar hi b f n g x).bind λq=> ?_;cases q
   ·exact .mark rfl (.dead trivial)
   ·exact .dead trivial
  ·rw[fk,mo,←V8,←V8];exact aU
end
section
variable{α β:Type}{f:α->β}
theorem wx(hP:bO PL PM)(t:TypeId):aF ρ PL PM id (elemOf t) (elemOf t):=by unfold elemOf;exact aU
theorem ug(hP:bO PL PM)(a:Addr)(u:TypeId)(n:Nat):aF ρ PL PM id (variablesAt a u n) (variablesAt (aX ρ a) u n):=by unfold variablesAt;exact aU
theorem qa:∀(n:Nat) (a:Addr) (c:ByteArray),aF ρ PL PM id (loadBytes a c n) (loadBytes (aX ρ a) c n)
 |0,a,c=>aP _ rfl
 |n+1,a,c=>by
  unfold loadBytes;refine(sL a).bind λv=> ?_;cases v with
  |int k b=>
   simp only[aD];cases k with
   |u8=>rw[←jr];exact qa n _ _
   |_=>exact .dead trivial
  |_=>simp only[aD];exact .dead trivial
theorem PV(r:Nat):aF ρ PL PM id (cellsIn r) (cellsIn (ρ r)):=by
 unfold cellsIn;refine(lC r).bind λs=> ?_;cases s
 ·refine aF.getObj λo _=> ?_;cases o<;>first|exact aP _ rfl|exact aP _ s_
 ·exact aU
theorem sj(hP:bO PL PM)(a:Array TypeId)(t:TypeId)(args:Array Value):aF ρ PL PM (aD ρ) (XQ a t args) (XQ a t (args.map (aD ρ))):=by
 rcases args with⟨_|⟨x,_|⟨v,_|_⟩⟩⟩<;>try exact .dead trivial
 rw[show(Array.mk [x,v]).map (aD ρ)=#[aD ρ x,aD ρ v] by simp];cases x<;>try exact .dead trivial
 rename_i p;simp only[aD];unfold XQ;refine aF.bind (lG v) λn=> ?_;cases a[0]?<;>try exact .dead trivial
 refine cG aU (cG aU ?_);cases p
 ·exact aU
 ·refine cG aU ((wx hP _).bind λe=>(ug hP _ e _).bind λq=>cG ((qa _ _ _).bind λs=> .freeze aU) aU)
theorem oZ(f:bO PL PM)(d:Array TypeId)(t:TypeId)(args:Array Value):aF ρ PL PM (aD ρ) (Xq d t args) (Xq d t (args.map (aD ρ))):=by
 rcases args with⟨l⟩;rcases l with _|⟨x,_|⟨y,l⟩⟩
 ·exact .dead trivial
 ·rw[show(Array.mk [x]).map (aD ρ)=#[aD ρ x] by simp];cases x with
  |slice b l c=>
   rw[show aD ρ (.slice b l c)= .slice (b.map (aX ρ)) l c by simp only[aD]];cases b with
   |none=>exact aP (XY none) (by simp[aD])
   |some a=>
    unfold Xq;show aF ρ PL PM (aD ρ) (if c≠0 then _ else _) (if c≠0 then _ else _);refine cG (aP _ (by simp[aD])) ?_;refine(wm a.block).bind λv=> ?_;rw[ZR];refine cG (aP _ (by simp[aD])) ?_;refine(wx f t).bind λe=> ?_;refine(Cn (.view a e) rfl).bind λn=> ?_;exact aP _ (by simp[aD,aX])
  |_=>exact .dead trivial
 ·exact .dead trivial
theorem uT(s:FloatKind)(b:Nat)(k:IntKind):aF ρ PL PM (aD ρ) (Z4 s b k) (Z4 s b k):=by unfold Z4;exact aU
theorem mB(s:FloatKind)(b:Nat)(k:FloatKind):aF ρ PL PM (aD ρ) (X8 s b k) (X8 s b k):=by unfold X8;exact aU
theorem nY(s:FloatKind)(a b:Nat)(k:FloatKind):aF ρ PL PM (aD ρ) (XS s a b k) (XS s a b k):=by unfold XS;refine(mB s a k).bind λx=> ?_;cases x<;>exact aU
theorem qU(x:Value):aF ρ PL PM (aD ρ) (WV x) (WV (aD ρ x)):=by
 unfold WV;cases x<;>try exact aU
 rename_i a l c;cases a
 ·exact aU
 ·simp only[aD,TE];refine(gT _ l).bind λb=>(qX (aD ρ) (λx s=> ?_) b V7).bind λs=>aU;cases x<;>exact aU
theorem vt(b:Nat->Nat)(s:ByteArray):∀(n i:Nat) (a:Array Value),a.map (aD b)=a->(WJ s n i a).map (aD b)=WJ s n i a
 |0,i,a,h=>h
 |n+1,i,a,h=>by
  unfold WJ;split
  ·exact vt b s n _ _ (by rw[a3_,h];simp[aD])
  ·exact h
theorem qS(e:TypeId)(s:ByteArray):aF ρ PL PM (aD ρ) (Yp e s) (Yp e s):=by
 unfold Yp;refine .choose λc=> ?_;have b:∀n,(WJ s s.size 0 #[]++TG n (Value.int .i32 0)).map (aD ρ)=WJ s s.size 0 #[]++TG n (Value.int .i32 0):=λn=>by rw[V8,vt ρ s s.size 0 #[] s_,Ya];simp[aD]
 refine aF.bind (f:=aX ρ) (by have:=fQ (ρ:=ρ) (PL:=PL) (PM:=PM) e (WJ s s.size 0 #[]++TG (c-(WJ s s.size 0 #[]).size) (.int .i32 0));rw[b]at this;exact this) λa=>aP _ (by simp[aD])
theorem Qx(hP:bO PL PM)(a:Addr):aF ρ PL PM (aX ρ) (a19 a) (a19 (aX ρ a)):=by unfold a19;exact aU
theorem MW(a:Addr)(b:Bool):aF ρ PL PM (aD ρ) (asNumber a b) (asNumber (aX ρ a) b):=by unfold asNumber;exact aU
theorem Aj(hP:bO PL PM)(src dst:TypeId)(x:Value):aF ρ PL PM (aD ρ) (Yq src dst x) (Yq src dst (aD ρ x)):=by unfold Yq;refine(aY hP src).bind λd=>(aY hP dst).bind λa=> ?_;cases x<;>cases d<;>cases a<;>exact aU
theorem iI(b:Option Addr)(l c:Nat):aF ρ PL PM (aD ρ) (WU (.slice b l c)) (WU (.slice (b.map (aX ρ)) l c)):=by
 have:=qZ (ρ:=ρ) (PL:=PL) (PM:=PM) (.slice b l c)
 rwa [show aD ρ (.slice b l c)= .slice (b.map (aX ρ)) l c by simp only[aD]]at this
theorem iG(b:Option Addr)(l c:Nat):aF ρ PL PM (aD ρ) (WV (.slice b l c)) (WV (.slice (b.map (aX ρ)) l c)):=by
 have:=qU (ρ:=ρ) (PL:=PL) (PM:=PM) (.slice b l c)
 rwa [show aD ρ (.slice b l c)= .slice (b.map (aX ρ)) l c by simp only[aD]]at this
theorem Ct(g:bO PL PM)(src dst:TypeId)(x:Value):aF ρ PL PM (aD ρ) (convert src dst x) (convert src dst (aD ρ x)):=by
 have f:=Aj (ρ:=ρ) g src dst x;unfold convert;refine(aY g src).bind λd=> ?_;refine(aY g dst).bind λh=> ?_;dsimp only[id];cases x with
 |slice b l c=>
  rw[show aD ρ (.slice b l c)= .slice (b.map (aX ρ)) l c by simp only[aD]]at f⊢;cases b with
  |none=>cases h<;>first|exact f|(cases d<;>first|exact .dead trivial|exact f|(refine(aY g _).bind λe=> ?_;cases e<;>first|exact .dead trivial|(rename_i k;cases k<;>first|exact .dead trivial|exact iI _ _ _|exact iG _ _ _)))
  |some a=>cases h<;>first|exact f|(cases d<;>first|exact .dead trivial|exact f|(refine(aY g _).bind λe=> ?_;cases e<;>first|exact .dead trivial|(rename_i k;cases k<;>first|exact .dead trivial|exact iI _ _ _|exact iG _ _ _))|(refine(aY g _).bind λe=> ?_;cases src==dst<;>first|exact .dead trivial|(cases e<;>first|exact .dead trivial|(rename_i k;cases k<;>first|exact .dead trivial|exact(lD a).bind λ_=>aP _ (by simp[aD])))))
 |pointer p=>
  rw[show aD ρ (.pointer p)= .pointer (p.map (aX ρ)) by simp only[aD]]at f⊢;cases p<;>cases h<;>first|exact f|(cases d<;>first|exact .dead trivial|exact f|(refine(aY g _).bind λe=> ?_;cases e<;>first|exact .dead trivial|(rename_i k;cases k<;>first|exact .dead trivial|exact iI _ _ _|exact iG _ _ _)))
 |_=>
  simp only[aD]at f⊢;cases h<;>first|exact aP _ (by simp[aD])|exact uT _ _ _|exact mB _ _ _|exact nY _ _ _ _|exact f|(refine(aY g _).bind λe=> ?_;cases e<;>first|exact .dead trivial|(rename_i k;cases k<;>first|exact .dead trivial|exact qT _ _|exact qS _ _))|(cases d<;>first|exact .dead trivial|exact f|(refine(aY g _).bind λe=> ?_;cases e<;>first|exact .dead trivial|(rename_i k;cases k<;>first|exact .dead trivial|exact iI _ _ _|exact iG _ _ _)))
end
inductive dX {α:Type}:Sem α->Prop
 |pure (a:α):dX (.pure a)
 |choose {q:Question} {k:Nat->Sem α} (h:∀n,dX (k n)):dX (.choose q k)
 |halt {h:Halt} (d:eO h):dX (.halt h)
theorem dX.bind{b c:Type}{s:Sem b}{k:b->Sem c}(h:dX s)(f:∀a,dX (k a)):dX (s>>=k):=by
 show dX (s.bind k);induction h with
 |pure a=>exact f a
 |choose _ e=>exact .choose e
 |halt d=>exact .halt d
theorem dX.ite{a:Type}{c:Prop}[Decidable c]{A B:Sem a}(d:dX A)(b:dX B):dX (if c then A else B):=by split<;>assumption
theorem sU{α:Type}{s:Sem α}(h:dX s:=by
 try simp only[pure_bind]
 first
 |exact .pure _
 |exact .halt trivial
 |with_reducible exact jT _ _ _ _
 |with_reducible exact sc _ _ _ _ _
 |refine dX.ite ?_ ?_
 |refine .choose λn=> ?_
 |refine dX.bind (jT _ _ _ _) λ_=> ?_
 |refine dX.bind (Tn _ _ _ _) λ_=> ?_
 |refine dX.bind (qg _ _ _ _) λv=> ?_
 |refine dX.bind (To _ _ _ _) λv=> ?_
 |refine dX.bind (oA _ _ _) λv=> ?_
 |cases (v:Value)
 |cases (op:BinOp)
 |split
 all_goals exact sU):dX s:=h
theorem qg(op:BinOp)(k:FloatKind)(x y:Nat):dX (XZ op k x y):=by unfold XZ;exact sU
theorem To(op:BinOp)(k:FloatKind)(x y:Nat):dX (Yx op k x y):=by unfold Yx;exact sU
theorem oA(s:FloatKind)(b:Nat)(k:FloatKind):dX (X8 s b k):=by unfold X8;exact sU
theorem jT(op:BinOp)(k:FloatKind)(x y:Nat):dX (a06 op k x y):=by unfold a06;exact sU
theorem Tn(op:BinOp)(k:FloatKind)(x y:Nat):dX (a33 op k x y):=by unfold a33;exact sU
theorem ic(s:FloatKind)(x:Nat)(k:FloatKind):dX (a24 s x k):=by unfold a24;exact sU
theorem uz(a b c d:Nat):dX (ZE a b c d):=by unfold ZE;exact sU
theorem sc(s a b c d:Nat):dX (Zj s a b c d):=by unfold Zj;exact sU
theorem t8(a b c d:Nat):dX (Zv a b c d):=by unfold Zv;exact sU
section
variable{α β:Type}{f:α->β}
theorem dX.alike{s:Sem α}(h:dX s):aF ρ PL PM id s s:=by
 induction h with
 |pure a=>exact .pure a
 |choose _ b=>exact .choose b
 |halt d=>exact .dead d
theorem JA(op:BinOp)(k:FloatKind)(x y:Nat):aF ρ PL PM (aD ρ) (XZ op k x y) (XZ op k x y):=by unfold XZ;exact aU
theorem Tu(op:BinOp)(k:FloatKind)(x y:Nat):aF ρ PL PM (aD ρ) (Yx op k x y) (Yx op k x y):=by unfold Yx;exact aU
theorem Mi(op:BinOp)(k:FloatKind)(a b c d:Nat):aF ρ PL PM (aD ρ) (ZS op k a b c d) (ZS op k a b c d):=by
 unfold ZS;cases op<;>first
  |exact aU
  |exact(jT _ _ _ _).alike.bind λ_=>(jT _ _ _ _).alike.bind λ_=>aU
  |exact(Tn _ _ _ _).alike.bind λ_=>(Tn _ _ _ _).alike.bind λ_=>aU
  |(refine(ic _ _ _).alike.bind λ_=>(ic _ _ _).alike.bind λ_=>(ic _ _ _).alike.bind λ_=>(ic _ _ _).alike.bind λ_=> ?_
    first
     |refine(uz _ _ _ _).alike.bind λ_=> ?_
     |refine(t8 _ _ _ _).alike.bind λ_=> ?_
    exact(ic _ _ _).alike.bind λ_=>(ic _ _ _).alike.bind λ_=>aU)
theorem rU(r:Nat):aF ρ PL PM (Yh λx=>(aX ρ x.1,x.2)) (numberAt r) (numberAt (ρ r)):=by unfold numberAt;exact(lC r).bind λs=>cG aU (.getObj λo _=>by cases o<;>exact aP _ rfl)
theorem iu(a:Addr):aF ρ PL PM (λx=>(aX ρ x.1,x.2)) (behindNumber a) (behindNumber (aX ρ a)):=by unfold behindNumber;refine(rU a.block).bind λx=> ?_;cases x<;>exact aU
theorem mq(hP:bO PL PM)(a:Array TypeId)(t:TypeId)(x y:Value):aF ρ PL PM (aD ρ) (Yr a t #[x,y]) (Yr a t #[aD ρ x,aD ρ y]):=by
 cases x<;>try exact .dead trivial
 rename_i p;simp only[aD];unfold Yr;refine aF.bind (lG y) λn=> ?_;cases p<;>exact aU
theorem nC(hP:bO PL PM)(t:TypeId)(x y:Value):aF ρ PL PM (aD ρ) (movedNumber t x y) (movedNumber t (aD ρ x) (aD ρ y)):=by
 unfold movedNumber;refine(aY hP t).bind λd=>cG aU ?_;have b:=mq (ρ:=ρ) hP #[] t x y;cases x<;>simp only[aD]at b⊢<;>try exact b
 rename_i p;cases p
 ·exact b
 rename_i a;refine(iu a).bind λz=> ?_;have c:=mq (ρ:=ρ) hP #[] t (.pointer (some z.1)) y;simp only[aD,TE]at c;refine c.bind λv=> ?_;cases v<;>try exact aU
 rename_i q;cases q
 ·exact aU
 ·simp only[aD,TE];exact aU
theorem sn(hP:bO PL PM)(t:TypeId)(x y:Value):aF ρ PL PM (aD ρ) (movedPointer t x y) (movedPointer t (aD ρ x) (aD ρ y)):=by
 unfold movedPointer;have a:=mq (ρ:=ρ) hP #[] t x y;cases x<;>simp only[aD]at a⊢<;>try exact a
 rename_i p;cases p
 ·exact a
 refine(rU _).bind λz=> ?_;rw[ZR];exact cG aU a
def Jt(PL PM:Program)(ρ:Nat->Nat):Prop:=(∀x y,ρ x=ρ y->x=y)/\∀b,b<PL.globals.size↔ρ b<PM.globals.size
theorem q8(c:bO PL PM)(d:Jt PL PM ρ)(a b:Addr):aF ρ PL PM id (ZT a b) (ZT (aX ρ a) (aX ρ b)):=by
 unfold ZT;refine .program ?_;simp only[Ud];have f:((aX ρ a).block !=(aX ρ b).block)=(a.block !=b.block):=by have:=lA d.1 a.block b.block;simp only[bne,aX,this]
 have e:decide ((aX ρ a).block≥PM.globals.size)=decide (a.block≥PL.globals.size):=by have:=d.2 a.block;exact decide_eq_decide.2 (by simp only[aX];omega)
 rw[f,e];refine cG (.dead trivial) ?_;refine(lF c a).bind λx=>(lF c b).bind λy=>aP _ rfl
theorem Cw(c:bO PL PM)(d:Jt PL PM ρ)(k:IntKind)(a b:Addr):aF ρ PL PM (aD ρ) (Op.addrSub k a b) (Op.addrSub k (aX ρ a) (aX ρ b)):=
 (q8 c d a b).bind λx=>aP _ (by simp[aD])
theorem Cx(c:bO PL PM)(d:Jt PL PM ρ)(op:BinOp)(a b:Addr):aF ρ PL PM (aD ρ) (Op.addrCmp op a b) (Op.addrCmp op (aX ρ a) (aX ρ b)):=
 (q8 c d a b).bind λx=>by cases op<;>first|exact aP _ (by simp[aD])|exact .dead trivial
theorem PZ(hP:bO PL PM)(k:IntKind)(a:Addr)(n:Int):aF ρ PL PM (aD ρ) (a34 k a n) (a34 k (aX ρ a) n):=by unfold a34;exact aU
end
section
variable{α β:Type}{f:α->β}
theorem ws{d a:Type}{g g':d->a->Sem (ForInStep a)}(h:∀c s,aF ρ PL PM id (g c s) (g' c s))(xs:Array d)(b:a):aF ρ PL PM id (forIn xs b g) (forIn xs b g'):=by
 have:=qX (ρ:=ρ) (PL:=PL) (PM:=PM) id h xs b
 rwa [Array.map_id]at this
theorem wt{a:Type}{g g':Nat->a->Sem (ForInStep a)}(h:∀c s,aF ρ PL PM id (g c s) (g' c s))(r:Std.Legacy.Range)(b:a):aF ρ PL PM id (forIn r b g) (forIn r b g'):=by rw[Xg,Xg];have:=qW (ρ:=ρ) (PL:=PL) (PM:=PM) id h (List.range' r.start r.size r.step) b;rwa [List.map_id]at this
def Mq(ρ:Nat->Nat)(PL PM:Program)(d:Nat):Prop:=∀(t:TypeId) (x y:Value),aF ρ PL PM id (V6 d t x y) (V6 d t (aD ρ x) (aD ρ y))
theorem Je(hP:bO PL PM){d:Nat}(ih:Mq ρ PL PM d)(t:TypeId)(xs:Array Value)(y:Value):aF ρ PL PM id (V6 (d+1) t (.agg xs) y) (V6 (d+1) t (aD ρ (.agg xs)) (aD ρ y)):=by
 unfold Mq at ih;unfold V6;refine(aY hP t).bind λe=> ?_;cases e<;>cases y<;>try exact aU
 ·simp only[aD,id];refine(ef hP _).bind λz=> ?_;exact(wt (λi a=>by exact aU) _ (none,())).bind λa=>by exact aU
 ·simp only[aD,id];refine .program ?_;simp only[Ud];rw[←hP.stood];exact cG aU ((ws (λb a=>by exact aU) _ (none,())).bind λa=>by exact aU)
theorem Cs(hP:bO PL PM){d:Nat}(ih:Mq ρ PL PM d)(t:TypeId)(a:TypeId)(v1:Value)(y:Value):aF ρ PL PM id (V6 (d+1) t (.iface a v1) y) (V6 (d+1) t (aD ρ (.iface a v1)) (aD ρ y)):=by
 unfold V6;refine(aY hP t).bind λe=> ?_;cases e<;>cases y<;>try exact aU
 simp only[aD,id];refine cG aU ((de hP a).bind λi=>cG (.program (.program ?_)) (ih a v1 _));simp only[Ud];rw[←hP.packed];unfold typeStr;exact aU
theorem Jd(hP:bO PL PM)(hF:Jt PL PM ρ)(d:Nat)(t:TypeId)(a:Option Addr)(y:Value):aF ρ PL PM id (V6 (d+1) t (.pointer a) y) (V6 (d+1) t (aD ρ (.pointer a)) (aD ρ y)):=by
 unfold V6;refine(aY hP t).bind λe=> ?_;cases y
 case pointer b=>
  have hi:=hF.1;simp only[aD];cases e<;>cases a<;>cases b<;>try exact aU
  ·rename_i a b;simp only[id,TE];refine(iu a).bind λu=>(iu b).bind λv=> .program ?_;have c:decide (ρ u.1.block<PM.globals.size)=decide (u.1.block<PL.globals.size):=decide_eq_decide.2 (hF.2 u.1.block).symm;simp only[Ud];rw[wn,wn,lA hF.1,c,tF hF.1];exact aU
  ·exact uh hF.1 (some _) (some _)
  ·simp only[id,TE,tF hF.1];exact aU
 case int k n=>cases e<;>cases a<;>rcases n with(_|n)|n<;>exact aU
 all_goals cases e<;>cases a<;>exact aU
end
section
variable{α β:Type}{f:α->β}
theorem Ob(c:∀x y,ρ x=ρ y->x=y)(a b:Option Nat):(a.map ρ==b.map ρ)=(a==b):=by cases a<;>cases b<;>first|rfl|exact lA c _ _
theorem eQ{s s':Sem Bool}(h:aF ρ PL PM id s s':=by simp only[aD,Option.map_none,Option.map_some];unfold Op.equalIn;refine(aY hP t).bind λe=> ?_;dsimp only[id];cases e<;>first|exact .dead trivial|exact aP _ rfl|with_reducible exact jH hP rfl|exact cG (aP _ rfl) (jH hP rfl)|exact cG (aP _ rfl) (.dead trivial)|exact aP _ (Ob hF.1 _ _)):aF ρ PL PM id s s':=h
theorem um(hP:bO PL PM)(hF:Jt PL PM ρ):∀d:Nat,Mq ρ PL PM d
 |0=>λ_ _ _=> .dead trivial
 |d+1=>λt x y=>by
  have ih:=um hP hF d;cases x<;>first|exact Je hP ih t _ y|exact Cs hP ih t _ _ y|exact Jd hP hF d t _ y|skip
  all_goals cases y<;>first|exact eQ|(rename_i a;cases a<;>exact eQ)|(rename_i a p;cases a<;>cases p<;>exact eQ)|(rename_i a p;cases p<;>rcases a with(_|a)|a<;>exact eQ)|(rename_i a _ _;cases a<;>exact eQ)|(rename_i a _ _ _ _;cases a<;>exact eQ)|(rename_i a _ _ _ _ _;cases a<;>exact eQ)|(rename_i a _ _ p;cases a<;>cases p<;>exact eQ)|(rename_i a _ _ p _ _;cases a<;>cases p<;>exact eQ)
end
section
variable{α β:Type}{f:α->β}
theorem ul(hP:bO PL PM):∀(d:Nat) (t:TypeId) (x y:Value),aF ρ PL PM id (ZU d t x y) (ZU d t (aD ρ x) (aD ρ y))
 |0,t,x,y=> .dead trivial
 |d+1,t,x,y=>by
  have ih:=ul hP d;unfold ZU;refine(aY hP t).bind λe=> ?_;cases e<;>try exact aU
  all_goals cases x<;>cases y<;>try exact aU
  ·simp only[aD,id];refine(ef hP _).bind λz=> ?_;exact(wt (λi st=>by exact aU) _ (none,())).bind λst=>by exact aU
  ·simp only[aD,id];exact(ws (λfd st=>by exact aU) _ (none,())).bind λst=>by exact aU
theorem Jb(hP:bO PL PM)(op:BinOp)(t:TypeId)(a b:Operand)(x y:Value):aF ρ PL PM id (eqGuard op t a b x y) (eqGuard op t a b (aD ρ x) (aD ρ y)):=by unfold eqGuard;have c:=ul (ρ:=ρ) hP Op.maxDepth t x y;refine cG aU ?_;cases x<;>cases y<;>simp only[aD]at c⊢<;>first|exact aP _ rfl|exact cG aU (c.bind λq=>aU)|(refine .program (.program ?_);simp only[Ud];rw[←hP.guard];exact cG aU (c.bind λq=>aU))
def gf(x y:Value):Bool:=
 match x,y with
 | .int _ _, .int _ _| .float _ _, .float _ _| .complex _ _ _, .complex _ _ _| .string _, .string _=>true
 |_,_=>false
theorem yv(x y:Value):gf (aD ρ x) (aD ρ y)=gf x y:=by cases x<;>cases y<;>simp only[aD,gf]
theorem E0(t:TypeId){x y:Value}(h:gf x y=false):binOp .eql t x y=(do pure (.bool (←Op.equal t x y))):=by cases x<;>cases y<;>first|rfl|(simp[gf]at h;done)
theorem DZ(t:TypeId){x y:Value}(h:gf x y=false):binOp .neq t x y=(do pure (.bool (!(←Op.equal t x y)))):=by cases x<;>cases y<;>first|rfl|(simp[gf]at h;done)
theorem uV(hP:bO PL PM)(op:BinOp)(t:TypeId){x y:Value}(h:gf x y=true):aF ρ PL PM (aD ρ) (binOp op t x y) (binOp op t (aD ρ x) (aD ρ y)):=by
 cases x<;>cases y<;>first|(cases h;done)|skip
 all_goals cases op<;>simp only[aD,binOp]<;>exact aU
theorem xX(hP:bO PL PM)(op:BinOp)(t:TypeId)(k:IntKind)(n:Int)(p:Option Addr)(c:op≠ .eql)(b:op≠ .neq):aF ρ PL PM (aD ρ) (binOp op t (.int k n) (.pointer p)) (binOp op t (.int k n) (.pointer (p.map (aX ρ)))):=by have a:=nC (ρ:=ρ) hP t (.pointer p) (.int k n);simp only[aD]at a;cases op<;>first|exact a|contradiction|(cases p<;>simp only[Xx,TE,binOp]<;>exact aU)
theorem xW(hP:bO PL PM)(op:BinOp)(t:TypeId)(k:IntKind)(n:Int)(p:Option Addr)(e:op≠ .eql)(c:op≠ .neq):aF ρ PL PM (aD ρ) (binOp op t (.pointer p) (.int k n)) (binOp op t (.pointer (p.map (aX ρ))) (.int k n)):=by have a:=λn=>nC (ρ:=ρ) hP t (.pointer p) (.int k n);have b:=sn (ρ:=ρ) hP t (.pointer p) (.int k n);simp only[aD]at a b;cases op<;>first|exact a _|exact(aY hP t).bind λd=>cG b (a n)|contradiction|(cases p<;>simp only[Xx,TE,binOp]<;>exact aU)
theorem xV(hP:bO PL PM)(hF:Jt PL PM ρ)(op:BinOp)(t:TypeId)(p q:Option Addr)(b:op≠ .eql)(a:op≠ .neq):aF ρ PL PM (aD ρ) (binOp op t (.pointer p) (.pointer q)) (binOp op t (.pointer (p.map (aX ρ))) (.pointer (q.map (aX ρ)))):=by cases op<;>first|contradiction|(cases p<;>cases q<;>first|exact .dead trivial|exact(iu _).bind λx=>(iu _).bind λy=>Cw hP hF _ x.1 y.1|exact(iu _).bind λx=>(iu _).bind λy=>Cx hP hF _ x.1 y.1)
theorem IY(op:BinOp)(t:TypeId){x y:Value}(c:gf x y=false)(b:op≠ .eql)(a:op≠ .neq)(g:∀p,x= .pointer p->(∀k n,y≠ .int k n)/\∀q,y≠ .pointer q)(f:∀p,y= .pointer p->∀k n,x≠ .int k n):∃h,binOp op t x y= .halt h/\eO h:=by
 cases x with
 |pointer p=>
  obtain⟨e,d⟩:=g p rfl;cases y with
  |int k n=>exact absurd rfl (e k n)
  |pointer q=>exact absurd rfl (d q)
  |_=>cases p<;>cases op<;>first|exact⟨_,rfl,trivial⟩|exact absurd rfl b|exact absurd rfl a
 |int k n=>
  cases y with
  |pointer q=>exact absurd rfl (f q rfl k n)
  |_=>cases op<;>first|exact⟨_,rfl,trivial⟩|exact absurd rfl b|exact absurd rfl a|(simp[gf]at c;done)
 |_=>
  cases y with
  |pointer q=>cases q<;>cases op<;>first|exact⟨_,rfl,trivial⟩|exact absurd rfl b|exact absurd rfl a
  |_=>cases op<;>first|exact⟨_,rfl,trivial⟩|exact absurd rfl b|exact absurd rfl a|(simp[gf]at c;done)
theorem PY(a:bO PL PM)(j:Jt PL PM ρ)(op:BinOp)(t:TypeId)(x y:Value):aF ρ PL PM (aD ρ) (binOp op t x y) (binOp op t (aD ρ x) (aD ρ y)):=by
 cases d:gf x y with
 |true=>exact uV a op t d
 |false=>
  have c:=(yv (ρ:=ρ) x y).trans d;by_cases i:op= .eql
  ·subst i;rw[E0 t d,E0 t c];exact aF.bind (um a j _ t x y) λb=>aP _ (by simp[aD])
  ·by_cases g:op= .neq
   ·subst g;rw[DZ t d,DZ t c];exact aF.bind (um a j _ t x y) λb=>aP _ (by simp[aD])
   ·by_cases f:(∀p,x= .pointer p->(∀k n,y≠ .int k n)/\∀q,y≠ .pointer q)/\∀p,y= .pointer p->∀k n,x≠ .int k n
    ·obtain⟨h,e,l⟩:=IY op t d i g f.1 f.2;rw[e];exact .dead l
    ·cases x with
     |pointer p=>
      cases y with
      |int k n=>
       have:=xW (ρ:=ρ) a op t k n p i g
       rwa [show aD ρ (.pointer p)= .pointer (p.map (aX ρ)) by simp only[aD],show aD ρ (.int k n)= .int k n by simp only[aD]]
      |pointer q=>
       have:=xV (ρ:=ρ) a j op t p q i g
       rwa [show aD ρ (.pointer p)= .pointer (p.map (aX ρ)) by simp only[aD],show aD ρ (.pointer q)= .pointer (q.map (aX ρ)) by simp only[aD]]
      |_=>exact absurd ⟨λ_ _=>⟨λ_ _ h=>by simp at h,λ_ h=>by simp at h⟩,λ_ h=>by simp at h⟩ f
     |int k n=>
      cases y with
      |pointer q=>
       have:=xX (ρ:=ρ) a op t k n q i g
       rwa [show aD ρ (.pointer q)= .pointer (q.map (aX ρ)) by simp only[aD],show aD ρ (.int k n)= .int k n by simp only[aD]]
      |_=>exact absurd ⟨λ_ h=>by simp at h,λ_ h=>by simp at h⟩ f
     |_=>exact absurd ⟨λ_ h=>by simp at h,λ_ _ _ _ h=>by simp at h⟩ f
end
def GV(ρ:Nat->Nat):Place->Place
 | .val v=> .val (aD ρ v)
 | .var a=> .var (aX ρ a)
section
variable{α β:Type}{f:α->β}
theorem Co(b:bO PL PM)(t:TypeId)(x:Place):aF ρ PL PM (aD ρ) (x.get t) ((GV ρ x).get t):=by
 cases x with
 |val v=>exact aP _ rfl
 |var a=>exact jI b t a
theorem qY(hP:bO PL PM):∀(l:List FieldStep) (t:TypeId) (x:Place),aF ρ PL PM (λy=>(y.1,GV ρ y.2)) (follow l t x) (follow l t (GV ρ x))
 |[],t,x=>aP _ rfl
 |s::rest,t,x=>by
  have ih:=qY hP rest;unfold follow;refine(aY hP s.struct).bind λe=> ?_;dsimp only[id];cases e<;>try exact aU
  rename_i fs;dsimp only;cases fs[s.index]? with
   |none=>exact .dead trivial
   |some fd=>
    dsimp only;refine cG ?_ ?_
    ·refine(Co hP t x).bind λv=> ?_;refine(lH hP v).bind λa=> ?_;refine(kF hP a fd).bind λb=> ?_;exact ih fd.type (.var b)
    ·cases x with
     |var a=>
      refine(kF hP a fd).bind λb=> ?_;exact ih fd.type (.var b)
     |val v=>
      cases v with
      |agg cs=>
       simp only[GV,aD];refine(xS hP fd.type cs fd.offset).bind λu=> ?_;exact ih fd.type (.val u)
      |_=>exact .dead trivial
theorem jK(l:Nat){k:Loop->Sem α}{a:Loop->Sem β}(h:∀r,cN (.loop r)=true->aF ρ PL PM f (k r) (a (sD ρ r))):aF ρ PL PM f (VI l>>=k) (VI (ρ l)>>=a):=by
 unfold VI;refine .getObj λo b=> ?_;cases o with
 |loop r=>exact h r b
 |_=>exact .dead trivial
theorem ou(b:bO PL PM)(l:Nat):aF ρ PL PM id (Vk l) (Vk (ρ l)):=by
 unfold Vk;refine jK l λr a=>.setObj (o:= .loop {r with state:= .busy}) a ?_;show aF ρ PL PM id (match r.state with| .ready=>_| .done=>_| .busy=>_| .exhausted=>_) (match r.state with| .ready=>_| .done=>_| .busy=>_| .exhausted=>_);cases r.state with
 |ready=>exact aP _ rfl
 |_=>exact jH b rfl
theorem rX(l:Nat)(a:Option Code)(c:a.all (j3 0)=true):aF ρ PL PM (aD ρ) (UI l a) (UI (ρ l) a):=by unfold UI;refine jK l λr b=>.setObj (o:= .loop {r with state:=if a.isNone then .ready else .done,pending:=a}) ?_ (aP _ (by simp[aD]));simp only[cN,IN]at b⊢;exact⟨⟨b.1.1,c⟩,b.2⟩
theorem mu(b:bO PL PM)(l:Nat):aF ρ PL PM id (UG l) (UG (ρ l)):=by unfold UG;refine jK l λr a=> ?_;show aF ρ PL PM id (if (r.state==a35)=true then _ else _) (if (r.state==a35)=true then _ else _);refine cG (kE b rfl _ _) ?_;exact .setObj (o:= .loop {r with state:= .exhausted}) a (aP _ rfl)
theorem mA(b:Nat):aF ρ PL PM (Zg (iN ρ)) (UN b) (UN (ρ b)):=by
 unfold UN;refine .getObj λo c=> ?_;cases o with
 |deferred a=>
  cases a with
  |none=>exact .dead trivial
  |some a=>exact .setObj (o:= .deferred none) rfl (aP _ rfl)
 |_=>exact .dead trivial
theorem mt(fn:FuncId)(tmps:Array Value)(params:Array Tmp)(assign body:Code)(a:Option Nat)(g:j3 0 assign=true)(f:j3 0 body=true)(e:dm fn=0):
 aF ρ PL PM (λx=>(ρ x.1,x.2.map (iN ρ))) (U3 fn tmps params assign body a) (U3 fn (tmps.map (aD ρ)) params assign body (a.map ρ)):=by
 unfold U3;have c:∀d,cN (.loop {state:= .ready,pending:=none,fn,tmps,params,assign,body,defers:=d})=true:=λd=>by simp[cN,g,f,e]
 cases a with
 |none=>
  refine .new (o:= .deferred (some [])) rfl λb=> ?_;exact .new (o:= .loop {state:= .ready,pending:=none,fn,tmps,params,assign,body,defers:=b}) (c b) λn=>aP _ (by simp[iN,KV])
 |some l=>
  simp only[TE];refine jK l λr h=> ?_;exact .new (o:= .loop {state:= .ready,pending:=none,fn,tmps,params,assign,body,defers:=r.defers}) (c _) λn=>aP _ rfl
end
def fp(ρ:Nat->Nat):Next->Next
 | .value v=> .value (aD ρ v)
 | .enter f args=> .enter f (args.map (aD ρ))
 | .round l f tmps a b=> .round (ρ l) f (tmps.map (aD ρ)) a b
 |n=>n
section
variable{α β:Type}{f:α->β}
theorem Cj(hP:bO PL PM)(c:Array TypeId)(t:TypeId)(p:Value)(a b:ByteArray):aF ρ PL PM (aD ρ) (XK c t #[p, .s a, .s b]) (XK c t #[aD ρ p, .s a, .s b]):=by
 cases p<;>try exact .dead trivial
 rename_i p;simp only[aD];unfold XK;cases p
 ·refine .choose λn=>cG aU ?_;cases c[0]?<;>exact aU
 ·show aF ρ PL PM (aD ρ) (pure (XY (some _))) (pure (XY (some (aX ρ _))));exact aU
theorem ol(hP:bO PL PM)(t:TypeId)(x:Place)(b:Bool)(w:Option String):aF ρ PL PM (aD ρ) (receiverAt t x b w) (receiverAt t (GV ρ x) b w):=by
 unfold receiverAt;refine(aY hP t).bind λd=> ?_;have c:=Co (ρ:=ρ) hP t x;cases d<;>cases b<;>try (cases x<;>first|exact c|exact aU)
 refine c.bind λv=> ?_;cases w
 ·simp only[pure_bind];exact(lH hP v).bind λa=>jI hP _ a
 ·exact(Cj hP _ _ v _ _).bind λp=>(lH hP p).bind λa=>jI hP _ a
theorem uj(b:bO PL PM)(t:TypeId)(v:Value)(path:Array FieldStep)(a:Bool):aF ρ PL PM (aD ρ) (receiverVia t v path a) (receiverVia t (aD ρ v) path a):=by unfold receiverVia;exact(qY b path.toList t (.val v)).bind λy=>ol b y.1 y.2 a none
theorem wo(a:bO PL PM):∀(n:Nat) (t:TypeId) (v:Value) (name:String),aF ρ PL PM (λy=>(y.1,aD ρ y.2)) (method n t v name) (method n t (aD ρ v) name)
 |0,t,v,name=> .dead trivial
 |n+1,t,v,name=>by
  have d:=wo a n;unfold method;refine(de a t).bind λi=> ?_;dsimp only[id];cases i.methods.find? (·.name==name)with
  |none=>exact .dead trivial
  |some m=>
   refine(qY a m.path.toList t (.val v)).bind λy=> ?_;dsimp only;cases m.func with
   |none=>
    refine(Co a y.1 y.2).bind λu=> ?_;cases u with
    |iface c b=>simp only[aD];exact d c b name
    |nilIface=>simp only[aD];exact jH a rfl
    |_=>simp only[aD];exact .dead trivial
   |some p=>exact(ol a y.1 y.2 p.2 _).bind λr=>aP _ rfl
theorem Ax(hP:bO PL PM):∀(l:List FieldStep) (t:TypeId) (x:Option Value),aF ρ PL PM (λy=>y.map λz=>(z.1,z.2.map (aD ρ))) (followBlind l t x) (followBlind l t (x.map (aD ρ)))
 |[],t,x=>aP _ rfl
 |s::rest,t,x=>by
  have ih:=Ax hP rest;unfold followBlind;refine(aY hP s.struct).bind λe=> ?_;dsimp only[id];cases e<;>try exact .dead trivial
  rename_i fs;dsimp only;cases fs[s.index]?<;>try exact .dead trivial
  rename_i fd;dsimp only;cases s.deref<;>cases x<;>try first|exact aP _ rfl|exact ih fd.type none
  ·rename_i v;cases v<;>try exact .dead trivial
   simp only[TE,aD];exact(xS hP fd.type _ fd.offset).bind λu=>ih fd.type (some u)
  ·rename_i v;cases v<;>try exact .dead trivial
   rename_i p;simp only[TE,aD];cases p
   ·exact aP _ rfl
   ·exact ih fd.type none
theorem rV(hP:bO PL PM):∀(n:Nat) (t:TypeId) (v:Value) (name:String),aF ρ PL PM id (nilAhead n t v name) (nilAhead n t (aD ρ v) name)
 |0,t,v,name=>aP _ rfl
 |n+1,t,v,name=>by
  have ih:=rV hP n;unfold nilAhead;refine(de hP t).bind λi=> ?_;dsimp only[id];cases i.methods.find? (·.name==name)with
  |none=>exact .dead trivial
  |some m=>
   refine(Ax hP m.path.toList t (some v)).bind λy=> ?_;cases y
   ·exact aP _ rfl
   rename_i z;obtain⟨xt,x⟩:=z;simp only[Yi];cases m.func
   ·cases x
    ·exact aP _ rfl
    rename_i u;cases u<;>simp only[TE,aD]<;>first|exact ih _ _ name|exact aP _ rfl|exact .dead trivial
   rename_i p;obtain⟨g,b⟩:=p;cases b
   ·refine(aY hP xt).bind λd=> ?_;cases d<;>cases x<;>try exact aP _ rfl
    rename_i u;cases u<;>simp only[id,TE,aD]<;>first|exact aP _ rfl|(rename_i q;cases q<;>exact aP _ rfl)
   ·cases x<;>exact aP _ rfl
def iv(ρ:Nat->Nat)(PL PM:Program)(g:FuncId):Prop:=
 ∀fn,PL.funcs[g]?=some fn→fn.name≠ "runtime.NumGoroutine" ∧
  ((fn.body.isSome=true∧∃fn',PM.funcs[g]?=some fn'∧fn'.body.isSome=true∧fn'.name≠ "runtime.NumGoroutine")∨
   (fn.body=none∧WY fn=none∧Y2 fn=none∧(fn.name.endsWith ".init" && !fn.name.startsWith "(" && !fn.name.startsWith "gosem.")=false)∨
   (fn.body=none/\WY fn=none/\PM.funcs[g]?=some fn/\∃e,Y2 fn=some e/\∀args,aF ρ PL PM (aD ρ) (e args) (e (args.map (aD ρ)))))
theorem nD(g:FuncId)(q:iv ρ PL PM g)(args:Array Value):aF ρ PL PM (fp ρ) (callFunc g args) (callFunc g (args.map (aD ρ))):=by
 unfold callFunc;refine .program ?_;simp only[Ud];cases s:PL.funcs[g]? with
 |none=>exact .dead trivial
 |some j=>
  obtain⟨p,r⟩:=q j s;have b:(j.name== "runtime.NumGoroutine")=false:=by simpa using p
  dsimp only;rw[b];simp only[TK,↓reduceIte];rcases r with⟨c,d,i,h,f⟩|⟨c,m,l,k⟩|⟨c,m,i,e,l,k⟩
  ·have a:(d.name== "runtime.NumGoroutine")=false:=(by simpa using f);rw[i];dsimp only;rw[a];have o:j.body.isNone=false:=(by rw[Vs];exact c);have n:d.body.isNone=false:=(by rw[Vs];exact h);rw[o,n];simp only[TK,↓reduceIte];exact aP _ rfl
  ·rw[c,m,l,k];exact .deadMark trivial
  ·rw[i];dsimp only;rw[b,c,m,l];refine .mark rfl ?_;exact(k args).bind λv=>aP _ rfl
theorem kG(a:bO PL PM)(b:∀g,iv ρ PL PM g)(r:Value)(name:String)(args:Array Value):aF ρ PL PM (fp ρ) (callMethod r name args) (callMethod (aD ρ r) name (args.map (aD ρ))):=by
 unfold callMethod;cases r with
 |iface t v=>
  simp only[aD];refine .program ?_;simp only[Ud];rw[←a.types];refine(wo a _ t v name).bind λy=> ?_;have:=nD y.1 (b y.1) (#[y.2]++args);simpa only[V8,XU,TP,Xo]using this
 |nilIface=>simp only[aD];exact jH a rfl
 |_=>simp only[aD];exact .dead trivial
theorem CH(a:Nat->Nat):∀(l:List (Tmp×Value)) (tmps:Array Value),(l.map λx=>(x.1,aD a x.2)).foldl (λb x=>b.setIfInBounds x.1 x.2) (tmps.map (aD a))=(l.foldl (λb x=>b.setIfInBounds x.1 x.2) tmps).map (aD a)
 |[],tmps=>rfl
 |x::l,tmps=>by simp only[TP,Z2];rw[←Wa,CH a l]
theorem J5(l:Nat)(args:Array Value):aF ρ PL PM (fp ρ) (VF l args) (VF (ρ l) (args.map (aD ρ))):=by
 unfold VF;refine jK l λr a=> ?_;rw[V1];refine cG (.dead trivial) (aP _ ?_);simp only[fp,sD,a68.injEq,true_and,and_true];have:=CH ρ (r.params.zip args).toList r.tmps;rw[←Yk,←Yk];rw[←this]
 congr 1
 simp[Array.zip_eq_zipWith,List.zipWith_map_right,List.map_zipWith]
end
section
variable{α β:Type}{f:α->β}
theorem ca{s s':Sem Value}(h:aF ρ PL PM (aD ρ) s s'):aF ρ PL PM (fp ρ) (do pure (.value (←s))) (do pure (.value (←s'))):=h.bind λ_=>aP _ rfl
theorem xR{s s':Sem Unit}(h:aF ρ PL PM id s s'):aF ρ PL PM (fp ρ) (do s;pure .skip) (do s';pure .skip):=h.bind λ_=>aP _ rfl
theorem Cu(hP:bO PL PM)(hF:Jt PL PM ρ)(b:Builtin)(c:L3 b=true)(a:Array TypeId)(t:TypeId)(cs:Array Bool)(args:Array Value):aF ρ PL PM (fp ρ) (builtin b a t cs args) (builtin b a t cs (args.map (aD ρ))):=by
 cases b with
 |append=>exact ca (G6 hP hF.1 a t args)
 |cap=>exact ca (PW hP a t args)
 |copy=>exact ca (Mh hP a t args)
 |len=>exact ca (PU hP a t args)
 |min=>exact ca (PS a t args)
 |max=>exact ca (PT a t args)
 |unsafeSliceData=>exact ca (oZ hP a t args)
 |unsafeString=>exact ca (sj hP a t args)
 |_=>simp[L3]at c
theorem rW(e:bO PL PM)(c:∀g,iv ρ PL PM g)(fn:Fn)(cap args:Array Value):aF ρ PL PM (fp ρ) (invoke (.fn fn cap) args) (invoke (.fn (gZ ρ fn) (cap.map (aD ρ))) (args.map (aD ρ))):=by
 cases fn with
 |func g=>
  have:=nD g (c g) (args++cap);rw[V8]at this;exact this
 |method a=>
  unfold invoke;simp only[gZ];rw[TQ];cases args[0]? with
  |none=>exact .dead trivial
  |some r=>
   have:=kG e c r a (args.extract 1 args.size);rw[XG]at this;simp only[TE,V1];exact this
 |methodOf t a=>
  unfold invoke;simp only[gZ];rw[TQ];cases args[0]? with
  |none=>exact .dead trivial
  |some r=>
   simp only[TE,V1];refine(aY e t).bind λd=> ?_;dsimp only[id];have i:=kG e c r a (args.extract 1 args.size);have h:=kG e c (.iface t r) a (args.extract 1 args.size);rw[XG]at i h;rw[show aD ρ (.iface t r)= .iface t (aD ρ r) by simp only[aD]]at h;cases d with
   |interface j=>exact i
   |_=>exact h
 |via t b g f=>
  unfold invoke;simp only[gZ];rw[TQ];cases args[0]? with
  |none=>exact .dead trivial
  |some r=>
   simp only[TE,V1];refine(uj e t r b f).bind λv=> ?_;have:=nD g (c g) (#[v]++args.extract 1 args.size);rw[V8,XG]at this;simpa only[XU,TP,Xo]using this
 |yield l=>exact J5 l args
variable{ev':Operand->Value}{z:Nat}
theorem evs(b:∀x,lN z x=true->ev' x=aD ρ (ev x)){xs:Array Operand}(h:xs.all (lN z)=true):xs.map ev'=(xs.map ev).map (aD ρ):=by rw[XX];refine W6 λx a=> ?_;exact b x (Uv.1 h x a)
theorem evo(a:∀x,lN z x=true->ev' x=aD ρ (ev x)){x:Option Operand}(h:x.all (lN z)=true):x.map ev'=(x.map ev).map (aD ρ):=by
 cases x with
 |none=>rfl
 |some x=>simp only[TE];rw[a x h]
theorem evp(c:∀x,lN z x=true->ev' x=aD ρ (ev x)){a:Array (Nat×Operand)}(h:(a.all λx=>lN z x.2)=true):(a.map λ(i,x)=>(i,ev' x))=(a.map λ(i,x)=>(i,ev x)).map λx=>(x.1,aD ρ x.2):=by rw[XX];refine W6 λx b=> ?_;have:=c x.2 (Uv.1 h x b);simp only[a46,this]
theorem Mj(i:bO PL PM)(n:Jt PL PM ρ)(m:∀g,iv ρ PL PM g)(l:∀x,lN z x=true->ev' x=aD ρ (ev x))(c:Call)(t:TypeId)(h:oG z c=true):
 aF ρ PL PM (fp ρ) (do let d←resolve ev c t;invoke d.target d.args) (do let d←resolve ev' c t;invoke d.target d.args):=by
 unfold resolve;simp only[oG,IN]at h;rw[evs l h.1];have f:=h.2;cases a:c.callee with
 |builtin b=>
  rw[a]at f;exact Cu i n b f _ _ _ _
 |invoke r k=>rw[a]at f;cases f
 |value g=>
  rw[a]at f;dsimp only;rw[l g f];unfold UX;cases ev g with
  |func o first j=>
   simp only[aD,pure_bind];rw[←V8];exact rW i m o j _
  |nilFunc=>
   simp only[aD,pure_bind];exact jH (e:= .nilDeref) i rfl
  |_=>simp only[aD];exact .dead trivial
theorem Aq(hP:bO PL PM)(v:Value)(x f:Operand)(g:ev x=v)(c:ev' f=aD ρ v){o':Oper}(h:o.op= .nilCheck x)(e:o'.op= .nilCheck f):aF ρ PL PM (fp ρ) (execOp ev o) (execOp ev' o'):=by
 unfold execOp;rw[h,e];dsimp only;rw[g,c];cases v<;>simp only[aD]<;>try first|exact jH hP rfl|exact aP _ (by simp[fp,aD];done)
 ·rename_i p;cases p
  ·exact jH hP rfl
  ·exact aP (ZF (.pointer (some _))) (by simp[fp,aD])
 ·rename_i i first b
  cases i<;>try exact aP (ZF (.func _ first b)) (by simp[fp,aD])
  rename_i a;have d:aF ρ PL PM (fp ρ) (pure (.value (.func (.method a) first b))) (pure (.value (.func (.method a) (first.map (aD ρ)) (b.map (aD ρ))))):=aP _ (by simp[fp,aD,gZ]);simp only[gZ];rw[TQ];cases first[0]?
  ·exact d
  rename_i u;cases u<;>simp only[TE,aD]<;>try first|exact jH hP rfl|exact d
  refine .program ?_;simp only[Ud];rw[←hP.types];exact(rV hP _ _ _ a).bind λq=>cG (.dead trivial) d
theorem xT(hP:bO PL PM)(hF:Jt PL PM ρ)(f:∀g,iv ρ PL PM g)(b:∀x,lN z x=true->ev' x=aD ρ (ev x))(o:Oper)(a:mC z o.op=true):aF ρ PL PM (fp ρ) (execOp ev o) (execOp ev' o):=by
 by_cases e:∃x,o.op= .nilCheck x
 ·obtain⟨x,d⟩:=e;rw[d]at a;exact Aq hP (ev x) x x rfl (b x a) d d
 unfold execOp;cases c:o.op
 case nilCheck x=>exact absurd ⟨x,c⟩ e
 all_goals rw[c]at a
 all_goals try simp only[mC,IN]at a
 all_goals try simp only[b,evs b,evp b,evo b,a]
 all_goals first
  |(cases a;done)
  |exact aP _ rfl
  |exact Mj hP hF f b _ o.type a
  |exact ca (Jh hP _)
  |exact ca (PX _ _)
  |exact ca (Jf hP _ _)
  |exact ca (uU hP _ _ _)
  |exact ca (gy hP _ _)
  |exact xR (Ck hP _ _ _)
  |exact ca ((Jb hP _ _ _ _ _ _).bind λ_=>PY hP hF _ _ _ _)
  |exact ca (J6 _ _)
  |exact ca (Ct hP _ _ _)
  |exact ca (qV hP _ _)
  |exact ca (Au _ a.1.1 _ _)
  |exact ca (xU hP _ _ _)
  |exact ca (Cl hP _ _ _ _ _)
  |exact ca (Cp hP _ _ _)
  |exact ca (Jc hP _ _ _)
  |exact ca (jJ hP _ _ _)
  |exact ca (Ja hP _ _ _)
  |exact ca (Cq _ _)
  |exact(wA _).bind λq=>aP _ (by cases q<;>rfl)
end
def cT(ρ:Nat->Nat):Item->Item
 | .inRangeFunc l=> .inRangeFunc (ρ l)
 | .endRangeFunc l=> .endRangeFunc (ρ l)
 | .call d w r s=> .call (iN ρ d) w r (s.map (aD ρ))
 | .extern r a=> .extern r (a.map (aD ρ))
 |i=>i
def jz:Value->Bool
 | .pointer (some a)=>a.block==eN
 |_=>false
def iD(ρ:Nat->Nat)(v:Value):Value:=if jz v=true then v else aD ρ v
def my(z:Nat)(ρ:Nat->Nat)(v:Value):Value:=if z=1 then iD ρ v else v
def jO(ρ:Nat->Nat)(fn:FuncId)(tmps:Array Value):Array Value:=
 tmps.mapIdx λi v=>if qb (dm fn) i=true then my (dm fn) ρ v else aD ρ v
def bF(ρ:Nat->Nat)(fr:Frame):Frame:=
 {fr with tmps:=jO ρ fr.fn fr.tmps,todo:=fr.todo.map (cT ρ),defers:=fr.defers.map (iN ρ),roundOf:=fr.roundOf.map ρ}
def kw(z:Nat):Item->Bool
 | .code c=>j3 z c
 | .inLoop b| .inScope b=>j3 z b
 | .inBlock _=>true
 | .inRegion ops l=>ops.all (y9 z)||(dH z ops&&(l==[0,1]||l==[1]||l==[]))
 | .inRangeFunc _| .endRangeFunc _| .beginRound=>z==0
 | .call ..| .extern ..=>false
def dB(ds:List Deferred):Bool:=ds.all λd=>match d.target with
 | .collected _=>true
 | .fn (.func g) _=>g==fF
 |_=>false
def Od:FrameMode->Bool
 | .panicking ch=> !ch.isEmpty&&ch.all λe=>bQ e.v&& !e.goexit
 |_=>true
structure OkB (fr:Frame):Prop where
 defers:dB fr.defers=true
 mode:Od fr.mode=true
 kind:fr.kind= .normal\/fr.kind= .deferred
 round:dm fr.fn≠0->fr.roundOf=none
def Dl(z:Nat):Item->Bool
 | .inRegion _ _=>false
 |i=>kw z i
def jY(z:Nat):List Item->Bool
 |[]=>true
 |i::k=>kw z i&&k.all (Dl z)
theorem Rb{z:Nat}{i:Item}(h:Dl z i=true):kw z i=true:=by cases i<;>first|exact h|cases h
theorem xi{z:Nat}{k:List Item}(h:k.all (Dl z)=true):jY z k=true:=by
 cases k with
 |nil=>rfl
 |cons i k=>
  simp only[VJ,IN]at h;simp only[jY,IN];exact⟨Rb h.1,h.2⟩
structure iW (fr:Frame):Prop extends OkB fr where
 todo:jY (dm fr.fn) fr.todo=true
def mE(fr:Frame):Prop:=fr.mode= .run->∀ops k,fr.todo= .inRegion ops [1]::k->dH 3 ops=true->∃(o:Oper) (d:Tmp),ops[1]?=some o/\o.guard=none/\o.dst=none/\
 ((o.op= .panic (.tmp d)/\(fr.tmps[d]?=none\/∃t s,fr.tmps[d]?=some (.iface t (.string s))))\/(∃c,o.op= .defer c/\c.args.isEmpty=true/\c.callee= .value (.tmp d)/\(fr.tmps[d]?=none\/∃a b,fr.tmps[d]?=some (.func (.func fF) a b))))
theorem gu(h:∀ops k,fr.todo≠ .inRegion ops [1]::k):mE fr:=λ_ ops k e=>absurd e (h ops k)
theorem qG(h:fr.mode≠ .run):mE fr:=λe=>absurd e h
theorem Ds(b:∀ops k,fr.todo= .inRegion ops [1]::k->dH 3 ops=false):mE fr:=λ_ ops k e a=>by rw[b ops k e]at a;cases a
theorem pz{z:Nat}(h:ops.all (y9 z)=true):dH 3 ops=false:=by
 cases a:dH 3 ops with
 |false=>rfl
 |true=>
  obtain⟨l⟩:=ops;unfold dH at a;split at a
  ·rename_i o p e;simp only at e;subst e;have c:y9 z p=true:=Uv.1 h p s_;simp only[IN]at a;have a:=a.2;split at a
   ·rename_i b;simp[y9,mC,AI,b]at c
   ·rename_i b;simp[y9,mC,AI,b]at c
   ·cases a
  ·cases a
theorem vy(a:Nat->Nat)(fn:FuncId)(tmps:Array Value):(jO a fn tmps).size=tmps.size:=by simp[jO]
theorem fA(a:Nat->Nat)(fn:FuncId)(tmps:Array Value)(t:Nat)(h:qb (dm fn) t=false):(jO a fn tmps)[t]?=(tmps[t]?).map (aD a):=by simp only[jO,Wr,h,TK,↓reduceIte]
theorem m6(a:Nat->Nat)(fn:FuncId)(tmps:Array Value)(t:Nat)(h:qb (dm fn) t=true):(jO a fn tmps)[t]?=(tmps[t]?).map (my (dm fn) a):=by simp only[jO,Wr,h,↓reduceIte]
theorem lZ(a:Nat->Nat){fn:FuncId}(h:dm fn=0)(tmps:Array Value):jO a fn tmps=tmps.map (aD a):=by
 have:dm fn=0:=by simpa using h
 apply WI
 ·simp[jO]
 ·intro i c b;simp[jO,this,Tr]
theorem fK(a:Nat->Nat):aD a undef=undef:=dS a undef rfl
theorem eT(fr:Frame)(x:Operand)(h:lN (dm fr.fn) x=true):(bF ρ fr).eval x=aD ρ (fr.eval x):=by
 cases x with
 |tmp t=>
  have a:qb (dm fr.fn) t=false:=by simp only[lN,WA]at h;exact h
  have:=fA ρ fr.fn fr.tmps t a;simp only[Wb,bF,TO];rw[this];cases fr.tmps[t]? with
  |none=>exact(fK ρ).symm
  |some v=>rfl
 |const v=>simp only[Wb];exact(dS ρ v h).symm
 |func g=>simp[Wb,aD,gZ]
 |global g=>cases h
theorem yL(a:Nat->Nat)(fn:FuncId)(tmps:Array Value)(d:Nat)(v:Value)(h:qb (dm fn) d=false):(jO a fn tmps).setIfInBounds d (aD a v)=jO a fn (tmps.setIfInBounds d v):=by
 apply WW;intro i;by_cases f:qb (dm fn) i=true
 ·rw[m6 a fn _ i f];have b:d≠i:=λe=>by subst e;rw[h]at f;cases f
  rw[sN b,sN b,m6 a fn _ i f]
 ·have c:qb (dm fn) i=false:=by simpa using f
  rw[fA a fn _ i c];by_cases g:d=i
  ·subst g;rw[UE,UE,vy];simp only[↓reduceIte];split<;>rfl
  ·rw[sN g,sN g,fA a fn _ i c]
def qC(fr:Frame):Prop:=∀ops j rest k,fr.todo= .inRegion ops (j::rest)::k->ops.all (y9 (dm fr.fn))=true
theorem iW.noPair{fr:Frame}(h:iW fr)(hz:dm fr.fn=1):qC fr:=λops j rest k e=>by
 have:=h.todo;rw[e]at this;simp only[jY,IN,kw,Ve]at this;rcases this.1 with h|h
 ·exact h
 ·have h1:=h.1;unfold dH at h1;split at h1
  ·simp[hz]at h1
  ·cases h1
def dV(fr:Frame):Prop:=(∀o d,fr.oper?=some o->o.dst=some d->qb (dm fr.fn) d=false)/\qC fr
theorem qQ(h:∀ops j rest k,fr.todo≠ .inRegion ops (j::rest)::k):dV fr:=by
 refine⟨λo d a=> ?_,λops j rest k e=>absurd e (h ops j rest k)⟩;unfold Xh at a;split at a
 ·rename_i e;exact absurd e (h _ _ _ _)
 ·cases a
theorem fD(fr:Frame)(v:Value)(h:iW fr)(z:dV fr):(bF ρ fr).finish (aD ρ v)=bF ρ (fr.finish v):=by
 obtain⟨y,f,b,m,u,x,g⟩:=fr;cases b with
 |nil=>rfl
 |cons i k=>
  have p:=h.todo;simp only[jY,IN]at p;cases i with
  |inRegion c b=>
   cases b with
   |nil=>rfl
   |cons j t=>
    have q:∀d,(c[j]?).bind (·.dst)=some d->qb (dm y) d=false:=λd e=>by
     cases n:c[j]? with
     |none=>rw[n]at e;cases e
     |some o=>rw[n]at e;exact z.1 o d n e
    simp only[bF,VL,TP,cT];cases e:(c[j]?).bind (·.dst)with
    |none=>simp
    |some d=>simp[yL ρ y f d v (q d e)]
  |inRangeFunc l=>rfl
  |beginRound=>rfl
  |call d w r s=>cases p.1
  |extern r a=>cases p.1
  |_=>rfl
theorem vH(fr:Frame)(v:Value)(h:iW fr)(F:qC fr):iW (fr.finish v)/\(mE fr->mE (fr.finish v)):=by
 obtain⟨G,y,b,o,A,B,g⟩:=fr;have x:=h;obtain⟨⟨u,t,q,p⟩,c⟩:=h;cases b with
 |nil=>exact⟨x,id⟩
 |cons i k=>
  simp only[jY,IN]at c;cases i with
  |inRegion n b=>
   cases b with
   |nil=>exact⟨x,id⟩
   |cons j m=>
    have f:=F n j m k rfl;refine⟨⟨⟨u,t,q,p⟩, ?_⟩,λ_ _ z E e C=> ?_⟩
    ·simp only[VL,jY,IN];exact⟨by simp only[kw,f,XL],c.2⟩
    ·simp only[VL,List.cons.injEq,Xr.injEq]at e;rw[←e.1.1,pz f]at C;cases C
  |inRangeFunc l=>exact⟨⟨⟨u,t,q,p⟩,by simp only[VL,jY,IN];exact⟨c.1,c.2⟩⟩,λ_=>gu λ_ _ e=>by simp[VL]at e⟩
  |beginRound=>
   refine⟨⟨⟨u,t,q,p⟩,xi c.2⟩,λ_=>gu λn E e=> ?_⟩;simp only[VL]at e;have D:=c.2;rw[e]at D;simp[Dl]at D
  |call d w r s=>cases c.1
  |extern r a=>cases c.1
  |_=>exact⟨x,id⟩
theorem dr(fr:Frame)(v:Value):(fr.finish v).kind=fr.kind:=by unfold VL;split<;>rfl
def kJ:CallKind->List Frame->Prop
 |_,[]=>True
 |kd,c::r=>iW c/\(dV c\/(kd= .deferred/\c.mode≠ .run))/\kJ c.kind r
theorem nW(m:∃fn a,PL.funcs[f]?=some fn/\PM.funcs[f]?=some a/\fn.ntmps=a.ntmps/\fn.body=a.body)(args:Array Value)(l:∀v∈args,jz v=false)(j:dm f≠2)(e:CallKind):TJ PM f (args.map (aD ρ)) e=bF ρ (TJ PL f args e):=by
 obtain⟨fn,a,s,r,q,p⟩:=m;simp only[TJ,bF,s,r,TE,U0,Ug,q,p,TP,Xo,cT,Xx,V1]
 congr 1
 apply WW;intro i;by_cases b:qb (dm f) i=true
 ·rw[m6 ρ f _ i b,←TQ,V8,Ya];have c:dm f=1:=by
   unfold qb at b;simp only[Ve,IN,beq_iff_eq]at b;rcases b with h|h
   ·exact h.1
   ·exact absurd h.1 j
  have g:∀v,my (dm f) ρ v=iD ρ v:=λv=>by simp[my,c]
  have o:args.map (my (dm f) ρ)=args.map (aD ρ):=W6 λv k=>by rw[g];simp[iD,l v k]
  have n:my (dm f) ρ undef=undef:=(g _).trans (fK ρ);rw[o,n]
 ·have d:qb (dm f) i=false:=by simpa using b
  rw[fA ρ f _ i d,←TQ,V8,Ya,fK]
def ya:Next->Bool
 | .value _| .skip| .enter ..| .round ..=>true
 |_=>false
def cM(P:Program)(s:Sem Next):Prop:=∀w n w',s.run P w= .ok n w'->ya n=true
theorem cM.pure{n:Next}(h:ya n=true):cM P (pure n):=λw m a e=>by cases e;exact h
theorem cM.halt(x:Halt):cM P (.halt x):=λw m a e=>by cases e
theorem cM.after{b:Type}{s:Sem b}{k:b->Sem Next}(h:∀a,cM P (k a)):cM P (s>>=k):=λw n f e=>by
 rw[Uz]at e;cases d:s.run P w with
 |ok a c=>rw[d]at e;exact h a c n f e
 |halt x c=>rw[d]at e;cases e
theorem cM.ite{c:Prop}[Decidable c]{A B:Sem Next}(b:cM P A)(a:cM P B):cM P (if c then A else B):=by
 split
 ·exact b
 ·exact a
theorem cM.rt(e:RuntimeError):cM P (runtimePanic e):=λw n c h=>by obtain⟨x,b,a,_⟩:=ly (PL:=P) (α:=Next) e w;rw[a]at h;cases h
theorem fC(s:Sem Value):cM P (do pure (.value (←s))):=cM.after λ_=> .pure rfl
theorem qL(s:Sem Unit):cM P (do s;pure .skip):=cM.after λ_=> .pure rfl
theorem kA(g:FuncId)(m:iv ρ P PM g)(args:Array Value):cM P (callFunc g args):=by
 unfold callFunc;intro w n j h;rw[Uz]at h
 change (match P.funcs[g]? with|none=>_|some b=>_:Sem Next).run P w=_ at h
 cases d:P.funcs[g]? with
 |none=>rw[d]at h;cases h
 |some b=>
  rw[d]at h;obtain⟨l,o⟩:=m b d;have c:(b.name== "runtime.NumGoroutine")=false:=by simpa using l
  simp only[c,TK,↓reduceIte]at h;rcases o with⟨a,_⟩|⟨a,i,f,p⟩|⟨a,i,_,e,f,_⟩
  ·have k:b.body.isNone=false:=(by rw[Vs];exact a);simp only[k,TK,↓reduceIte]at h;cases h;rfl
  ·rw[a,i,f,p]at h;cases h
  ·rw[a,i,f]at h;exact cM.after (P:=P) (s:=mark (.extern g)) (λ_=>fC (e args)) w n j h
theorem mz(a:∀g,iv ρ P PM g)(r:Value)(name:String)(args:Array Value):cM P (callMethod r name args):=by
 unfold callMethod;cases r with
 |iface t v=>exact cM.after λp=>cM.after λy=>kA y.1 (a y.1) _
 |nilIface=>exact cM.rt _
 |_=>exact cM.halt _
theorem BX(l:Nat)(args:Array Value):cM P (VF l args):=by unfold VF;refine cM.after λr=> ?_;exact cM.ite (cM.halt _) (.pure rfl)
theorem oh(b:∀g,iv ρ P PM g)(fn:Fn)(cap args:Array Value):cM P (invoke (.fn fn cap) args):=by
 cases fn with
 |func g=>exact kA g (b g) _
 |method a=>
  unfold invoke;dsimp only;cases args[0]? with
  |none=>exact cM.halt _
  |some r=>exact mz b _ _ _
 |methodOf t a=>
  unfold invoke;dsimp only;cases args[0]? with
  |none=>exact cM.halt _
  |some r=>exact cM.after λd=>mz b _ _ _
 |via t c g e=>
  unfold invoke;dsimp only;cases args[0]? with
  |none=>exact cM.halt _
  |some r=>exact cM.after λd=>kA g (b g) _
 |yield l=>exact BX l args
theorem xy(b:Builtin)(c:L3 b=true)(a:Array TypeId)(t:TypeId)(cs:Array Bool)(args:Array Value):cM P (builtin b a t cs args):=by cases b<;>first|exact fC _|(simp[L3]at c;done)
theorem Fo(j:∀g,iv ρ P PM g)(ev:Operand->Value){z:Nat}(c:Call)(t:TypeId)(i:oG z c=true):cM P (do let d←resolve ev c t;invoke d.target d.args):=by
 unfold resolve;simp only[oG,IN]at i;have e:=i.2;cases a:c.callee with
 |builtin b=>rw[a]at e;exact xy b e _ _ _ _
 |invoke r h=>rw[a]at e;cases e
 |value g=>
  dsimp only;unfold UX;cases ev g with
  |func k first f=>exact oh j k f _
  |nilFunc=>exact cM.rt .nilDeref
  |_=>exact cM.halt _
theorem vV(f:∀g,iv ρ P PM g)(ev:Operand->Value){z:Nat}(o:Oper)(e:mC z o.op=true):cM P (execOp ev o):=by
 unfold execOp;cases d:o.op with
 |move x=>exact .pure rfl
 |assign x=>exact .pure rfl
 |pick a b c=>exact cM.after λ_=> .pure rfl
 |store t a x=>exact qL _
 |nilCheck x=>
  dsimp only;split<;>first
   |exact cM.rt _
   |exact .pure rfl
   |(split<;>first
      |exact cM.rt _
      |exact .pure rfl
      |(refine cM.after λ_=>cM.after λ_=> ?_;exact cM.ite (cM.halt _) (.pure rfl)))
 |call c=>rw[d]at e;exact Fo f ev c o.type e
 |_=>first
  |exact fC _
  |(rw[d]at e;cases e)
def gU(P:Program)(fr:Frame)(cs:List Frame):Next->Goroutine
 | .value v=>{frame:=fr.finish v,callers:=cs,status:= .running,dying:=none}
 | .enter f args=>{frame:=TJ P f args .normal,callers:=fr::cs,status:= .running,dying:=none}
 | .round l f tmps a b=>{frame:=Vt l f tmps a b .normal,callers:=fr::cs,status:= .running,dying:=none}
 |_=>{frame:=fr.finish undef,callers:=cs,status:= .running,dying:=none}
def ea(fr:Frame):Prop:=∀d w r s k,fr.todo≠ .call d w r s::k
theorem iW.noCall{fr:Frame}(h:iW fr):ea fr:=λd w r s k e=>by have:=h.todo;rw[e]at this;simp[jY,kw]at this
section
variable{s:Sem Next}
theorem dz(g:ea fr){n:Next}(b:s.runT P w #[]=(.ok n w',es))(c:ya n=true):
 stepG.apply P true fr cs none s w= .go (gU P fr cs n) w' (seen P fr.fn (if fr.kind== .early then #[]else es)):=by
 have d:=g;unfold stepG.apply;simp only[b,↓reduceIte];cases n with
 |enter f a=>
  simp only[TI,gU,Uw];split
  ·rename_i e;exact absurd e (d _ _ _ _ _)
  ·rfl
 |_=>first
  |(simp[ya]at c;done)
  |simp[TI,gU]
theorem lI{a:Array Event}{x:GStep}(h:TI es x= .go g w a):∃es1,x= .go g w es1:=by cases x<;>simp only[TI,VP.injEq,reduceCtorEq]at h;obtain⟨rfl,rfl,_⟩:=h;exact⟨_,rfl⟩
theorem rN{m:String}(h:endFatal P fr cs none m w= .go g w' es)(a:g.dying=none):False:=by
 unfold endFatal at h;dsimp only at h;split at h
 ·simp only[dieOf,VP.injEq]at h;obtain⟨rfl,_,_⟩:=h;cases a
 ·cases h
 ·cases h
theorem kZ(d:Nat->Nat)(fr:Frame)(h:List PanicEntry):(bF d fr).raise h=bF d (fr.raise h):=by obtain⟨i,f,e,c,b,g,a⟩:=fr;cases b<;>rfl
def Bv(ch:List PanicEntry):Bool:= !ch.isEmpty&&ch.all λe=>bQ e.v&& !e.goexit
theorem OkB.raise{fr:Frame}(h:OkB fr){i:List PanicEntry}(c:Bv i=true):OkB (fr.raise i):=by
 obtain⟨o,k,j,d,b,l,a⟩:=fr;obtain⟨g,m,f,e⟩:=h;cases b with
 |panicking n=>
  refine⟨g, ?_,f,e⟩;simp only[Od,Bv,IN,a58,Z5]at m c⊢;exact⟨by cases i<;>simp at c⊢,c.2,m.2⟩
 |run=>exact⟨g,c,f,e⟩
 |returning=>exact⟨g,c,f,e⟩
theorem tH(fr:Frame)(g:List PanicEntry):(fr.raise g).todo=fr.todo/\(fr.raise g).fn=fr.fn:=by obtain⟨h,e,d,c,b,f,a⟩:=fr;cases b<;>exact⟨rfl,rfl⟩
theorem iW.raise{fr:Frame}(h:iW fr){a:List PanicEntry}(b:Bv a=true):iW (fr.raise a):=⟨h.toOkB.raise b,by rw[(tH fr a).1,(tH fr a).2];exact h.todo⟩
theorem jw(fr:Frame)(g:List PanicEntry):mE (fr.raise g):=qG (by obtain⟨h,e,d,c,b,f,a⟩:=fr;cases b<;>simp[a58])
theorem jt(fr:Frame)(g:List PanicEntry):(fr.raise g).kind=fr.kind:=by obtain⟨h,e,d,c,b,f,a⟩:=fr;cases b<;>rfl
theorem we{fr:Frame}(h:dV fr):mE fr:=λ_ b k e a=>by rw[pz (h.2 _ _ _ _ e)]at a;cases a
theorem mX{fr:Frame}(h:iW fr)(a:dV fr)(v:Value):iW (fr.finish v)/\mE (fr.finish v):=⟨(vH fr v h a.2).1,(vH fr v h a.2).2 (we a)⟩
def ij(fr:Frame)(cs:List Frame)(v:Value):Goroutine:={frame:=fr.raise [{v,recovered:=false}],callers:=cs,status:= .running,dying:=none}
theorem tJ(a:s.runT P w #[]=(.halt (.panic v) w',es)):
 stepG.apply P true fr cs none s w= .go (ij fr cs v) w' (seen P fr.fn (if fr.kind== .early then #[]else es)):=by unfold stepG.apply;simp only[a,↓reduceIte,TI,Uw];rfl
theorem pX(p:ea fr)(y:cM P s)(h:stepG.apply P listen fr cs none s w= .go g w' es)
 (C:g.status= .running) (t:∀x a,s.run P w= .halt x a->eO x\/∃v,x= .panic v)
 (j:g.dying=none):(∃n,s.run P w= .ok n w'/\ya n=true/\g=gU P fr cs n)\/∃v,s.run P w= .halt (.panic v) w'/\g=ij fr cs v:=by
 have i:(if listen=true then s.runT P w #[]else(s.run P w,#[])).1=s.run P w:=by
  split
  ·exact UH P s w #[]
  ·rfl
 unfold stepG.apply at h;generalize (if listen=true then s.runT P w #[]else(s.run P w,#[]))=q at h i;obtain⟨r,A⟩:=q;simp only at i;subst i;simp only at h;cases d:s.run P w with
 |ok n a=>
  rw[d]at h;have o:=y w n a d;cases n with
  |enter f l=>
   simp only[TI,VP.injEq]at h;obtain⟨rfl,rfl,_⟩:=h;refine .inl ⟨_,rfl,rfl, ?_⟩;simp only[gU];split
   ·rename_i e;exact absurd e (p _ _ _ _ _)
   ·rfl
  |_=>first
   |(simp[ya]at o;done)
   |(simp only[TI,VP.injEq]at h
     obtain⟨rfl,rfl,_⟩:=h;exact .inl ⟨_,rfl,rfl,rfl⟩)
 |halt x a=>
  rw[d]at h;have b:=t x a d;cases x with
  |panic v=>
   simp only[TI,VP.injEq]at h;obtain⟨rfl,rfl,_⟩:=h;exact .inr ⟨v,rfl,rfl⟩
  |goexit=>rcases b with h|⟨_,h⟩<;>cases h
  |blocked=>rcases b with h|⟨_,h⟩<;>cases h
  |waiting=>rcases b with h|⟨_,h⟩<;>cases h
  |unsupported u=>
   cases u with
   |initOrder k=>rcases b with h|⟨_,h⟩<;>cases h
   |_=>simp[TI]at h
  |stuck m=>simp[TI]at h
  |exit c=>simp[TI]at h
  |throw m=>
   simp only[endThrow,dieOf,TI,VP.injEq]at h;obtain⟨rfl,_,_⟩:=h;cases j
  |fatal m=>
   obtain⟨z,B⟩:=lI h;exact(rN B j).elim
end
theorem da(P:Program)(fn:FuncId)(es:Array Event):∀e∈seen P fn es,e∈es:=by
 intro e b;unfold seen at b;dsimp only at b;revert b;refine Array.foldl_induction (motive:=λ_ (x:Bool×Array Event)=>e∈x.2->e∈es) s_ ?_;intro i c a;obtain⟨q,d⟩:=c;dsimp only;split
 ·exact a
 ·intro h;dsimp only at h;split at h
  ·exact a h
  ·rcases Xi.1 h with h|h
   ·exact a h
   ·rw[h];exact X7 _
structure ep (G:Nat) (D:Nat->Prop) (ρ:Nat->Nat) (base:List Frame) (gL gM:Goroutine):Prop where
 frame:∀ρ',aS G D ρ ρ'->gM.frame=bF ρ' gL.frame
 callers:∀ρ',aS G D ρ ρ'->gM.callers=gL.callers.map (bF ρ')++base
 ok:iW gL.frame/\mE gL.frame
 oks:kJ gL.frame.kind gL.callers
 run:gL.status= .running/\gM.status= .running/\gL.dying=none/\gM.dying=none
theorem Dk(a:Nat->Nat)(n:Next):ya (fp a n)=ya n:=by cases n<;>rfl
theorem mf{f g:Value->Value}{xs:Array Value}(h:xs.map f=xs.map g)(hv:v∈xs):f v=g v:=by obtain⟨i,hi,rfl⟩:=Array.mem_iff_getElem.1 hv;have:=congrArg (λys:Array Value=>ys[i]?) h;simpa[hi]using this
theorem cI.noTab{G T:Nat}{c:Nat->Nat}{wL d:World}(h:cI G T D c wL d)(g:eN<G)(hv:∀b,aS G D c b->aD b v=aD c v):jz v=false:=by
 cases v with
 |pointer p=>
  cases p with
  |none=>rfl
  |some a=>
   have e:D a.block:=h.dom λb f=>by have:=hv b f;simp only[aD,TE,XY.injEq,Option.some.injEq]at this;exact congrArg Yj this
   have:=h.out _ e;simp only[jz,beq_eq_false_iff_ne];omega
 |_=>rfl
section
variable{G T:Nat}{base:List Frame}
def j6(PL PM:Program)(f:FuncId):Prop:=∃fn fn',PL.funcs[f]?=some fn/\PM.funcs[f]?=some fn'/\fn.ntmps=fn'.ntmps/\fn.body=fn'.body/\∃c,fn.body=some c/\oa f c=true
theorem ki(hG:eN<G)(hV:∀w a b,Vw PM w a b=Vw PL w a b)(hS:∀w a v b,Vf PM w a v b=Vf PL w a v b)(Q:cI G T D ρ wL wM)
 {fr':Frame} {cs':List Frame} (y:∀g,aS G D ρ g->fr'=bF g fr) (B:∀g,aS G D ρ g->cs'=cs.map (bF g)++base) (ok:iW fr) (A:kJ fr.kind cs) (o:dV fr)
 {s s':Sem Next} (hs:∀g,aS G D ρ g->aF g PL PM (fp g) s s') (h4:cM PL s) (hI:∀x C,s.run PL wL= .halt x C->eO x\/∃v,x= .panic v)
 (hE:∀f args C,s.run PL wL= .ok (.enter f args) C->j6 PL PM f)
 (hR:∀l f tmps a b C,s.run PL wL= .ok (.round l f tmps a b) C->j3 0 a=true/\j3 0 b=true/\dm f=0)
  {J:Goroutine} {wL':World} {S:Array Event} (h:stepG.apply PL listen fr cs none s wL= .go J wL' S) (hT:wL'.drawn<=T) (hq:J.status= .running) (hd:J.dying=none):
 ∃D' g gM wM' H,stepG.apply PM true fr' cs' none s' wM= .go gM wM' H/\ep G D' g base J gM/\i8 G T D ρ wL wM D' g wL' wM'/\∀e∈H,iw D' g e:=by
 rcases pX ok.noCall h4 h hq hI hd with⟨n,u,Z,rfl⟩|⟨v,u,rfl⟩
 rotate_left
 ·obtain⟨D',p,r',wM',U,X,W,z,V⟩:=dO hV hS fp s s' D ρ wL wM Q hs #[] _ wL' u rfl hT;cases W with
  |panic hp=>
   have q:=λg (j:aS G D' p g)=>aS.of_ran z j;refine⟨D',p,_,wM',_,tJ X,⟨λg j=> ?_,λg j=>B g (q g j),⟨ok.raise (by simp[Bv,hp]),jw _ _⟩,by rw[ij,jt];exact A,rfl,rfl,rfl,rfl⟩,z,λe O=> ?_⟩
   ·show fr'.raise _=bF g (fr.raise _);rw[y g (q g j),kZ]
   ·have:=da _ _ _ e O;split at this
    ·simp at this
    ·exact V e (by simpa using this)
 obtain⟨D',p,r',wM',U,X,W,z,V⟩:=dO hV hS fp s s' D ρ wL wM Q hs #[] _ wL' u rfl hT;cases W with
 | @ok _ n' _ _ m=>
   have F:=y ρ Q.self;have P:ea fr':=by
    intro d w r s k e;rw[F]at e;have:=ok.noCall;cases L:fr.todo with
    |nil=>simp[bF,L]at e
    |cons i t=>
     simp only[bF,L,TP,List.cons.injEq]at e;cases i<;>simp[cT]at e;exact this _ _ _ _ _ L
   have N:ya n'=true:=(by rw[m p z.rel.self,Dk];exact Z);have M:=dz (cs:=cs') P X N;refine⟨D',p,_,wM',_,M, ?_,z,λe O=> ?_⟩
   ·have q:=λg (j:aS G D' p g)=>aS.of_ran z j;cases n with
    |value v=>
     refine⟨λg j=> ?_,λg j=> ?_,mX ok o v,by show kJ (fr.finish v).kind cs;rw[dr];exact A, ?_⟩
     ·rw[m g j];show fr'.finish (aD g v)=bF g (fr.finish v);rw[y g (q g j),fD fr v ok o]
     ·rw[m g j];exact B g (q g j)
     ·rw[m p z.rel.self];exact⟨rfl,rfl,rfl,rfl⟩
    |skip=>
     refine⟨λg j=> ?_,λg j=> ?_,mX ok o undef,by show kJ (fr.finish undef).kind cs;rw[dr];exact A, ?_⟩
     ·rw[m g j];show fr'.finish undef=bF g (fr.finish undef);rw[y g (q g j),←fD fr undef ok o,fK]
     ·rw[m g j];exact B g (q g j)
     ·rw[m p z.rel.self];exact⟨rfl,rfl,rfl,rfl⟩
    |enter f args=>
     obtain⟨fn,R,I,K,E,q4,c,q5,Y⟩:=hE f args wL' u;have ha:∀v∈args,jz v=false:=λv hv=>by refine z.rel.noTab hG λg j=> ?_;have:=(m g j).symm.trans (m p z.rel.self);simp only[fp,Next.enter.injEq,true_and]at this;exact mf this hv
     refine⟨λg j=> ?_,λg j=> ?_, ?_, ?_, ?_⟩
     ·rw[m g j];exact nW ⟨fn,R,I,K,E,q4⟩ args ha (Dm Y) .normal
     ·rw[m g j];show fr'::cs'=_;rw[y g (q g j),B g (q g j)];rfl
     ·refine⟨⟨⟨rfl,rfl, .inl rfl,λ_=>rfl⟩, ?_⟩,gu λ_ _ e=>by cases e⟩;simp only[gU,TJ,I,Ug,q5,U0,jY,YR,YF];exact Dn Y
     ·exact⟨ok, .inl o,A⟩
     ·rw[m p z.rel.self];exact⟨rfl,rfl,rfl,rfl⟩
    |round l f tmps a b=>
     obtain⟨I,K,E⟩:=hR l f tmps a b wL' u;refine⟨λg j=> ?_,λg j=> ?_, ?_, ?_, ?_⟩
     ·rw[m g j];show Vt (g l) f (tmps.map (aD g)) a b .normal=bF g (Vt l f tmps a b .normal);simp only[Vt,bF,lZ g E,TP,Xo,cT,TE]
     ·rw[m g j];show fr'::cs'=_;rw[y g (q g j),B g (q g j)];rfl
     ·have hz:dm f=0:=(by simpa using E);refine⟨⟨⟨rfl,rfl, .inl rfl,λe=>absurd E e⟩, ?_⟩,gu λ_ _ e=>by cases e⟩;simp[gU,Vt,hz,jY,kw,Dl,I,K]
     ·exact⟨ok, .inl o,A⟩
     ·rw[m p z.rel.self];exact⟨rfl,rfl,rfl,rfl⟩
    |_=>simp[ya]at Z
   ·have:=da _ _ _ e O;split at this
    ·simp at this
    ·exact V e (by simpa using this)
end
theorem oP(a:Nat->Nat)(id:Nat):∀k:List Item,exitTo id (k.map (cT a))=(exitTo id k).map (Zg (cT a))
 |[]=>rfl
 |i::k=>by
  have b:=oP a id k;cases i with
  |inBlock c=>
   simp only[TP,cT,exitTo];split
   ·rfl
   ·exact b
  |_=>simp only[TP,cT,exitTo];exact b
theorem qO(z:Nat)(id:Nat):∀(k:List Item) {t:List Item},exitTo id k=some t->k.all (Dl z)=true->t.all (Dl z)=true
 |[],t,h,_=>by cases h
 |i::k,t,h,ha=>by
  simp only[VJ,IN]at ha;cases i with
  |inBlock a=>
   simp only[exitTo]at h;split at h
   ·cases h;exact ha.2
   ·exact qO z id k h ha.2
  |_=>simp only[exitTo]at h;exact qO z id k h ha.2
theorem eF(a:Nat->Nat)(fn:FuncId)(ops:Array Oper)(tmps:Array Value)(j:Nat):yielded ops (jO a fn tmps) j=yielded ops tmps j:=by
 unfold yielded;cases (ops[j]?).bind (·.dst)with
 |none=>rfl
 |some d=>
  simp only[Ug];by_cases h:qb (dm fn) d=true
  ·rw[m6 a fn tmps d h];cases tmps[d]? with
   |none=>rfl
   |some v=>
    by_cases b:dm fn=1
    ·by_cases c:jz v=true
     ·simp[my,b,iD,c]
     ·simp only[TE,my,b,iD,c];cases v<;>simp[aD]
    ·simp[my,b]
  ·rw[fA a fn tmps d (by simpa using h)];cases tmps[d]? with
   |none=>rfl
   |some v=>cases v<;>simp[aD]
theorem AT{G:Nat}{base:List Frame}{fr':Frame}{cs':List Frame}(f:∀a,aS G D ρ a->fr'=bF a fr)(g:∀a,aS G D ρ a->cs'=cs.map (bF a)++base)(c:iW fr)(d:kJ fr.kind cs)
 {t h:List Item} (j:∀a,aS G D ρ a->h=t.map (cT a)) (e:jY (dm fr.fn) t=true) (b:∀ops k,t= .inRegion ops [1]::k->dH 3 ops=false):
 ep G D ρ base {frame:={fr with todo:=t},callers:=cs,status:= .running,dying:=none} {frame:={fr' with todo:=h},callers:=cs',status:= .running,dying:=none}:=by refine⟨λa i=> ?_,g,⟨⟨⟨c.defers,c.mode,c.kind,c.round⟩,e⟩,Ds b⟩,d,rfl,rfl,rfl,rfl⟩;rw[f a i,j a i];rfl
section
variable{G T:Nat}{base:List Frame}
def bZ(fr:Frame):Option (List Item):=
 match fr.todo with
 | .inRegion _ []::k=>some k
 | .inScope _::k=>some k
 | .inBlock _::k=>some k
 | .inLoop b::k=>some (.code b:: .inLoop b::k)
 | .code c::k=>
   match c with
   | .label _=>some k
   | .skip=>some k
   | .region _ ops false=>some (.inRegion ops (U5 ops.size)::k)
   | .exit id=>exitTo id k
   | .scope b=>some (.code b:: .inScope b::k)
   | .loop b=>some (.code b:: .inLoop b::k)
   | .block id b=>some (.code b:: .inBlock id::k)
   | .cond x a b=>match fr.eval x with| .bool q=>some (.code (if q then a else b)::k)|_=>none
   | .seq a b=>some (.code a:: .code b::k)
   |_=>none
 |_=>none
theorem iO{t:List Item}(h:bZ fr=some t):
 stepG.exec P main listen fr cs none w= .go {frame:={fr with todo:=t},callers:=cs,status:= .running,dying:=none} w:=by
 obtain⟨o,l,todo,g,m,n,d⟩:=fr;unfold bZ at h;unfold stepG.exec;cases todo with
 |nil=>cases h
 |cons i k=>
  cases i with
  |code c=>
   cases c with
   |region id j f=>cases f<;>first|(cases h;rfl)|cases h
   |exit id=>simp only at h⊢;rw[h];rfl
   |cond c a b=>
    simp only at h⊢;split at h
    ·rename_i q e;cases h;rw[e]
    ·cases h
   |_=>first|(cases h;rfl)|cases h
  |inRegion j todo=>cases todo<;>first|(cases h;rfl)|cases h
  |_=>first|(cases h;rfl)|cases h
theorem vA(o:iW fr){t:List Item}(h:bZ fr=some t):bZ (bF ρ fr)=some (t.map (cT ρ)):=by
 have m:=λx j=>eT (ρ:=ρ) fr x j;have l:=o.todo;unfold bZ at h⊢;rw[show(bF ρ fr).todo=fr.todo.map (cT ρ)from rfl];cases n:fr.todo with
 |nil=>rw[n]at h;cases h
 |cons i k=>
  rw[n]at h l;simp only[jY,IN]at l;cases i with
  |code c=>
   cases c with
   |region id g f=>cases f<;>first|(cases h;rfl)|cases h
   |exit id=>
    simp only[TP,cT]at h⊢;rw[oP,h];rfl
   |cond x a b=>
    have j:lN (dm fr.fn) x=true:=by have:=l.1;simp only[kw,j3,IN]at this;exact this.1.1
    simp only[TP,cT]at h⊢;rw[m x j];split at h
    ·rename_i q e;cases h;rw[e];simp[aD,cT]
    ·cases h
   |_=>first|(cases h;rfl)|cases h
  |inRegion g d=>cases d<;>first|(cases h;rfl)|cases h
  |_=>first|(cases h;rfl)|cases h
theorem wJ{z:Nat}{k:List Item}(h:k.all (Dl z)=true):∀ops a,k= .inRegion ops [1]::a->dH 3 ops=false:=λops a e=>by subst e;simp[Dl]at h
theorem yS(w:iW fr){t:List Item}(h:bZ fr=some t):jY (dm fr.fn) t=true/\∀ops k,t= .inRegion ops [1]::k->dH 3 ops=false:=by
 have r:=w.todo;unfold bZ at h;cases u:fr.todo with
 |nil=>rw[u]at h;cases h
 |cons i k=>
  rw[u]at h r;simp only[jY,IN]at r;obtain⟨d,g⟩:=r;have f:jY (dm fr.fn) k=true/\∀ops p,k= .inRegion ops [1]::p->dH 3 ops=false:=⟨xi g,wJ g⟩;have j:∀{c:Code} {l:List Item} (ops:Array Oper) (p:List Item),WK c::l= .inRegion ops [1]::p->dH 3 ops=false:=λ_ _ e=>by cases e
  cases i with
  |code c=>
   cases c with
   |region id ops o=>
    cases o with
    |false=>
     cases h;simp only[kw,j3,Yo,Bool.true_and,Ve]at d;refine⟨?_,λs p e=> ?_⟩
     ·simp only[jY,IN];refine⟨?_,g⟩;rcases d with d|d
      ·simp only[kw,d,XL]
      ·have y:U5 ops.size=[0,1]:=by
        obtain⟨l⟩:=ops;unfold dH at d;split at d
        ·rename_i e;simp only at e;subst e;rfl
        ·cases d
       simp[kw,d,y]
     ·simp only[List.cons.injEq,Xr.injEq]at e;have:=e.1.2;cases v:ops.size with
      |zero=>rw[v]at this;cases this
      |succ n=>rw[v,List.range_succ_eq_map]at this;simp at this
    |true=>cases h
   |exit id=>have:=qO _ id k h g;exact⟨xi this,wJ this⟩
   |cond x a b=>
    simp only at h;simp only[kw,j3,IN]at d;split at h
    ·rename_i q e;cases h;cases q
     ·exact⟨by simp[jY,kw,d.2,g],j⟩
     ·exact⟨by simp[jY,kw,d.1.2,g],j⟩
    ·cases h
   |seq a b=>
    cases h;simp only[kw,j3,IN]at d;exact⟨by simp[jY,Dl,kw,d.1,d.2,g],j⟩
   |block id b=>cases h;simp only[kw,j3]at d;exact⟨by simp[jY,Dl,kw,d,g],j⟩
   |loop b=>cases h;simp only[kw,j3]at d;exact⟨by simp[jY,Dl,kw,d,g],j⟩
   |scope b=>cases h;simp only[kw,j3]at d;exact⟨by simp[jY,Dl,kw,d,g],j⟩
   |skip=>cases h;exact f
   |label l=>cases h;exact f
   |_=>cases h
  |inRegion ops m=>cases m<;>first|(cases h;exact f)|cases h
  |inLoop b=>cases h;simp only[kw]at d;exact⟨by simp[jY,Dl,kw,d,g],j⟩
  |inBlock id=>cases h;exact f
  |inScope b=>cases h;exact f
  |_=>cases h
theorem yU{fr':Frame}{cs':List Frame}(l:cI G T D ρ wL wM)(b:∀a,aS G D ρ a->fr'=bF a fr)(e:∀a,aS G D ρ a->cs'=cs.map (bF a)++base)(c:iW fr)(d:kJ fr.kind cs)
 {t:List Item} (h:bZ fr=some t) (j mM k lM:Bool):∃i g,stepG.exec PL j k fr cs none wL= .go i wL/\stepG.exec PM mM lM fr' cs' none wM= .go g wM/\ep G D ρ base i g:=by
 have f:bZ fr'=some (t.map (cT ρ)):=by rw[b ρ l.self];exact vA c h
 refine⟨_,_,iO h,iO f,AT b e c d (λa m=> ?_) (yS c h).1 (yS c h).2⟩;have n:bZ fr'=some (t.map (cT a)):=by rw[b a m];exact vA c h
 exact Option.some.inj (f.symm.trans n)
end
section
variable{α β:Type}{f:α->β}
theorem rC(h:bE w)(a:Addr)(b:String):eO (w.noCell a b):=by
 unfold a52;split
 ·rename_i c e d;have:=h _ _ d;cases this
 ·trivial
 ·trivial
theorem xz{p:Program}(h:bE w){a:Addr}{b:Bool}{x:Halt}(e:w.farLoad p a b= .error x):eO x:=by
 unfold Vw at e;split at e
 ·split at e<;>cases e;trivial
 ·cases e;exact rC h _ _
theorem uI{p:Program}(h:bE w){a:Addr}{b:Bool}{x:Halt}(e:w.farStore p a v b= .error x):eO x:=by
 unfold Vf at e;split at e
 ·split at e<;>cases e;trivial
 ·cases e;exact rC h _ _
theorem bE.set(h:bE w)(r:Nat){o:Obj}(c:cN o=true):bE {w with heap:=w.heap.setIfInBounds r o}:=by
 intro b x a;dsimp only at a;rw[UE]at a;split at a
 ·split at a
  ·exact Option.some.inj a▸c
  ·cases a
 ·exact h b x a
theorem bE.modify(h:bE w)(r:Nat){g:Obj->Obj}(d:∀o,cN o=true->cN (g o)=true):bE {w with heap:=w.heap.modify r g}:=by
 intro b x a;dsimp only at a;rw[UB]at a;split at a
 ·cases c:w.heap[b]? with
  |none=>rw[c]at a;cases a
  |some o=>
   rw[c]at a;exact Option.some.inj a▸d o (h b o c)
 ·exact h b x a
theorem bE.setCell(h:bE w)(a:Addr)(v:Value):bE (w.setCell a v):=by unfold U9;refine h.modify a.block λo b=> ?_;cases o<;>first|exact b|(dsimp only;split<;>rfl)|rfl
theorem bE.freeze(h:bE w)(a:Addr)(n:Nat):bE (w.freeze a n):=by
 unfold Wz;split
 ·exact h
 ·refine h.modify a.block λo b=> ?_;cases o<;>first|exact b|rfl
theorem kC{p:Program}{g:World}(h:bE w){a:Addr}{b:Bool}{l:List Addr}(e:w.farStore p a v b= .ok (g,l)):bE g:=by
 unfold Vf at e;split at e
 ·rename_i d u q;split at e
  ·rename_i r f;cases e;cases i:w.seen p d u a b with
   |error x=>
    unfold Xw at f;by_cases j:(!tight p p.depth u)=true
    ·rw[if_pos j]at f;cases f
    ·rw[if_neg j,i]at f;cases f
   |ok y=>
    obtain⟨c,o,m,k⟩:=lU i;obtain⟨s,n,_⟩:=iy p (w':={w with heap:=w.heap.setIfInBounds d.block (.cells (c.map (aD λx=>x)) o m)}) (λx=>x) k (by simp[aK k]) f;rw[n];exact h.set d.block rfl
  ·cases e
 ·cases e
theorem dC{s:Sem α}{s':Sem β}(h:aF ρ PL PM f s s'):∀w,bE w->∀k w',s.run PL w= .halt k w'->eO k\/∃v,k= .panic v:=by
 induction h with
 |pure a=>intro w b k w' e;cases e
 | @load a l t h g=>
   intro w b k w' e;rw[Ub]at e;cases n:w.cell? a with
   |some v=>rw[n]at e;exact g v w b k w' e
   |none=>
    rw[n]at e;cases i:w.farLoad PL a (WT==Wy)with
    |ok y=>rw[i]at e;exact g y.1 w b k w' e
    |error x=>
     rw[i]at e;cases e;exact .inl (xz b i)
 | @store a v l t h g=>
   intro w b k w' e;cases j:pE v with
   |false=>
    obtain⟨A,B⟩:=gE (p:=PL) (w:=w) (m:= .plain) (a:=a) (k:=l) j;rw[B]at e;cases e;exact .inl trivial
   |true=>
    rw[fX j]at e;cases n:w.cell? a with
    |some u=>
     simp only[n]at e;split at e
     ·cases e;exact .inl trivial
     ·exact g _ (b.setCell a v) k w' e
    |none=>
     simp only[n]at e;cases i:w.farStore PL a v (WT==Wy)with
     |ok y=>rw[i]at e;exact g y.1 (kC b i) k w' e
     |error x=>
      rw[i]at e;cases e;exact .inl (uI b i)
 |new z h g=>intro w b k w' e;exact g _ _ (b.push z) k w' e
 |shape h g=>intro w b k w' e;exact g _ w b k w' e
 |freeze h g=>intro w b k w' e;exact g _ (b.freeze _ _) k w' e
 |frozen h g=>intro w b k w' e;exact g _ w b k w' e
 | @getObj r l t h g=>
   intro w b k w' e;rw[Ub]at e;split at e
   ·cases e;exact .inl trivial
   ·rename_i o z _;exact g o (b _ _ ‹_›) w b k w' e
   ·cases e;exact .inl trivial
 | @setObj r o l t z h g=>
   intro w b k w' e;rw[Ub]at e;split at e
   ·cases e;exact .inl trivial
   ·exact g _ (b.set r z) k w' e
   ·cases e;exact .inl trivial
 | @choose q l t h g=>
   intro w b k w' e;rw[Ub]at e;split at e
   ·exact g _ w b k w' e
   ·exact g _ {w with drawn:=w.drawn+1} b k w' e
 |program h g=>intro w b k w' e;exact g w b k w' e
 |mark F h g=>intro w b k w' e;exact g w b k w' e
 |panic h=>intro w b k w' e;cases e;exact .inr ⟨_,rfl⟩
 |dead d=>intro w b k w' e;cases e;exact .inl d
 |deadMark d=>intro w b k w' e;cases e;exact .inl d
 | @sys c l E d=>
   intro w b k w' e;obtain⟨x,D,i,C⟩:=d (w.sys c).1 (w.sys c).2;rw[Ub,i]at e;cases e;exact .inl C.1
end
structure Env (PL PM:Program) (G:Nat):Prop where
 same:bO PL PM
 gl:PL.globals.size=G
 tab:eN<G
 gm:PM.globals.size=G
 load:∀w a b,Vw PM w a b=Vw PL w a b
 store:∀w a v b,Vf PM w a v b=Vf PL w a v b
 fn:∀(ρ:Nat->Nat) (g:FuncId),iv ρ PL PM g
section
variable{G T:Nat}{base:List Frame}
theorem Env.far(E:Env PL PM G){a:Nat->Nat}(h:aS G D ρ a):Jt PL PM a:=⟨h.1.1,λb=>by rw[E.gl,E.gm];exact h.1.2 b⟩
theorem jj{k:List Item}{z:Nat}
 (b:fr.todo= .inRegion ops (i::rest)::k) (c:ops[i]?=some o) (d:TD o (yielded ops fr.tmps)=true) (a:mC z o.op=true):
 stepG.exec P main listen fr cs none w=stepG.apply P listen fr cs none (execOp fr.eval o) w:=by
 unfold stepG.exec;simp only[b,c,TE,U0,d,↓reduceIte];unfold stepG.oper;simp only[Xh,b,c];split
 ·rename_i e;rw[e]at a;cases a
 ·rfl
theorem Br(E:Env PL PM G)(y:cI G T D ρ wL wM)(R:bE wL)
 {fr':Frame} {cs':List Frame} (m:∀c,aS G D ρ c->fr'=bF c fr) (w:∀c,aS G D ρ c->cs'=cs.map (bF c)++base) (J:iW fr) (t:kJ fr.kind cs) (n:dV fr)
    {k:List Item}  (C:fr.todo= .inRegion ops (i::rest)::k) (F:ops[i]?=some o) (B:TD o (yielded ops fr.tmps)=true) (d:mC (dm fr.fn) o.op=true)
 (S:∀f args p,(execOp fr.eval o).run PL wL= .ok (.enter f args) p->j6 PL PM f)
 (Q:∀l f tmps a b p,(execOp fr.eval o).run PL wL= .ok (.round l f tmps a b) p->j3 0 a=true/\j3 0 b=true/\dm f=0)
 {K mM L:Bool} {s:Goroutine} {wL':World} {A:Array Event} (h:stepG.exec PL K L fr cs none wL= .go s wL' A) (P:wL'.drawn<=T) (N:s.status= .running) (O:s.dying=none):
 ∃D' c I wM' r,stepG.exec PM mM true fr' cs' none wM= .go I wM' r/\ep G D' c base s I/\i8 G T D ρ wL wM D' c wL' wM'/\∀e∈r,iw D' c e:=by
 have g:=m ρ y.self;have v:fr'.todo= .inRegion ops (i::rest)::k.map (cT ρ):=by rw[g];show fr.todo.map (cT ρ)=_;rw[C];rfl
 have u:TD o (yielded ops fr'.tmps)=true:=by rw[g];have:yielded ops (bF ρ fr).tmps=yielded ops fr.tmps:=funext λj=>eF ρ fr.fn ops fr.tmps j;rw[this];exact B
 have q:∀c,aS G D ρ c->aF c PL PM (fp c) (execOp fr.eval o) (execOp fr'.eval o):=λc H=>
  xT (z:=dm fr.fn) E.same (E.far H) (E.fn c) (λx M=>by rw[m c H];exact eT fr x M) o d
 rw[jj C F B d]at h;rw[jj v F u d];exact ki E.tab E.load E.store y m w J t n q (vV (E.fn ρ) fr.eval o d) (λx p e=>dC (q ρ y.self) wL R x p e) S Q h P N O
end
section
variable{α β:Type}{f:α->β}
theorem dt{s:Sem α}{s':Sem β}(h:aF ρ PL PM f s s'):∀w,bE w->∀a w',s.run PL w= .ok a w'->bE w':=by
 induction h with
 |pure a=>intro w b k w' e;cases e;exact b
 | @load a l t h g=>
   intro w b k w' e;rw[Ub]at e;cases n:w.cell? a with
   |some v=>rw[n]at e;exact g v w b k w' e
   |none=>
    rw[n]at e;cases i:w.farLoad PL a (WT==Wy)with
    |ok y=>rw[i]at e;exact g y.1 w b k w' e
    |error x=>rw[i]at e;cases e
 | @store a v l t h g=>
   intro w b k w' e;cases j:pE v with
   |false=>
    obtain⟨A,B⟩:=gE (p:=PL) (w:=w) (m:= .plain) (a:=a) (k:=l) j;rw[B]at e;cases e
   |true=>
    rw[fX j]at e;cases n:w.cell? a with
    |some u=>
     simp only[n]at e;split at e
     ·cases e
     ·exact g _ (b.setCell a v) k w' e
    |none=>
     simp only[n]at e;cases i:w.farStore PL a v (WT==Wy)with
     |ok y=>rw[i]at e;exact g y.1 (kC b i) k w' e
     |error x=>rw[i]at e;cases e
 |new z h g=>intro w b k w' e;exact g _ _ (b.push z) k w' e
 |shape h g=>intro w b k w' e;exact g _ w b k w' e
 |freeze h g=>intro w b k w' e;exact g _ (b.freeze _ _) k w' e
 |frozen h g=>intro w b k w' e;exact g _ w b k w' e
 | @getObj r l t h g=>
   intro w b k w' e;rw[Ub]at e;split at e
   ·cases e
   ·rename_i o z _;exact g o (b _ _ ‹_›) w b k w' e
   ·cases e
 | @setObj r o l t z h g=>
   intro w b k w' e;rw[Ub]at e;split at e
   ·cases e
   ·exact g _ (b.set r z) k w' e
   ·cases e
 | @choose q l t h g=>
   intro w b k w' e;rw[Ub]at e;split at e
   ·exact g _ w b k w' e
   ·exact g _ {w with drawn:=w.drawn+1} b k w' e
 |program h g=>intro w b k w' e;exact g w b k w' e
 |mark E h g=>intro w b k w' e;exact g w b k w' e
 |panic v=>intro w b k w' e;cases e
 |dead d=>intro w b k w' e;cases e
 |deadMark d=>intro w b k w' e;cases e
 | @sys c l D d=>
   intro w b k w' e;obtain⟨x,C,i,F⟩:=d (w.sys c).1 (w.sys c).2;rw[Ub,i]at e;cases e
theorem EN(h:bE w)(c:Sys):bE (w.sys c).2:=by
 have hask:∀{γ:Type} (a:Ask γ) (w:World),(w.ask a).2.heap=w.heap:=by
  intro γ a;induction a with
  |done a=>intro w;rfl
  |ask what range k ih=>
   intro w;unfold a78;dsimp only;split
   ·exact ih _ w
   ·exact ih _ {w with drawn:=w.drawn+1}
 intro b o ho;refine h b o ?_;rw[←ho];unfold a79;have:=hask (a36 c w.os) w;split
 ·rfl
 ·rename_i r os w1 _ hx;rw[hx]at this;exact congrArg (λhp:Array Obj=>hp[b]?) this.symm
theorem fP{s:Sem α}{s':Sem β}(h:aF ρ PL PM f s s'):∀w,bE w->∀a w',s.run PL w= .halt a w'->bE w':=by
 induction h with
 |pure a=>intro w b k w' e;cases e
 | @load a l t h g=>
   intro w b k w' e;rw[Ub]at e;cases n:w.cell? a with
   |some v=>rw[n]at e;exact g v w b k w' e
   |none=>
    rw[n]at e;cases i:w.farLoad PL a (WT==Wy)with
    |ok y=>rw[i]at e;exact g y.1 w b k w' e
    |error x=>rw[i]at e;cases e;exact b
 | @store a v l t h g=>
   intro w b k w' e;cases j:pE v with
   |false=>
    obtain⟨A,B⟩:=gE (p:=PL) (w:=w) (m:= .plain) (a:=a) (k:=l) j;rw[B]at e;cases e;exact b
   |true=>
    rw[fX j]at e;cases n:w.cell? a with
    |some u=>
     simp only[n]at e;split at e
     ·cases e;exact b
     ·exact g _ (b.setCell a v) k w' e
    |none=>
     simp only[n]at e;cases i:w.farStore PL a v (WT==Wy)with
     |ok y=>rw[i]at e;exact g y.1 (kC b i) k w' e
     |error x=>rw[i]at e;cases e;exact b
 |new z h g=>intro w b k w' e;exact g _ _ (b.push z) k w' e
 |shape h g=>intro w b k w' e;exact g _ w b k w' e
 |freeze h g=>intro w b k w' e;exact g _ (b.freeze _ _) k w' e
 |frozen h g=>intro w b k w' e;exact g _ w b k w' e
 | @getObj r l t h g=>
   intro w b k w' e;rw[Ub]at e;split at e
   ·cases e;exact b
   ·rename_i o z _;exact g o (b _ _ ‹_›) w b k w' e
   ·cases e;exact b
 | @setObj r o l t z h g=>
   intro w b k w' e;rw[Ub]at e;split at e
   ·cases e;exact b
   ·exact g _ (b.set r z) k w' e
   ·cases e;exact b
 | @choose q l t h g=>
   intro w b k w' e;rw[Ub]at e;split at e
   ·exact g _ w b k w' e
   ·exact g _ {w with drawn:=w.drawn+1} b k w' e
 |program h g=>intro w b k w' e;exact g w b k w' e
 |mark F h g=>intro w b k w' e;exact g w b k w' e
 |panic v=>intro w b k w' e;cases e;exact b
 |dead d=>intro w b k w' e;cases e;exact b
 |deadMark d=>intro w b k w' e;cases e;exact b
 | @sys c l E d=>
   intro w b k w' e;obtain⟨x,D,i,C⟩:=d (w.sys c).1 (w.sys c).2;rw[Ub,i]at e;cases e;exact C.2 (EN b c)
end
section
variable{G T:Nat}{base:List Frame}
theorem ji{k:List Item}
 (b:fr.todo= .inRegion ops (i::rest)::k) (a:((ops[i]?).map (TD · (yielded ops fr.tmps))).getD false=false):
 stepG.exec P main listen fr cs none w= .go {frame:=fr.finish undef,callers:=cs,status:= .running,dying:=none} w:=by unfold stepG.exec;simp only[b,a,TK,↓reduceIte]
theorem oD(s:cI G T D ρ wL wM){fr':Frame}{cs':List Frame}(d:∀a,aS G D ρ a->fr'=bF a fr)(h:∀a,aS G D ρ a->cs'=cs.map (bF a)++base)(l:iW fr)(e:kJ fr.kind cs)(b:dV fr)
    {k:List Item} (n:fr.todo= .inRegion ops (i::rest)::k) (m:((ops[i]?).map (TD · (yielded ops fr.tmps))).getD false=false) (q mM r lM:Bool):
 ∃p o,stepG.exec PL q r fr cs none wL= .go p wL/\stepG.exec PM mM lM fr' cs' none wM= .go o wM/\ep G D ρ base p o:=by
 have c:=d ρ s.self;have g:fr'.todo= .inRegion ops (i::rest)::k.map (cT ρ):=by rw[c];show fr.todo.map (cT ρ)=_;rw[n];rfl
 have f:((ops[i]?).map (TD · (yielded ops fr'.tmps))).getD false=false:=by rw[c];have:yielded ops (bF ρ fr).tmps=yielded ops fr.tmps:=funext λj=>eF ρ fr.fn ops fr.tmps j;rw[this];exact m
 refine⟨_,_,ji n m,ji g f,λa t=> ?_,h,mX l b undef,by rw[dr];exact e,rfl,rfl,rfl,rfl⟩;show fr'.finish undef=bF a (fr.finish undef);rw[d a t,←fD fr undef l b,fK]
end
section
variable{G T:Nat}{base:List Frame}
theorem jk{id:Nat}{k:List Item}{t:Nat}
 (a:fr.todo= .code (.region id ops true)::k) (b:(choose (.order fr.fn id)).run P w= .ok t w'):
 stepG.exec P main listen fr cs none w= .go {frame:={fr with todo:= .inRegion ops (Region.schedule (P.follows .mixedOrders) ops t)::k},callers:=cs,status:= .running,dying:=none} w':=by unfold stepG.exec;simp only[a,b,WZ,TK,↓reduceIte]
theorem u9(P:Program)(q:Question)(w:World):∃n w',(choose q).run P w= .ok n w':=by unfold choose;rw[Ub];split<;>exact⟨_,_,rfl⟩
theorem C3(E:Env PL PM G)(H:PL.follows .mixedOrders=PM.follows .mixedOrders)(x:cI G T D ρ wL wM){fr':Frame}{cs':List Frame}(c:∀a,aS G D ρ a->fr'=bF a fr)(s:∀a,aS G D ρ a->cs'=cs.map (bF a)++base)(ok:iW fr)(o:kJ fr.kind cs)
 {id:Nat}  {k:List Item} (j:fr.todo= .code (.region id ops true)::k) {C mM F lM:Bool} {z:Goroutine} {wL':World} {t:Array Event} (h:stepG.exec PL C F fr cs none wL= .go z wL' t) (I:wL'.drawn<=T):
 ∃D' a y wM',stepG.exec PM mM lM fr' cs' none wM= .go y wM'/\ep G D' a base z y/\i8 G T D ρ wL wM D' a wL' wM':=by
 have b:=c ρ x.self;have p:fr'.todo= .code (.region id ops true)::k.map (cT ρ):=by rw[b];show fr.todo.map (cT ρ)=_;rw[j];rfl
 have r:fr'.fn=fr.fn:=by rw[b];rfl
 obtain⟨n,m,w⟩:=u9 PL (.order fr.fn id) wL;rw[jk j w]at h;simp only[VP.injEq]at h;obtain⟨rfl,rfl,_⟩:=h;obtain⟨D',f,N,wM',K,M,L,i,_⟩:=dO E.load E.store (λ_ n=>n) (choose (.order fr.fn id)) (choose (.order fr.fn id)) D ρ wL wM x (λ_ _=> .choose λn=> .pure n) #[] _ m w rfl I;cases L with
 | @ok _ v _ _ q=>
   have d:(choose (.order fr.fn id)).run PM wM= .ok v wM':=(by rw[←UH PM _ wM #[],M]);have J:v=n:=q f i.rel.self;rw[J]at d;rw[←r]at d;refine⟨D',f,_,wM',jk p d, ?_,i⟩;rw[←H];have l:=ok.todo;rw[j]at l;simp only[jY,IN]at l;have d:=l.1;simp only[kw,j3,WZ,Bool.false_and,Bool.or_false]at d;refine AT (λa g=>c a (aS.of_ran i g)) (λa g=>s a (aS.of_ran i g)) ok o (λa g=> ?_) ?_ λu O e=>by simp only[List.cons.injEq,Xr.injEq]at e;rw[←e.1.1];exact pz d
   ·have B:=c a (aS.of_ran i g);have A:k.map (cT ρ)=k.map (cT a):=by have:=congrArg a69 (b.symm.trans B);simp only[bF,j,TP,List.cons.injEq]at this;exact this.2
    rw[A];rfl
   ·simp only[jY,IN,kw,d,XL,true_and];exact l.2
def E3(fr:Frame):Prop:=fr.roundOf=none/\(fr.todo=[]\/∃k,fr.todo= .code .ret::k)
theorem jC(h:E3 fr):
 stepG.exec P main listen fr cs none w= .go {frame:={fr with mode:= .returning},callers:=cs,status:= .running,dying:=none} w:=by obtain⟨b,a|⟨k,a⟩⟩:=h<;>unfold stepG.exec<;>simp only[b,a]<;>rfl
theorem FC(o:cI G T D ρ wL wM){fr':Frame}{cs':List Frame}(c:∀a,aS G D ρ a->fr'=bF a fr)(f:∀a,aS G D ρ a->cs'=cs.map (bF a)++base)(d:iW fr)(e:kJ fr.kind cs)(h:E3 fr)(m mM n lM:Bool):
 ∃l j,stepG.exec PL m n fr cs none wL= .go l wL/\stepG.exec PM mM lM fr' cs' none wM= .go j wM/\ep G D ρ base l j:=by
 have b:=c ρ o.self;have q:E3 fr':=by
  rw[b];obtain⟨i,g|⟨k,g⟩⟩:=h
  ·exact⟨by simp[bF,i], .inl (by simp[bF,g])⟩
  ·exact⟨by simp[bF,i], .inr ⟨k.map (cT ρ),by simp[bF,g,cT]⟩⟩
 refine⟨_,_,jC h,jC q,λa p=> ?_,f,⟨⟨⟨d.defers,rfl,d.kind,d.round⟩,d.todo⟩,qG s_⟩,e,rfl,rfl,rfl,rfl⟩;rw[c a p];rfl
end
theorem As{a:Type}{g g':a->Sem Value}:∀l:List a,(∀x∈l,aF ρ PL PM (aD ρ) (g x) (g' x))->aF ρ PL PM (Zg (aD ρ)) (l.mapM g) (l.mapM g')
 |[],h=>by simp only[a44];exact aP _ rfl
 |x::l,h=>by simp only[a30];exact(h x Wm).bind λv=>(As l λy b=>h y (W7 _ b)).bind λc=>aP _ rfl
theorem J9{a:Type}{g g':a->Sem Value}(xs:Array a)(h:∀x∈xs,aF ρ PL PM (aD ρ) (g x) (g' x)):aF ρ PL PM (Ww (aD ρ)) (xs.mapM g) (xs.mapM g'):=by rw[Wt,Wt];have:=As (ρ:=ρ) (PL:=PL) (PM:=PM) xs.toList λx b=>h x (by simpa using b);exact this.bind λc=>aP _ s_
def Jz(z:Nat)(r:ResultVar):Bool:=
 match r with
 | .tmp t=> !(qb z t)
 | .cell a _=> !(qb z a)
theorem zI(fn:FuncId)(tmps:Array Value)(t:Nat)(h:qb (dm fn) t=false):(jO ρ fn tmps).getD t undef=aD ρ (tmps.getD t undef):=by
 simp only[TO];rw[fA ρ fn tmps t h];cases tmps[t]? with
 |none=>exact(fK ρ).symm
 |some v=>rfl
theorem ui(e:bO PL PM)(fn c:Func)(g:FuncId)(tmps:Array Value)(j:c.results=fn.results)(d:fn.results.all (Jz (dm g))=true):
 aF ρ PL PM (aD ρ) (results fn tmps) (results c (jO ρ g tmps)):=by
 unfold results;rw[j];refine(J9 fn.results λx i=> ?_).bind λh=>aP _ ?_
 ·have:=Uv.1 d x i;cases x with
  |tmp t=>
   simp only[Jz,WA]at this;exact aP _ (zI g tmps t this)
  |cell a t=>
   simp only[Jz,WA]at this;dsimp only;rw[zI g tmps a this];exact(lH e _).bind λb=>jI e t b
 ·by_cases f:h.size=1
  ·simp[f]
  ·simp[f,aD]
section
variable{G T:Nat}{base:List Frame}
def dJ(c:Frame):Frame:=
 match c.mode with
 | .panicking ({recovered:=true, ..}::older)=>
   match older.dropWhile (!·.goexit)with
   |[]=>{c with mode:= .returning}
   |rest=>{c with mode:= .panicking rest}
 |_=>c
def back(kd:CallKind)(c:Frame)(v:Value):Frame:=if kd= .deferred then dJ c else c.finish v
theorem xY(d:Nat->Nat)(c:Frame):dJ (bF d c)=bF d (dJ c):=by
 obtain⟨i,f,e,b,g,h,a⟩:=c;simp only[dJ,bF];split
 ·split<;>rfl
 ·rfl
theorem zV{a:Type}{p:a->Bool}:∀{l:List a},(∀x∈l,p x=true)->l.dropWhile p=[]
 |[],_=>rfl
 |x::l,h=>by rw[List.dropWhile_cons_of_pos (h x Wm)];exact zV λy b=>h y (W7 _ b)
theorem Ay{c:Frame}(h:iW c):iW (dJ c):=by
 obtain⟨s,i,g,d,j,k,b⟩:=c;obtain⟨⟨p,f,o,n⟩,m⟩:=h;unfold dJ;split
 ·rename_i a l;simp only at l;subst l;have q:a.dropWhile (!·.goexit)=[]:=by simp only[Od,IN,VJ,List.all_eq_true]at f;exact zV λe r=>(f.2.2 e r).2
  rw[q];exact⟨⟨p,rfl,o,n⟩,m⟩
 ·exact⟨⟨p,f,o,n⟩,m⟩
theorem ud(a:Nat->Nat){b:CallKind}{c:Frame}(v:Value)(h:kJ b (c::cs)):back b (bF a c) (aD a v)=bF a (back b c v):=by
 unfold back;split
 ·exact xY a c
 ·exact fD c v h.1 (h.2.1.resolve_right λe=>‹¬b= .deferred› e.1)
theorem ov(c:Frame):(dJ c).kind=c.kind/\(dJ c).todo=c.todo/\(dJ c).tmps=c.tmps/\((dJ c).mode= .run->dJ c=c):=by
 unfold dJ;split
 ·split<;>exact⟨rfl,rfl,rfl,λe=>by cases e⟩
 ·exact⟨rfl,rfl,rfl,λ_=>rfl⟩
theorem xP{a:CallKind}{c:Frame}(v:Value)(h:kJ a (c::cs)):iW (back a c v)/\mE (back a c v):=by
 unfold back;split
 ·refine⟨Ay h.1,λb=> ?_⟩;have e:=(ov c).2.2.2 b;rw[e]at b⊢;exact we (h.2.1.resolve_right λq=>q.2 b) b
 ·exact mX h.1 (h.2.1.resolve_right λe=>‹¬a= .deferred› e.1) v
theorem ue{a:CallKind}{c:Frame}(v:Value)(h:kJ a (c::cs)):kJ (back a c v).kind cs:=by
 unfold back;split
 ·rw[(ov c).1];exact h.2.2
 ·rw[dr];exact h.2.2
theorem dN{c:Frame}(a:fr.kind= .normal\/fr.kind= .deferred):
 doReturn P main fr (c::cs) none v w= .go {frame:=back fr.kind c v,callers:=cs,status:= .running,dying:=none} w:=by rcases a with a|a<;>simp only[doReturn,back,a,dJ]<;>rfl
theorem va{c:Frame}(f:fr.defers=[])(b:fr.mode= .returning)(d:fr.kind= .normal\/fr.kind= .deferred)(e:P.funcs[fr.fn]?=some fn)
 (a:(results fn fr.tmps).runT P w #[]=(.ok v w',es)):unwind P main fr (c::cs) none w= .go {frame:=back fr.kind c v,callers:=cs,status:= .running,dying:=none} w' (seen P fr.fn es):=by unfold unwind;simp only[f,b,e,a,dN d,TI,Uw]
theorem Ej{c:Frame}(j:fr.defers=[])(e:fr.mode= .returning)(f:fr.kind= .normal\/fr.kind= .deferred)(i:P.funcs[fr.fn]?=some fn)
 (h:unwind P main fr (c::cs) none w= .go g w' es):∃v,(results fn fr.tmps).run P w= .ok v w'/\g={frame:=back fr.kind c v,callers:=cs,status:= .running,dying:=none}:=by
 have a:=UH P (results fn fr.tmps) w #[];unfold unwind at h;simp only[j,e,i]at h;generalize (results fn fr.tmps).runT P w #[]=q at h a;obtain⟨r,k⟩:=q;simp only at a;subst a;simp only at h;cases b:(results fn fr.tmps).run P w with
 |ok v d=>
  rw[b]at h;simp only[dN f,TI,VP.injEq]at h;obtain⟨rfl,rfl,_⟩:=h;exact⟨v,rfl,rfl⟩
 |halt x d=>
  rw[b]at h;cases x<;>simp[TI]at h
theorem xc(E:Env PL PM G)(k:cI G T D ρ wL wM){fr' c:Frame}{cs':List Frame}(i:∀a,aS G D ρ a->fr'=bF a fr)(d:∀a,aS G D ρ a->cs'=(c::cs).map (bF a)++base)(ok:iW fr)(g:kJ fr.kind (c::cs))
 (A:fr.defers=[]) (z:fr.mode= .returning) {f:Func} (J:PL.funcs[fr.fn]?=some fn) (s:PM.funcs[fr.fn]?=some f) (I:f.results=fn.results) (r:fn.results.all (Jz (dm fr.fn))=true)
 {F mM:Bool} {C:Goroutine} {wL':World} {u:Array Event} (h:unwind PL F fr (c::cs) none wL= .go C wL' u) (L:wL'.drawn<=T):
 ∃D' a B wM' l,unwind PM mM fr' cs' none wM= .go B wM' l/\ep G D' a base C B/\i8 G T D ρ wL wM D' a wL' wM'/\∀e∈l,iw D' a e:=by
 obtain⟨v,H,rfl⟩:=Ej A z ok.kind J h;have b:=i ρ k.self;have t:∀a,aS G D ρ a->aF a PL PM (aD a) (results fn fr.tmps) (results f fr'.tmps):=λa M=>by rw[i a M];exact ui E.same fn f fr.fn fr.tmps I r
 obtain⟨D',n,Q,wM',w,P,O,x,N⟩:=dO E.load E.store aD _ _ D ρ wL wM k t #[] _ wL' H rfl L;cases O with
 | @ok _ y _ _ o=>
   have j:=d ρ k.self;simp only[TP,UD]at j;have p:unwind PM mM fr' cs' none wM= .go {frame:=back fr'.kind (bF ρ c) y,callers:=cs.map (bF ρ)++base,status:= .running,dying:=none} wM' (seen PM fr'.fn (#[]++w)):=by
    rw[j];refine va (fn:=f) ?_ ?_ ?_ ?_ P
    ·rw[b];simp[bF,A]
    ·rw[b];exact z
    ·rw[b];exact ok.kind
    ·rw[b];exact s
   refine⟨D',n,_,wM',_,p,⟨λa m=> ?_,λa m=> ?_,xP v g,ue v g,rfl,rfl,rfl,rfl⟩,x,λe K=> ?_⟩
   ·have q:=(d ρ k.self).symm.trans (d a (aS.of_ran x m));simp only[TP,UD,List.cons.injEq]at q;show back fr'.kind (bF ρ c) y=bF a (back fr.kind c v);rw[q.1,o a m,b];exact ud a v g
   ·have q:=(d ρ k.self).symm.trans (d a (aS.of_ran x m));simp only[TP,UD,List.cons.injEq]at q;exact q.2
   ·have:=da _ _ _ e K;exact N e (by simpa using this)
end
section
variable{G T:Nat}{base:List Frame}
def gn(fr:Frame):Sem Next:=do fr.roundOf.elim (stuck "beginRound: no round") Vk;pure .skip
theorem jD{k:List Item}(a:fr.todo= .beginRound::k):
 stepG.exec P main listen fr cs none w=stepG.apply P listen fr cs none (gn fr) w:=by unfold stepG.exec;simp only[a];rfl
theorem Ac(E:Env PL PM G)(w:cI G T D ρ wL wM)(O:bE wL)
 {fr':Frame} {cs':List Frame} (d:∀c,aS G D ρ c->fr'=bF c fr) (v:∀c,aS G D ρ c->cs'=cs.map (bF c)++base) (ok:iW fr) (s:kJ fr.kind cs)
 {k:List Item} (u:fr.todo= .beginRound::k) {J mM K:Bool} {r:Goroutine} {wL':World} {y:Array Event} (h:stepG.exec PL J K fr cs none wL= .go r wL' y) (N:wL'.drawn<=T) (L:r.status= .running) (M:r.dying=none):
 ∃D' c C wM' q,stepG.exec PM mM true fr' cs' none wM= .go C wM' q/\ep G D' c base r C/\i8 G T D ρ wL wM D' c wL' wM'/\∀e∈q,iw D' c e:=by
 have o:=d ρ w.self;have t:fr'.todo= .beginRound::k.map (cT ρ):=by rw[o];show fr.todo.map (cT ρ)=_;rw[u];rfl
 have g:dV fr:=qQ λI j A k e=>by rw[u]at e;cases e
 have p:∀c,aS G D ρ c->aF c PL PM (fp c) (gn fr) (gn fr'):=λc P=>by
  rw[d c P];unfold gn;show aF c PL PM (fp c) (do fr.roundOf.elim _ Vk;pure .skip) (do(fr.roundOf.map c).elim _ Vk;pure .skip);cases fr.roundOf with
  |none=>exact .dead trivial
  |some l=>exact xR (ou E.same l)
 have Q:cM PL (gn fr):=qL _;have m:∀n i,(gn fr).run PL wL= .ok n i->n= .skip:=λn i e=>by
  unfold gn at e;rw[Uz]at e;cases B:(fr.roundOf.elim (stuck "beginRound: no round") Vk:Sem Unit).run PL wL with
  |ok a H=>rw[B]at e;cases e;rfl
  |halt x H=>rw[B]at e;cases e
 rw[jD u]at h;rw[jD t];exact ki E.tab E.load E.store w d v ok s g p Q (λx i e=>dC (p ρ w.self) wL O x i e) (λf F i e=>by have:=m _ _ e;cases this) (λl f z a b i e=>by have:=m _ _ e;cases this) h N L M
theorem Gu{a:List Deferred}(f:bE w)(h:(UN b).run P w= .ok a w'):a=[]:=by
 unfold UN at h;simp only[a8_,getObj,Ud,Ub]at h;split at h
 ·cases h
 ·rename_i o g _;have e:=f _ _ ‹_›;cases o with
  |deferred d=>
   cases d with
   |none=>cases h
   |some d=>
    have c:d=[]:=(by simpa[cN]using e);subst c;simp only[setObj,Ud,Ub]at h;split at h
    ·cases h
    ·cases h;rfl
    ·cases h
  |_=>cases h
 ·cases h
theorem ym{a:List Deferred}(d:fr.defers=⟨.collected b,args⟩::ds)
 (c:(UN b).runT P w #[]=(.ok a w',es)):unwind P main fr cs none w= .go {frame:={fr with defers:=a++ds},callers:=cs,status:= .running,dying:=none} w' (seen P fr.fn es):=by unfold unwind;simp only[d,c,TI,Uw]
theorem sS(f:fr.defers=⟨.collected b,args⟩::ds)
 (h:unwind P main fr cs none w= .go g w' es):∃a,(UN b).run P w= .ok a w'/\g={frame:={fr with defers:=a++ds},callers:=cs,status:= .running,dying:=none}:=by
 have c:=UH P (UN b) w #[];unfold unwind at h;simp only[f]at h;generalize (UN b).runT P w #[]=q at h c;obtain⟨r,i⟩:=q;simp only at c;subst c;simp only at h;cases d:(UN b).run P w with
 |ok v e=>
  rw[d]at h;simp only[TI,VP.injEq]at h;obtain⟨rfl,rfl,_⟩:=h;exact⟨v,rfl,rfl⟩
 |halt x e=>
  rw[d]at h;simp[TI]at h
theorem BF(E:Env PL PM G)(hW:cI G T D ρ wL wM)(hP:bE wL){fr':Frame}{cs':List Frame}(hfr:∀ρ',aS G D ρ ρ'->fr'=bF ρ' fr)(hcs:∀ρ',aS G D ρ ρ'->cs'=cs.map (bF ρ')++base)(ok:iW fr)(oks:kJ fr.kind cs)
    (hm:fr.mode≠ .run) (hd:fr.defers=⟨.collected b,args⟩::ds) {mL mM:Bool} {gL:Goroutine} {wL':World} {esL:Array Event} (h:unwind PL mL fr cs none wL= .go gL wL' esL) (hT:wL'.drawn<=T):
 ∃D' ρ' gM wM' esM,unwind PM mM fr' cs' none wM= .go gM wM' esM/\ep G D' ρ' base gL gM/\i8 G T D ρ wL wM D' ρ' wL' wM'/\∀e∈esM,iw D' ρ' e:=by
 obtain⟨calls,hv,rfl⟩:=sS hd h;have hnil:=Gu hP hv;have hfr0:=hfr ρ hW.self;have hdM:∀ρ',aS G D ρ ρ'->fr'.defers=⟨.collected (ρ' b),args.map (aD ρ')⟩::ds.map (iN ρ'):=λρ' hA=>by rw[hfr ρ' hA];show fr.defers.map (iN ρ')=_;rw[hd];rfl
 have hb:∀ρ',aS G D ρ ρ'->ρ' b=ρ b:=λρ' hA=>by have:=(hdM ρ' hA).symm.trans (hdM ρ hW.self);simp only[List.cons.injEq,Deferred.mk.injEq,Target.collected.injEq]at this;exact this.1.1
 obtain⟨D',ρ1,r',wM',es',e1,e2,e3,e4⟩:=dO E.load E.store (λρ l=>l.map (iN ρ)) (UN b) (UN (ρ b)) D ρ wL wM hW (λρ' hA=>by rw[←hb ρ' hA];exact mA b) #[] _ wL' hv rfl hT;cases e2 with
 | @ok _ v' _ _ hv'=>
   have hv0:v'=[]:=(by rw[hv' ρ1 e3.rel.self,hnil];rfl);refine⟨D',ρ1,_,wM',_,ym (hdM ρ hW.self) e1,⟨λρ' h'=> ?_,λρ' h'=>hcs ρ' (aS.of_ran e3 h'), ?_,oks,rfl,rfl,rfl,rfl⟩,e3,λe he=> ?_⟩
   ·have q:=(hdM ρ hW.self).symm.trans (hdM ρ' (aS.of_ran e3 h'));simp only[List.cons.injEq]at q;show{fr' with defers:=v'++ds.map (iN ρ)}=bF ρ' {fr with defers:=calls++ds};rw[q.2,hv0,hnil,hfr ρ' (aS.of_ran e3 h')];rfl
   ·refine⟨⟨⟨?_,ok.mode,ok.kind,ok.round⟩,ok.todo⟩,qG hm⟩;have:=ok.defers;rw[hd]at this;simp only[dB,VJ,IN]at this;show dB (calls++ds)=true;rw[hnil];exact this.2
   ·have:=da _ _ _ e he;exact e4 e (by simpa using this)
end
section
variable{G T:Nat}{base:List Frame}
theorem C2{a:Option Code}(d:bE w)(h:(UG l).run P w= .ok a w'):a.all (j3 0)=true:=by
 unfold UG VI at h;simp only[a8_,getObj,Ud,Ub]at h;split at h
 ·cases h
 ·rename_i o f _;have b:=d _ _ ‹_›;cases o with
  |loop r=>
   simp only[Pure.pure,Ud]at h;split at h
   ·obtain⟨x,e,c,_⟩:=ly (PL:=P) (α:=PUnit) (.error "range function recovered a loop body panic and did not resume panicking") w;rw[ZB,c]at h;cases h
   ·simp only[setObj,Ud,Ub]at h;simp only[cN,IN]at b;split at h
    ·cases h
    ·cases h;exact b.1.2
    ·cases h
  |_=>cases h
 ·cases h
theorem ja{k:List Item}{a:Option Code}(b:fr.todo= .endRangeFunc l::k)
 (c:(UG l).runT P w #[]=(.ok a w',es)):stepG.exec P main listen fr cs none w= .go {frame:={fr with todo:=(a.map WK).toList++k},callers:=cs,status:= .running,dying:=none} w' (seen P fr.fn es):=by unfold stepG.exec;simp only[b,c,TI,Uw]
theorem oT{k:List Item}(a:fr.todo= .endRangeFunc l::k)
 (b:(UG l).runT P w #[]=(.halt (.panic v) w',es)):stepG.exec P main listen fr cs none w= .go (ij fr cs v) w' (seen P fr.fn es):=by unfold stepG.exec;simp only[a,b,TI,Uw];rfl
theorem se{k:List Item}(e:fr.todo= .endRangeFunc l::k)
 (h:stepG.exec P main listen fr cs none w= .go g w' es):(∃a,(UG l).run P w= .ok a w'/\g={frame:={fr with todo:=(a.map WK).toList++k},callers:=cs,status:= .running,dying:=none})\/∃v,(UG l).run P w= .halt (.panic v) w'/\g=ij fr cs v:=by
 have b:=UH P (UG l) w #[];unfold stepG.exec at h;simp only[e]at h;generalize (UG l).runT P w #[]=q at h b;obtain⟨r,f⟩:=q;simp only at b;subst b;simp only at h;cases c:(UG l).run P w with
 |ok v d=>
  rw[c]at h;simp only[TI,VP.injEq]at h;obtain⟨rfl,rfl,_⟩:=h;exact .inl ⟨v,rfl,rfl⟩
 |halt x d=>
  rw[c]at h;cases x with
  |panic v=>
   simp only[TI,VP.injEq]at h;obtain⟨rfl,rfl,_⟩:=h;exact .inr ⟨v,rfl,rfl⟩
  |_=>simp[TI]at h
theorem uN(E:Env PL PM G)(o:cI G T D ρ wL wM)(W:bE wL){fr':Frame}{cs':List Frame}(m:∀a,aS G D ρ a->fr'=bF a fr)(s:∀a,aS G D ρ a->cs'=cs.map (bF a)++base)(ok:iW fr)(p:kJ fr.kind cs)
  {k:List Item} (A:fr.todo= .endRangeFunc l::k) {P mM Q lM:Bool} {N:Goroutine} {wL':World} {C:Array Event} (h:stepG.exec PL P Q fr cs none wL= .go N wL' C) (L:wL'.drawn<=T):
 ∃D' a M wM' t,stepG.exec PM mM lM fr' cs' none wM= .go M wM' t/\ep G D' a base N M/\i8 G T D ρ wL wM D' a wL' wM'/\∀e∈t,iw D' a e:=by
 have b:∀a,aS G D ρ a->fr'.todo= .endRangeFunc (a l)::k.map (cT a):=λa n=>by rw[m a n];show fr.todo.map (cT a)=_;rw[A];rfl
 have K:∀a,aS G D ρ a->a l=ρ l:=λa n=>by have:=(b a n).symm.trans (b ρ o.self);simp only[List.cons.injEq,Item.endRangeFunc.injEq]at this;exact this.1
 rcases se A h with⟨r,w,rfl⟩|⟨v,w,rfl⟩
 rotate_left
 ·obtain⟨D',d,O,wM',F,J,I,g,H⟩:=dO E.load E.store (λ_ j=>j) (UG l) (UG (ρ l)) D ρ wL wM o (λa n=>by rw[←K a n];exact mu E.same l) #[] _ wL' w rfl L;cases I with
  |panic U=>
   refine⟨D',d,_,wM',_,oT (b ρ o.self) J,⟨λa f=> ?_,λa f=>s a (aS.of_ran g f),⟨ok.raise (by simp[Bv,U]),jw _ _⟩,by rw[ij,jt];exact p,rfl,rfl,rfl,rfl⟩,g,λe B=> ?_⟩
   ·show fr'.raise _=bF a (fr.raise _);rw[m a (aS.of_ran g f),kZ]
   ·have:=da _ _ _ e B;exact H e (by simpa using this)
 have V:=C2 W w;obtain⟨D',d,O,wM',F,J,I,g,H⟩:=dO E.load E.store (λ_ j=>j) (UG l) (UG (ρ l)) D ρ wL wM o (λa n=>by rw[←K a n];exact mu E.same l) #[] _ wL' w rfl L;cases I with
 | @ok _ u _ _ z=>
   have y:u=r:=z d g.rel.self;subst y;have i:=ok.todo;rw[A]at i;simp only[jY,IN]at i;have S:dm fr.fn=0:=by have:=i.1;simpa[kw]using this
   refine⟨D',d,_,wM',_,ja (b ρ o.self) J,AT (λa f=>m a (aS.of_ran g f)) (λa f=>s a (aS.of_ran g f)) ok p (λa f=> ?_) ?_ ?_,g,λe B=> ?_⟩
   ·have q:=(b ρ o.self).symm.trans (b a (aS.of_ran g f));simp only[List.cons.injEq]at q;rw[q.2];cases u<;>simp[cT]
   ·rw[S]at i⊢;cases u with
    |none=>exact xi i.2
    |some c=>simp only[TE,Option.toList_some,UD,Z6,jY,IN];exact⟨V,i.2⟩
   ·intro x R e;cases u with
    |none=>exact wJ i.2 x R e
    |some c=>cases e
   ·have:=da _ _ _ e B;exact H e (by simpa using this)
end
inductive fW (fr:Frame):Option Code->Prop
 |done (h:fr.todo=[]):fW fr none
 |ret {k:List Item} (h:fr.todo= .code .ret::k):fW fr (some .ret)
 |exit {id:Nat} {k:List Item} (h:fr.todo= .code (.exit id)::k) (he:exitTo id k=none):fW fr (some (.exit id))
theorem fW.ok{j:Option Code}(h:fW fr j):j.all (j3 0)=true:=by cases h<;>rfl
theorem fW.ren{j:Option Code}(h:fW fr j)(a:Nat->Nat):fW (bF a fr) j:=by
 cases h with
 |done h=>exact .done (by simp[bF,h])
 |ret h=>exact .ret (k:=_) (by simp only[bF,h,TP,cT];rfl)
 | @exit id k h b=>exact .exit (k:=k.map (cT a)) (by simp[bF,h,cT]) (by rw[oP,b];rfl)
section
variable{G T:Nat}{base:List Frame}
theorem rO{c:Frame}{j:Option Code}(e:fW fr j)(b:fr.roundOf=some l)(d:fr.kind= .normal\/fr.kind= .deferred)
 (a:(UI l j).runT P w #[]=(.ok v w',es)):stepG.exec P main listen fr (c::cs) none w= .go {frame:=back fr.kind c v,callers:=cs,status:= .running,dying:=none} w' (seen P fr.fn es):=by
 unfold stepG.exec;cases e with
 |done h=>simp only[h,b,a,dN d,TI,Uw]
 |ret h=>simp only[h,b,a,dN d,TI,Uw]
 |exit h f=>simp only[h,f,WL,b,a,dN d,TI,Uw]
theorem oR{c:Frame}{j:Option Code}(e:fW fr j)(d:fr.roundOf=some l)(a:fr.kind= .normal)
 (b:(UI l j).runT P w #[]=(.ok v w',es)):stepG.exec P main listen fr (c::cs) none w= .go {frame:=c.finish v,callers:=cs,status:= .running,dying:=none} w' (seen P fr.fn es):=by have:=rO (main:=main) (listen:=listen) (c:=c) (cs:=cs) e d (.inl a) b;simpa only[back,a,reduceCtorEq,↓reduceIte]using this
theorem uL{c:Frame}{j:Option Code}(m:fW fr j)(i:fr.roundOf=some l)(k:fr.kind= .normal\/fr.kind= .deferred)
 (h:stepG.exec P main listen fr (c::cs) none w= .go g w' es):∃v,(UI l j).run P w= .ok v w'/\g={frame:=back fr.kind c v,callers:=cs,status:= .running,dying:=none}:=by
 have a:=UH P (UI l j) w #[];unfold stepG.exec at h;cases m with
 |done e=>
  simp only[e,i]at h;generalize (UI l none).runT P w #[]=q at h a;obtain⟨r,f⟩:=q;simp only at a;subst a;simp only at h;cases b:(UI l none).run P w with
  |ok v d=>
   rw[b]at h;simp only[dN k,TI,VP.injEq]at h;obtain⟨rfl,rfl,_⟩:=h;exact⟨v,rfl,rfl⟩
  |halt x d=>
   rw[b]at h;simp[TI]at h
 |ret e=>
  simp only[e,i]at h;generalize (UI l (some .ret)).runT P w #[]=q at h a;obtain⟨r,f⟩:=q;simp only at a;subst a;simp only at h;cases b:(UI l (some .ret)).run P w with
  |ok v d=>
   rw[b]at h;simp only[dN k,TI,VP.injEq]at h;obtain⟨rfl,rfl,_⟩:=h;exact⟨v,rfl,rfl⟩
  |halt x d=>
   rw[b]at h;simp[TI]at h
 | @exit id _ e n=>
   simp only[e,n,WL,i]at h;generalize (UI l (some (.exit id))).runT P w #[]=q at h a;obtain⟨r,f⟩:=q;simp only at a;subst a;simp only at h;cases b:(UI l (some (.exit id))).run P w with
   |ok v d=>
    rw[b]at h;simp only[dN k,TI,VP.injEq]at h;obtain⟨rfl,rfl,_⟩:=h;exact⟨v,rfl,rfl⟩
   |halt x d=>
    rw[b]at h;simp[TI]at h
theorem zw(E:Env PL PM G)(i:cI G T D ρ wL wM){fr' c:Frame}{cs':List Frame}(k:∀a,aS G D ρ a->fr'=bF a fr)(d:∀a,aS G D ρ a->cs'=(c::cs).map (bF a)++base)(ok:iW fr)(f:kJ fr.kind (c::cs))
  {j:Option Code} (w:fW fr j) (B:fr.roundOf=some l) {H mM I lM:Bool} {F:Goroutine} {wL':World} {x:Array Event} (h:stepG.exec PL H I fr (c::cs) none wL= .go F wL' x) (L:wL'.drawn<=T):
 ∃D' a C wM' o,stepG.exec PM mM lM fr' cs' none wM= .go C wM' o/\ep G D' a base F C/\i8 G T D ρ wL wM D' a wL' wM'/\∀e∈o,iw D' a e:=by
 obtain⟨v,J,rfl⟩:=uL w B ok.kind h;have b:=k ρ i.self;have g:∀a,aS G D ρ a->fr'.roundOf=some (a l):=λa n=>by rw[k a n];show fr.roundOf.map a=_;rw[B];rfl
 have u:∀a,aS G D ρ a->a l=ρ l:=λa n=>Option.some.inj ((g a n).symm.trans (g ρ i.self));obtain⟨D',r,P,wM',y,O,N,z,M⟩:=dO E.load E.store aD (UI l j) (UI (ρ l) j) D ρ wL wM i (λa n=>by rw[←u a n];exact rX l j w.ok) #[] _ wL' J rfl L;cases N with
 | @ok _ A _ _ s=>
   have m:=d ρ i.self;simp only[TP,UD]at m;have t:stepG.exec PM mM lM fr' cs' none wM= .go {frame:=back fr'.kind (bF ρ c) A,callers:=cs.map (bF ρ)++base,status:= .running,dying:=none} wM' (seen PM fr'.fn (#[]++y)):=by
    rw[m];refine rO ?_ (g ρ i.self) ?_ O
    ·rw[b];exact w.ren ρ
    ·rw[b];exact ok.kind
   refine⟨D',r,_,wM',_,t,⟨λa p=> ?_,λa p=> ?_,xP v f,ue v f,rfl,rfl,rfl,rfl⟩,z,λe K=> ?_⟩
   ·have q:=(d ρ i.self).symm.trans (d a (aS.of_ran z p));simp only[TP,UD,List.cons.injEq]at q;show back fr'.kind (bF ρ c) A=bF a (back fr.kind c v);rw[q.1,s a p,b];exact ud a v f
   ·have q:=(d ρ i.self).symm.trans (d a (aS.of_ran z p));simp only[TP,UD,List.cons.injEq]at q;exact q.2
   ·have:=da _ _ _ e K;exact M e (by simpa using this)
end
def kH(wL wM:World):Prop:=∃c e f,(∀v∈c,bQ v=true)/\wL.heap[eN]?=some (.cells c e f)/\wM.heap[eN]?=some (.cells c e f)
def uo(e:Event):Prop:=∃a:Addr,a.block=eN/\e=⟨.cell a,false,false⟩
def E7(PL:Program):Prop:=∃d,PL.underlying oU=some d/\(∀fs,d≠ .struct fs)/\∀n e,d≠ .array n e
section
variable{G T:Nat}{base:List Frame}
theorem kH.ran{D':Nat->Prop}{a:Nat->Nat}{wL' wM':World}(h:kH wL wM)(n:eN<G)(d:cI G T D ρ wL wM)(g:i8 G T D ρ wL wM D' a wL' wM'):kH wL' wM':=by
 obtain⟨c,e,f,m,j,i⟩:=h;refine⟨c,e,f,m, ?_, ?_⟩
 ·rw[g.keepL eN (aK j) λk=>by have:=d.out _ k;omega];exact j
 ·rw[g.keep eN (aK i) λb l e=>by have:=d.out _ l;have:=d.glob b;omega];exact i
theorem G7(a:Addr)(n:Nat):(a.add n).block=a.block:=by unfold Addr.add;split<;>rfl
theorem xL{a:Type}{k:IntKind}{x y:Int}{c:BoundsCode}{v:a}(h:(boundsPanic k x y c:Sem a).run PL w= .ok v w'):False:=by
 unfold boundsPanic at h;dsimp only at h;split at h
 all_goals
  rw[Uz]at h;revert h;generalize Ub PL _ w=q;intro h;cases q with
  |halt z d=>cases h
  |ok b d=>
   obtain⟨g,i,f,_⟩:=ly (PL:=PL) (α:=a) (.bounds (U2.wrap x) y b c) d;exact absurd (f.symm.trans h) (by intro e;cases e)
theorem xr(g:bO PL PM){a:Addr}{c:Value}(h:(V3 t (.pointer (some a)) c).run PL w= .ok v w'):
 w'=w/\(∀j,aD j c=c)/\(∃b:Addr,v= .pointer (some b)/\b.block=a.block)/\∀l es,(V3 t (.pointer (some a)) c).runT PM l es=(.ok v l,es):=by
 cases c with
 |int k i=>
  unfold V3 at h⊢;simp only[asIntOf,underlying,program,bind,pure,Ud,Ub,Um,←g.under]at h⊢;cases f:PL.underlying t with
  |none=>simp[f,stuck,Ud]at h
  |some d=>
   simp only[f,Ud]at h⊢;cases d with
   |array n e=>
    simp only[V2,pure,Ud,Ub,Um,f,←g.under]at h⊢;by_cases o:0<=i/\i<(n:Int)
    ·simp only[o,and_self,↓reduceIte,sizeOf,typeInfo,program,bind,pure,Ud,Ub,Um,←g.info]at h⊢;cases m:PL.info? e with
     |none=>simp[m,stuck,Ud]at h
     |some z=>
      simp only[m,Ud,Ub,Um,Yf.injEq]at h⊢;obtain⟨rfl,rfl⟩:=h;exact⟨rfl,λj=>by simp[aD],⟨_,rfl,G7 _ _⟩,λ_ _=>by first|rfl|trivial⟩
    ·simp only[o,↓reduceIte]at h;split at h
     ·simp[unsupported]at h
     ·exfalso;exact xL h
   |_=>simp[stuck,Ud]at h
 |pointer p=>cases p<;>simp[V3,asIntOf,stuck,unsupported,bind,Ud]at h
 |_=>simp[V3,asIntOf,stuck,bind,Ud]at h
theorem cS{k:List Item}
 (b:fr.todo= .inRegion ops (i::rest)::k) (d:ops[i]?=some o) (f:TD o (yielded ops fr.tmps)=true) (a:∀c,o.op≠ .defer c):
 stepG.exec P main listen fr cs none w=stepG.apply P listen fr cs none (execOp fr.eval o) w:=by
 unfold stepG.exec;simp only[b,d,TE,U0,f,↓reduceIte];unfold stepG.oper;simp only[Xh,b,d];split
 ·rename_i e;exact absurd e (a _)
 ·rfl
theorem Bi(b:Nat->Nat)(tmps:Array Value)(hv:iD b v=v):(jO b j1 tmps).setIfInBounds dx v=jO b j1 (tmps.setIfInBounds dx v):=by
 apply WW;intro i;by_cases d:qb (dm j1) i=true
 ·rw[m6 b j1 _ i d];have e:dx=i:=Eq.symm (by simpa[fV,mj]using d:i=dx);subst e;rw[UE,UE,vy];simp only[↓reduceIte];split
  ·simp[my,fV,hv]
  ·rfl
 ·have a:qb (dm j1) i=false:=by simpa using d
  have c:dx≠i:=λe=>by subst e;simp[fV,mj]at a
  rw[fA b j1 _ i a,sN c,sN c,fA b j1 _ i a]
theorem vY(c:Nat->Nat)(fr:Frame)(v:Value){k:List Item}(h:fr.todo= .inRegion ops (i::rest)::k)(l:ops[i]?=some o)(j:fr.fn=j1)(m:o.dst=some dx)(hv:iD c v=v):
 (bF c fr).finish v=bF c (fr.finish v):=by obtain⟨n,a,e,d,f,g,b⟩:=fr;simp only at h j;subst h j;simp only[bF,VL,TP,cT,l,Ug,m,Bi c a hv]
theorem Dt(b:iW fr)(c:dm fr.fn=1):mE fr:=Ds λa k e=>pz (b.noPair c a 1 [] k e)
theorem Aw(b:bO PL PM)(t:TypeId)(a:Addr)(x:Value):aF ρ PL PM (λv=>v) (V3 t (.pointer (some a)) x) (V3 t (.pointer (some a)) (aD ρ x)):=by
 unfold V3;refine(p7 x).bind λc=>(aY b t).bind λd=> ?_;cases d with
 |array n e=>
  simp only[id,V2,pure_bind];refine(aY b t).bind λd=> ?_;refine cG ((ef b e).bind λz=>aP _ rfl) (cG (.dead trivial) (wy b _ _ _ _))
 |_=>exact .dead trivial
theorem yX(E:Env PL PM G)(V:cI G T D ρ wL wM)(hP:bE wL)
 {fr':Frame} {cs':List Frame} (m:∀a,aS G D ρ a->fr'=bF a fr) (I:∀a,aS G D ρ a->cs'=cs.map (bF a)++base) (ok:iW fr) (A:kJ fr.kind cs)
    {k:List Item}  (O:fr.todo= .inRegion ops (i::rest)::k) (K:ops[i]?=some o) (hw:TD o (yielded ops fr.tmps)=true)
 (F:fr.fn=j1)  {l:Operand} (u:o.op= .indexAddr t (.global eN) l) (hx:lN 1 l=true) (H:o.dst=some dx)
 {mL mM lL:Bool} {L:Goroutine} {wL':World} {Y:Array Event} (h:stepG.exec PL mL lL fr cs none wL= .go L wL' Y) (hT:wL'.drawn<=T) (hq:L.status= .running) (hd:L.dying=none):
 ∃D' a gM wM' J,stepG.exec PM mM true fr' cs' none wM= .go gM wM' J/\ep G D' a base L gM/\i8 G T D ρ wL wM D' a wL' wM'/\∀e∈J,iw D' a e:=by
 have g:=m ρ V.self;have q:fr'.todo= .inRegion ops (i::rest)::k.map (cT ρ):=by rw[g];show fr.todo.map (cT ρ)=_;rw[O];rfl
 have B:TD o (yielded ops fr'.tmps)=true:=by rw[g];have:yielded ops (bF ρ fr).tmps=yielded ops fr.tmps:=funext λj=>eF ρ fr.fn ops fr.tmps j;rw[this];exact hw
 have y:∀c,o.op≠ .defer c:=λc e=>by rw[u]at e;cases e
 rw[cS O K hw y]at h;have z:execOp fr.eval o=(do pure (.value (←V3 t (fr.eval (.global eN)) (fr.eval l))):Sem Next):=by unfold execOp;rw[u]
 have p:execOp fr'.eval o=(do pure (.value (←V3 t (fr'.eval (.global eN)) (fr'.eval l))):Sem Next):=by unfold execOp;rw[u]
 rw[z]at h;have C:qC fr:=ok.noPair (by rw[F,fV]);rcases pX ok.noCall (fC _) h hq (λx N e=>dC (ca (jJ (ρ:=id) E.same t _ _)) wL hP x N e) hd with⟨n,f,_,rfl⟩|⟨v,f,rfl⟩
 rotate_left
 ·rw[←z]at f;have U:∀a,aS G D ρ a->aF a PL PM (λn=>n) (execOp fr.eval o) (execOp fr'.eval o):=λa W=>by rw[z,p,m a W,eT fr l (by rw[F,fV];exact hx)];exact(Aw E.same t ⟨eN,0,none⟩ (fr.eval l)).bind λv=>aP _ rfl
  obtain⟨D',M,r',wM',a0,e1,e2,Z,e4⟩:=dO E.load E.store (λ_ n=>n) _ _ D ρ wL wM V U #[] _ wL' f rfl hT;cases e2 with
  |panic hp=>
   refine⟨D',M,_,wM',_,(cS q K B y).trans (tJ e1),⟨λa X=> ?_,λa X=>I a (aS.of_ran Z X),⟨ok.raise (by simp[Bv,hp]),jw _ _⟩,by rw[ij,jt];exact A,rfl,rfl,rfl,rfl⟩,Z,λe R=> ?_⟩
   ·show fr'.raise _=bF a (fr.raise _);rw[m a (aS.of_ran Z X),kZ]
   ·have:=da _ _ _ e R;split at this
    ·simp at this
    ·exact e4 e (by simpa using this)
 rw[Uz]at f;cases P:(V3 t (fr.eval (.global eN)) (fr.eval l)).run PL wL with
 |halt x N=>rw[P]at f;cases f
 |ok v N=>
  rw[P]at f;cases f;obtain⟨rfl,h1,⟨b,rfl,h2⟩,h3⟩:=xr E.same P;have Q:fr'.eval l=fr.eval l:=by rw[g,eT fr l (by rw[F,fV];exact hx)];exact h1 ρ
  have hr:(execOp fr'.eval o).runT PM wM #[]=(.ok (.value (.pointer (some b))) wM,#[]):=by rw[p,Q];show Um PM (Ud _ _) wM #[]=_;rw[a37];have:=h3 wM #[];simp only[Wb]at this⊢;rw[this];rfl
  have S:ea fr':=by intro d w r s k2 e;rw[q]at e;cases e
  refine⟨D,ρ,{frame:=fr'.finish (.pointer (some b)),callers:=cs',status:= .running,dying:=none},wM,_,(cS q K B y).trans (dz S hr rfl),⟨λa W=> ?_,I, ?_,by show kJ (fr.finish _).kind cs;rw[dr];exact A,rfl,rfl,rfl,rfl⟩,i8.refl V,λe R=>by have:=da _ _ _ e R;split at this<;>simp at this⟩
  ·show fr'.finish _=bF a (fr.finish _);rw[m a W];exact vY a fr _ O K F H (by simp[iD,jz,h2])
  ·exact⟨(vH fr _ ok C).1,(vH fr _ ok C).2 (Dt ok (by rw[F,fV]))⟩
theorem BM(E:Env PL PM G)(L:E7 PL)(hW:cI G T D ρ wL wM)(hP:bE wL)(hR:kH wL wM)
 {fr':Frame} {cs':List Frame} (O:∀m,aS G D ρ m->fr'=bF m fr) (a4:∀m,aS G D ρ m->cs'=cs.map (bF m)++base) (ok:iW fr) (Z:kJ fr.kind cs)
    {k:List Item}  (ht:fr.todo= .inRegion ops (i::rest)::k) (ho:ops[i]?=some o) (hw:TD o (yielded ops fr.tmps)=true)
 (hf:fr.fn=j1) (F:o.op= .load oU (.tmp dx)) (b:jz (fr.eval (.tmp dx))=true) (A:dV fr)
 {mL mM lL:Bool} {X:Goroutine} {wL':World} {a6:Array Event} (h:stepG.exec PL mL lL fr cs none wL= .go X wL' a6) (hq:X.status= .running) (hd:X.dying=none):
 ∃gM U,wL'=wL/\stepG.exec PM mM true fr' cs' none wM= .go gM wM U/\ep G D ρ base X gM/\∀e∈U,uo e:=by
 have z:=O ρ hW.self;have M:fr'.todo= .inRegion ops (i::rest)::k.map (cT ρ):=by rw[z];show fr.todo.map (cT ρ)=_;rw[ht];rfl
 have a0:TD o (yielded ops fr'.tmps)=true:=by rw[z];have:yielded ops (bF ρ fr).tmps=yielded ops fr.tmps:=funext λj=>eF ρ fr.fn ops fr.tmps j;rw[this];exact hw
 have N:∀c,o.op≠ .defer c:=λc e=>by rw[F]at e;cases e
 rw[cS ht ho hw N]at h;have a3:execOp fr.eval o=(do pure (.value (←TN oU (fr.eval (.tmp dx)))):Sem Next):=by unfold execOp;rw[F]
 have Q:execOp fr'.eval o=(do pure (.value (←TN oU (fr'.eval (.tmp dx)))):Sem Next):=by unfold execOp;rw[F]
 have R:fr'.eval (.tmp dx)=fr.eval (.tmp dx):=by
  rw[z];simp only[Wb,bF,TO];rw[m6 ρ fr.fn fr.tmps dx (by simp[hf,fV,mj])];simp only[Wb,TO]at b;cases K:fr.tmps[dx]? with
  |none=>rfl
  |some v=>
   rw[K]at b;simp only[U0]at b;simp[my,hf,fV,iD,b]
 rw[a3]at h;have a2:∀v B,(TN oU (fr.eval (.tmp dx))).run PL wL≠ .halt (.panic v) B:=λv B e=>by
  obtain⟨d,V,I,H⟩:=L;generalize fr.eval (.tmp dx)=p at b e;cases p<;>simp only[jz,TK]at b;rename_i a;cases a with
  |none=>cases b
  |some a=>
   have hl:(TN oU (.pointer (some a))).run PL wL=(load a:Sem Value).run PL wL:=by unfold TN loadVar isAgg underlying V2;simp only[program,bind,pure,Ud,Ub,V];cases d<;>first|rfl|exact absurd rfl (I _)|exact absurd rfl (H _ _)
   rw[hl]at e;simp only[load,Ub]at e;cases S:wL.cell? a with
   |some u=>rw[S]at e;cases e
   |none=>
    rw[S]at e;cases K:wL.farLoad PL a (WT==Wy)with
    |ok y=>rw[K]at e;cases e
    |error x=>rw[K]at e;simp only[Result.halt.injEq]at e;exact oN K _ e.1
 rcases pX ok.noCall (fC _) h hq (λx B e=>dC (ca (gy (ρ:=id) E.same oU _)) wL hP x B e) hd with⟨n,g,_,rfl⟩|⟨v,g,rfl⟩
 rotate_left
 ·rw[Uz]at g;cases C:(TN oU (fr.eval (.tmp dx))).run PL wL with
  |halt x B=>rw[C]at g;cases g;exact absurd C (a2 _ _)
  |ok v B=>rw[C]at g;cases g
 rw[Uz]at g;cases C:(TN oU (fr.eval (.tmp dx))).run PL wL with
 |halt x B=>rw[C]at g;cases g
 |ok v B=>
  rw[C]at g;cases g;generalize fr.eval (.tmp dx)=p at b C R;cases p<;>simp only[jz,TK]at b
  ·rename_i a;cases a with
   |none=>cases b
   |some a=>
    have W:a.block=eN:=(by simpa using b);obtain⟨d,V,I,H⟩:=L;obtain⟨c,e,f,q1,Y,q3⟩:=hR;have J:wM.cell? a=wL.cell? a:=(by unfold U6;rw[W,Y,q3]);have t:∀(P:Program),P.underlying oU=some d->∀w es,(TN oU (.pointer (some a))).runT P w es=(load a:Sem Value).runT P w es:=by intro P hP w es;unfold TN loadVar isAgg underlying V2;simp only[program,bind,pure,Ud,Um,hP];cases d<;>first|rfl|exact absurd rfl (I _)|exact absurd rfl (H _ _)
    have l:=congrArg Prod.fst (t PL V wL #[]);rw[UH,UH,C]at l;have q:wL.cell? a=some v/\wL'=wL:=by
     simp only[load,Ub]at l;cases S:wL.cell? a with
     |some x=>rw[S]at l;simp only[Yf.injEq]at l;exact⟨by rw[l.1],l.2⟩
     |none=>
      rw[S]at l;unfold Vw at l;rw[W,Y]at l;simp at l
    obtain⟨q,rfl⟩:=q;have a1:bQ v=true:=by
     unfold U6 at q;rw[W,Y]at q;simp only at q;split at q
     ·cases q
     ·exact q1 v (UA q)
    have hr:(execOp fr'.eval o).runT PM wM #[]=(.ok (.value v) wM,#[⟨.cell a,false,false⟩]):=by rw[Q,R];show Um PM (Ud _ _) wM #[]=_;rw[a37,t PM (by rw[←E.same.under];exact V)];simp only[load,Um,J,q];rfl
    have a5:ea fr':=by intro d w r s k2 e;rw[M]at e;cases e
    refine⟨_,_,rfl,by rw[cS M ho a0 N];exact dz a5 hr rfl,⟨λm hA=> ?_,a4,mX ok A v,by show kJ (fr.finish v).kind cs;rw[dr];exact Z,rfl,rfl,rfl,rfl⟩,λe he=> ?_⟩
    ·show fr'.finish v=bF m (fr.finish v);rw[O m hA,←fD fr v ok A,dS m v a1]
    ·have:=da _ _ _ e he;split at this
     ·simp at this
     ·simp at this;exact⟨a,W,this⟩
theorem wO(v:cI G T D ρ wL wM){fr':Frame}{cs':List Frame}(d:∀a,aS G D ρ a->fr'=bF a fr)(n:∀a,aS G D ρ a->cs'=cs.map (bF a)++base)(c:iW fr)(g:kJ fr.kind cs)
    {k:List Item}  (m:fr.todo= .inRegion ops (i::rest)::k) (u:ops[i]?=some o) (f:fr.fn=j1) (e:o.dst=some dx)
 (p:((ops[i]?).map (TD · (yielded ops fr.tmps))).getD false=false) (s mM t lM:Bool):
 ∃r q,stepG.exec PL s t fr cs none wL= .go r wL/\stepG.exec PM mM lM fr' cs' none wM= .go q wM/\ep G D ρ base r q:=by
 have b:=d ρ v.self;have l:fr'.todo= .inRegion ops (i::rest)::k.map (cT ρ):=by rw[b];show fr.todo.map (cT ρ)=_;rw[m];rfl
 have h:((ops[i]?).map (TD · (yielded ops fr'.tmps))).getD false=false:=by rw[b];have:yielded ops (bF ρ fr).tmps=yielded ops fr.tmps:=funext λj=>eF ρ fr.fn ops fr.tmps j;rw[this];exact p
 refine⟨_,_,ji m p,ji l h,λa w=> ?_,n,⟨(vH fr _ c (c.noPair (by rw[f,fV]))).1,(vH fr _ c (c.noPair (by rw[f,fV]))).2 (Dt c (by rw[f,fV]))⟩,by show kJ (fr.finish _).kind cs;rw[dr];exact g,rfl,rfl,rfl,rfl⟩;show fr'.finish undef=bF a (fr.finish undef);rw[d a w];exact vY a fr undef m u f e (fK a)
end
section
variable{α β:Type}{f:α->β}
theorem tW{p:Program}{w1:World}{a:Addr}{b:Bool}{j:List Addr}(e:w.farStore p a v b= .ok (w1,j)):w1.drawn=w.drawn:=by
 unfold Vf at e;split at e
 ·rename_i f u n;split at e
  ·rename_i r d;cases e;cases g:w.seen p f u a b with
   |error x=>
    unfold Xw at d;by_cases h:(!tight p p.depth u)=true
    ·rw[if_pos h]at d;cases d
    ·rw[if_neg h,g]at d;cases d
   |ok y=>
    obtain⟨c,m,k,i⟩:=lU g;obtain⟨o,l,_⟩:=iy p (w':={w with heap:=w.heap.setIfInBounds f.block (.cells (c.map (aD λx=>x)) m k)}) (λx=>x) i (by simp[aK i]) d;rw[l]
  ·cases e
 ·cases e
def wdO{γ:Type}:Result γ->World
 | .ok _ w| .halt _ w=>w
theorem G0{e:Type}(a:Ask e):∀w:World,w.drawn<=(w.ask a).2.drawn:=by
 induction a with
 |done a=>intro w;exact TB _
 |ask c b k d=>
  intro w;unfold a78;dsimp only;split
  ·exact d _ w
  ·exact TW (a17 _) (d _ {w with drawn:=w.drawn+1})
theorem Ew(w:World)(c:Sys):w.drawn<=(w.sys c).2.drawn:=by
 have:=G0 (a36 c w.os) w;unfold a79;split
 ·exact TB _
 ·rename_i a;rw[a]at this;exact this
theorem vx(P:Program)(s:Sem α):∀w:World,w.drawn<=(wdO (s.run P w)).drawn:=by
 induction s with
 |pure a=>intro w;exact TB _
 |load m a k b=>
  intro w;rw[Ub];split
  ·exact b _ w
  ·split
   ·exact b _ w
   ·exact TB _
 |store m a v k b=>
  intro w;cases d:pE v with
  |false=>
   obtain⟨e,f⟩:=gE (p:=P) (w:=w) (m:=m) (a:=a) (k:=k) d;rw[f];exact TB _
  |true=>
   rw[fX d];split
   ·split
    ·exact TB _
    ·exact b (w.setCell a v)
   ·split
    ·rename_i g;rw[←tW g];exact b _
    ·exact TB _
 |freeze a n k b=>
  intro w;exact TW (Nat.le_of_eq (by unfold Wz;split<;>rfl)) (b (w.freeze a n))
 |getObj r k b=>
  intro w;rw[Ub];split<;>first|exact TB _|exact b _ w
 |setObj r o k b=>
  intro w;rw[Ub];split<;>first|exact TB _|exact b {w with heap:=w.heap.setIfInBounds r o}
 |choose q k b=>
  intro w;rw[Ub];split
  ·exact b _ w
  ·exact TW (a17 _) (b _ {w with drawn:=w.drawn+1})
 |sys c k b=>intro w;exact TW (Ew w c) (b _ _)
 |halt h=>intro w;exact TB _
 |new o k b=>intro w;exact b w.heap.size {w with heap:=w.heap.push o}
 |shape r k b=>intro w;exact b _ w
 |frozen a k b=>intro w;exact b _ w
 |program k b=>intro w;exact b _ w
 |mark m k b=>intro w;exact b w
end
section
variable{G T:Nat}{base:List Frame}
def nP(f:Operand)(l:Nat):Call:={callee:= .value f,args:=#[.const (.func (.yield l) #[] #[])],argTypes:=#[]}
def cL(fr:Frame)(f:Operand)(l:Nat):Sem Next:=do let d←resolve fr.eval (nP f l) 0;invoke d.target d.args
theorem kj(b:bO PL PM)(c:∀g,iv ρ PL PM g){fr':Frame}{f:Operand}(d:fr'.eval f=aD ρ (fr.eval f))(l:Nat):aF ρ PL PM (fp ρ) (cL fr f l) (cL fr' f (ρ l)):=by
 unfold cL resolve nP;dsimp only;rw[d];have h:(#[Xt (.func (.yield (ρ l)) #[] #[])].map fr'.eval)=(#[Xt (.func (.yield l) #[] #[])].map fr.eval).map (aD ρ):=by simp[Wb,aD,gZ]
 rw[h];unfold UX;cases fr.eval f with
 |func i first a=>
  simp only[aD,pure_bind];rw[←V8];exact rW b c i a _
 |nilFunc=>
  simp only[aD,pure_bind];exact jH (e:= .nilDeref) b rfl
 |_=>simp only[aD];exact .dead trivial
theorem kz(b:∀g,iv ρ PL PM g)(fr:Frame)(f:Operand)(l:Nat):cM PL (cL fr f l):=by
 unfold cL resolve nP;dsimp only;unfold UX;cases fr.eval f with
 |func c first a=>exact oh b c a _
 |nilFunc=>exact cM.rt .nilDeref
 |_=>exact cM.halt _
def bY(fr:Frame)(k:List Item)(l:Nat)(mark:List Deferred):Frame:={fr with todo:= .inRangeFunc l::k,defers:=mark++fr.defers}
theorem fE{d:World}{f:Operand}{e:Array Tmp}{a b:Code}{k:List Item}{c:List Deferred}
 (g:fr.todo= .code (.rangeFunc f e a b)::k) (h:(U3 fr.fn fr.tmps e a b fr.roundOf).runT P w #[]=(.ok (l,c) d,es)):
 stepG.exec P main listen fr cs none w=TI (seen P fr.fn es) (stepG.apply P listen (bY fr k l c) cs none (cL (bY fr k l c) f l) d):=by unfold stepG.exec;simp only[g,h];rfl
theorem uK{f:Operand}{d:Array Tmp}{a b:Code}{k:List Item}
 (i:fr.todo= .code (.rangeFunc f d a b)::k) (h:stepG.exec P main listen fr cs none w= .go g w' es):
 ∃l c w1 es1,(U3 fr.fn fr.tmps d a b fr.roundOf).run P w= .ok (l,c) w1/\stepG.apply P listen (bY fr k l c) cs none (cL (bY fr k l c) f l) w1= .go g w' es1:=by
 have j:=UH P (U3 fr.fn fr.tmps d a b fr.roundOf) w #[];cases e:(U3 fr.fn fr.tmps d a b fr.roundOf).runT P w #[]with
 |mk r m=>
  rw[e]at j;cases r with
  |ok x w1=>
   obtain⟨l,c⟩:=x;rw[fE i e]at h;obtain⟨es1,n⟩:=lI h;exact⟨l,c,w1,es1,j.symm,n⟩
  |halt x w1=>
   unfold stepG.exec at h;simp only[i,e,TI]at h;cases h
theorem Gi(g:bE wL){e:Nat}{tmps:Array Value}{a b:Code}{d:World}(h:(VF l args).run PL wL= .ok (.round e f tmps a b) d):j3 0 a=true/\j3 0 b=true/\dm f=0:=by
 unfold VF VI getObj at h;simp only[bind,Ud,Ub]at h;split at h
 ·cases h
 ·rename_i o i j;have c:=g _ _ ‹_›;cases o with
  |loop r=>
   simp only[pure,Ud]at h;split at h
   ·simp[stuck,Ud]at h
   ·simp only[Ub,Yf.injEq,a68.injEq]at h;obtain⟨⟨_,rfl,_,rfl,rfl⟩,_⟩:=h;simp only[cN,IN]at c;exact⟨c.1.1.1,c.1.1.2,by simpa using c.2⟩
  |_=>simp[stuck,Ud]at h
 ·cases h
def dW(P:Program)(s:Sem Next):Prop:=∀w l f tmps a b w',s.run P w≠ .ok (.round l f tmps a b) w'
theorem dW.after{d:Type}{s:Sem d}{k:d->Sem Next}(h:∀a,dW PL (k a)):dW PL (s>>=k):=λw l f c a b j e=>by
 rw[Uz]at e;cases i:s.run PL w with
 |ok x g=>rw[i]at e;exact h x g l f c a b j e
 |halt x g=>rw[i]at e;cases e
theorem pH(x:Halt):dW PL (.halt x):=λw l f c a b d e=>by cases e
theorem iC(s:Sem Value):dW PL (do pure (.value (←s))):=dW.after λ_ w l f c a b d e=>by cases e
theorem oI(x:RuntimeError):dW PL (runtimePanic x):=λw l f c a b g h=>by obtain⟨y,e,d,_⟩:=ly (PL:=PL) (α:=Next) x w;rw[d]at h;cases h
theorem im(g:FuncId)(r:iv ρ PL PM g)(args:Array Value):dW PL (callFunc g args):=by
 unfold callFunc;intro w l f c a b o h;rw[Uz]at h
 change (match PL.funcs[g]? with|none=>_|some i=>_:Sem Next).run PL w=_ at h
 cases k:PL.funcs[g]? with
 |none=>rw[k]at h;cases h
 |some i=>
  rw[k]at h;obtain⟨q,t⟩:=r i k;have j:(i.name== "runtime.NumGoroutine")=false:=by simpa using q
  simp only[j,TK,↓reduceIte]at h;rcases t with⟨d,_⟩|⟨d,n,m,u⟩|⟨d,n,_,e,m,_⟩
  ·have p:i.body.isNone=false:=(by rw[Vs];exact d);simp only[p,TK,↓reduceIte]at h;cases h
  ·rw[d,n,m,u]at h;cases h
  ·rw[d,n,m]at h;exact dW.after (PL:=PL) (s:=mark (.extern g)) (λ_=>iC (e args)) w l f c a b o h
theorem jv(a:∀g,iv ρ PL PM g)(r:Value)(name:String)(args:Array Value):dW PL (callMethod r name args):=by
 unfold callMethod;cases r with
 |iface t v=>exact dW.after λp=>dW.after λy=>im y.1 (a y.1) _
 |nilIface=>exact oI _
 |_=>exact pH _
theorem xp(o:bE wL)(i:∀g,iv ρ PL PM g)(fn:Fn)(cap args:Array Value){n:Nat}{tmps:Array Value}{a b:Code}{k:World}(h:(invoke (.fn fn cap) args).run PL wL= .ok (.round n f tmps a b) k):
 j3 0 a=true/\j3 0 b=true/\dm f=0:=by
 cases fn with
 |func g=>exact absurd h (im g (i g) _ _ _ _ _ _ _ _)
 |method e=>
  unfold invoke at h;dsimp only at h;cases c:args[0]? with
  |none=>rw[c]at h;cases h
  |some r=>rw[c]at h;exact absurd h (jv i _ _ _ _ _ _ _ _ _ _)
 |methodOf t e=>
  unfold invoke at h;dsimp only at h;cases c:args[0]? with
  |none=>rw[c]at h;cases h
  |some r=>rw[c]at h;exact absurd h (dW.after (λd=>jv i _ _ _) _ _ _ _ _ _ _)
 |via t j g m=>
  unfold invoke at h;dsimp only at h;cases c:args[0]? with
  |none=>rw[c]at h;cases h
  |some r=>rw[c]at h;exact absurd h (dW.after (λd=>im g (i g) _) _ _ _ _ _ _ _)
 |yield l=>exact Gi o h
theorem rj(k:bE wL)(j:∀g,iv ρ PL PM g)(v:Value)(args:Array Value){i:Nat}{tmps:Array Value}{a b:Code}{e:World}(h:(do let d←UX v args;invoke d.target d.args:Sem Next).run PL wL= .ok (.round i f tmps a b) e):
 j3 0 a=true/\j3 0 b=true/\dm f=0:=by
 unfold UX at h;cases v with
 |func l first c=>exact xp k j l c _ h
 |nilFunc=>exact absurd h (oI .nilDeref _ _ _ _ _ _ _)
 |_=>exact absurd h (pH _ _ _ _ _ _ _ _)
theorem yP(i:bE wL)(e:∀g,iv ρ PL PM g){d:Nat}{tmps:Array Value}{a b:Code}{c:World}(h:(cL fr x l).run PL wL= .ok (.round d f tmps a b) c):
 j3 0 a=true/\j3 0 b=true/\dm f=0:=rj i e _ _ h
theorem Bq(B:bE wL)(v:∀g,iv ρ PL PM g)(ev:Operand->Value){z:Nat}(o:Oper)(k:mC z o.op=true){u:Nat}{tmps:Array Value}{a b:Code}{s:World}(h:(execOp ev o).run PL wL= .ok (.round u f tmps a b) s):
 j3 0 a=true/\j3 0 b=true/\dm f=0:=by
 unfold execOp at h;cases i:o.op with
 |move x=>rw[i]at h;cases h
 |assign x=>rw[i]at h;cases h
 |pick x y c=>rw[i]at h;exact absurd h (dW.after (λ_ w l f tmps a b n e=>by cases e) _ _ _ _ _ _ _)
 |store t x y=>rw[i]at h;exact absurd h (dW.after (λ_ w l f tmps a b n e=>by cases e) _ _ _ _ _ _ _)
 |nilCheck x=>
  rw[i]at h;exfalso;dsimp only at h;revert h;split<;>(try split)<;>intro h<;>first
   |exact oI _ _ _ _ _ _ _ _ h
   |(cases h;done)
   |(refine dW.after (λ_=>dW.after λ_=> ?_) _ _ _ _ _ _ _ h
     intro w l f tmps a b n e;revert e;split
     ·intro e;cases e
     ·intro e;cases e)
 |call c=>
  rw[i]at h k
  change (do let d←resolve ev c o.type;invoke d.target d.args:Sem Next).run PL wL=_ at h
  unfold resolve at h;simp only[mC,oG,IN]at k;have m:=k.2;cases j:c.callee with
  |builtin q=>
   rw[j]at m h;have A:L3 q=true:=m;exfalso;cases q<;>first|exact iC _ _ _ _ _ _ _ _ h|(simp[L3]at A;done)
  |invoke r p=>rw[j]at m;cases m
  |value g=>rw[j]at h;exact rj B v _ _ h
 |_=>first
  |(rw[i]at h;exact absurd h (iC _ _ _ _ _ _ _ _))
  |(rw[i]at k;cases k)
def dD(P:Program)(s:Sem Next):Prop:=∀w f args w',s.run P w= .ok (.enter f args) w'->∃fn,P.funcs[f]?=some fn/\fn.body.isSome=true
theorem dD.after{c:Type}{s:Sem c}{k:c->Sem Next}(h:∀a,dD PL (k a)):dD PL (s>>=k):=λw f b i e=>by
 rw[Uz]at e;cases g:s.run PL w with
 |ok x d=>rw[g]at e;exact h x d f b i e
 |halt x d=>rw[g]at e;cases e
theorem iU(x:Halt):dD PL (.halt x):=λw f a b e=>by cases e
theorem iT{n:Next}(h:∀f args,n≠ .enter f args):dD PL (pure n):=λw f args a e=>by cases e;exact absurd rfl (h f args)
theorem ml(s:Sem Value):dD PL (do pure (.value (←s))):=dD.after λ_=>iT λ_ _ e=>by cases e
theorem zS(s:Sem Unit):dD PL (do s;pure .skip):=dD.after λ_=>iT λ_ _ e=>by cases e
theorem qP(x:RuntimeError):dD PL (runtimePanic x):=λw f a d h=>by obtain⟨y,c,b,_⟩:=ly (PL:=PL) (α:=Next) x w;rw[b]at h;cases h
theorem j2(g:FuncId)(n:iv ρ PL PM g)(args:Array Value):dD PL (callFunc g args):=by
 unfold callFunc;intro w f q k h;rw[Uz]at h
 change (match PL.funcs[g]? with|none=>_|some b=>_:Sem Next).run PL w=_ at h
 cases c:PL.funcs[g]? with
 |none=>rw[c]at h;cases h
 |some b=>
  rw[c]at h;obtain⟨m,o⟩:=n b c;have d:(b.name== "runtime.NumGoroutine")=false:=by simpa using m
  simp only[d,TK,↓reduceIte]at h;rcases o with⟨a,_⟩|⟨a,j,i,p⟩|⟨a,j,_,e,i,_⟩
  ·have l:b.body.isNone=false:=(by rw[Vs];exact a);simp only[l,TK,↓reduceIte]at h;cases h;exact⟨b,c,a⟩
  ·rw[a,j,i,p]at h;cases h
  ·rw[a,j,i]at h;exact dD.after (PL:=PL) (s:=mark (.extern g)) (λ_=>ml (e args)) w f q k h
theorem kf(a:∀g,iv ρ PL PM g)(r:Value)(name:String)(args:Array Value):dD PL (callMethod r name args):=by
 unfold callMethod;cases r with
 |iface t v=>exact dD.after λp=>dD.after λy=>j2 y.1 (a y.1) _
 |nilIface=>exact qP _
 |_=>exact iU _
theorem xC(l:Nat)(args:Array Value):dD PL (VF l args):=by
 unfold VF;refine dD.after λr=> ?_;intro w f a_ a e;revert e;split
 ·intro e;cases e
 ·intro e;cases e
theorem uM(b:∀g,iv ρ PL PM g)(fn:Fn)(cap args:Array Value):dD PL (invoke (.fn fn cap) args):=by
 cases fn with
 |func g=>exact j2 g (b g) _
 |method a=>
  unfold invoke;dsimp only;cases args[0]? with
  |none=>exact iU _
  |some r=>exact kf b _ _ _
 |methodOf t a=>
  unfold invoke;dsimp only;cases args[0]? with
  |none=>exact iU _
  |some r=>exact dD.after λd=>kf b _ _ _
 |via t c g e=>
  unfold invoke;dsimp only;cases args[0]? with
  |none=>exact iU _
  |some r=>exact dD.after λd=>j2 g (b g) _
 |yield l=>exact xC l args
theorem nm(b:∀g,iv ρ PL PM g)(v:Value)(args:Array Value):dD PL (do let d←UX v args;invoke d.target d.args):=by
 unfold UX;cases v with
 |func c first a=>exact uM b c a _
 |nilFunc=>exact qP .nilDeref
 |_=>exact iU _
theorem xD(a:∀g,iv ρ PL PM g)(fr:Frame)(x:Operand)(l:Nat):dD PL (cL fr x l):=nm a _ _
theorem zT(n:∀g,iv ρ PL PM g)(ev:Operand->Value){z:Nat}(o:Oper)(b:mC z o.op=true):dD PL (execOp ev o):=by
 unfold execOp;cases a:o.op with
 |move x=>exact iT λ_ _ e=>by cases e
 |assign x=>exact iT λ_ _ e=>by cases e
 |pick x y c=>exact dD.after λ_=>iT λ_ _ e=>by cases e
 |store t x y=>exact zS _
 |nilCheck x=>
  dsimp only;intro w f q m h;revert h;split<;>(try split)<;>intro h<;>first
   |exact qP _ _ _ _ _ h
   |(cases h;done)
   |(refine dD.after (λ_=>dD.after λ_=> ?_) _ _ _ _ h
     intro w f q m e;revert e;split
     ·intro e;cases e
     ·intro e;cases e)
 |call c=>
  rw[a]at b
  change dD PL (do let d←resolve ev c o.type;invoke d.target d.args:Sem Next)
  unfold resolve;simp only[mC,oG,IN]at b;have j:=b.2;cases i:c.callee with
  |builtin l=>
   rw[i]at j;have p:L3 l=true:=j;cases l<;>first|exact ml _|(simp[L3]at p;done)
  |invoke r k=>rw[i]at j;cases j
  |value g=>exact nm n _ _
 |_=>first
  |exact ml _
  |(rw[a]at b;cases b)
theorem rQ{fn:FuncId}{tmps:Array Value}{h:Array Tmp}{a b:Code}{e:Option Nat}{d:List Deferred}{w1:World}(c:(U3 fn tmps h a b e).run PL wL= .ok (l,d) w1):dB d=true:=by
 unfold U3 newObj at c;cases e with
 |none=>
  simp only[bind,Ud,pure,Ub,Yf.injEq,Prod.mk.injEq]at c;rw[←c.1.2];rfl
 |some i=>
  simp only[bind,pure]at c;rw[ZB]at c;cases f:(VI i).run PL wL with
  |halt y g=>rw[f]at c;cases c
  |ok y g=>
   rw[f]at c;simp only[Ub,Ud,Result.andThen,Yf.injEq,Prod.mk.injEq]at c;rw[←c.1.2];rfl
def iX(P:Program)(fr:Frame)(w:World)(f:FuncId)(args:Array Value)(w':World):Prop:=
 fr.mode= .run/\((∃ops n rest k o,fr.todo= .inRegion ops (n::rest)::k/\ops[n]?=some o/\TD o (yielded ops fr.tmps)=true/\mC (dm fr.fn) o.op=true/\(o.dst).any (qb (dm fr.fn))=false/\(execOp fr.eval o).run P w= .ok (.enter f args) w')\/
  ∃x ps a b k l mark w1,fr.todo= .code (.rangeFunc x ps a b)::k/\(U3 fr.fn fr.tmps ps a b fr.roundOf).run P w= .ok (l,mark) w1/\(cL (bY fr k l mark) x l).run P w1= .ok (.enter f args) w')
theorem mm(j:∀g,iv ρ PL PM g)(h:iX PL fr w f args w'):∃fn,PL.funcs[f]?=some fn/\fn.body.isSome=true:=by
 rcases h.2 with⟨m,n,d,k,o,_,_,_,c,_,e⟩|⟨x,q,a,b,k,l,i,p,_,_,e⟩
 ·exact zT j _ _ c _ _ _ _ e
 ·exact xD j _ _ _ _ _ _ _ e
theorem yR(E:Env PL PM G)(hW:cI G T D ρ wL wM)(hP:bE wL)
 {fr':Frame} {cs':List Frame} (H:∀c,aS G D ρ c->fr'=bF c fr) (a0:∀c,aS G D ρ c->cs'=cs.map (bF c)++base) (ok:iW fr) (W:kJ fr.kind cs)
  {B:Array Tmp} {a b:Code} {k:List Item} (S:fr.todo= .code (.rangeFunc x B a b)::k)
 {mL mM lL:Bool} {V:Goroutine} {wL':World} {a2:Array Event} (h:stepG.exec PL mL lL fr cs none wL= .go V wL' a2) (hT:wL'.drawn<=T) (hq:V.status= .running) (hd:V.dying=none) (Z:fr.mode= .run) (hE:∀f args w',iX PL fr wL f args w'->j6 PL PM f):
 ∃D' c U wM' s,stepG.exec PM mM true fr' cs' none wM= .go U wM' s/\ep G D' c base V U/\i8 G T D ρ wL wM D' c wL' wM'/\∀e∈s,iw D' c e:=by
 obtain⟨l,d,A,a6,i,w⟩:=uK S h;have hi:=ok.todo;rw[S]at hi;simp only[jY,IN,kw,j3]at hi;obtain⟨⟨⟨⟨hz,Y⟩,ha⟩,hb⟩,hk⟩:=hi;have p:dm fr.fn=0:=by simpa using hz
 rw[p]at ha hb Y;have O:∀c,aS G D ρ c->aF c PL PM (λy=>(c y.1,y.2.map (iN c))) (U3 fr.fn fr.tmps B a b fr.roundOf) (U3 fr'.fn fr'.tmps B a b fr'.roundOf):=λc hA=>by rw[H c hA];show aF c PL PM _ _ (U3 fr.fn (jO c fr.fn fr.tmps) B a b (fr.roundOf.map c));rw[lZ c p];exact mt fr.fn fr.tmps B a b fr.roundOf ha hb p
 have K:bE A:=dt (O ρ hW.self) wL hP _ _ i;have r:dB d=true:=rQ i;have u:iW (bY fr k l d):=by
  refine⟨⟨?_,ok.mode,ok.kind,ok.round⟩, ?_⟩
  ·show dB (d++fr.defers)=true;simp only[dB,Z5,IN];exact⟨r,ok.defers⟩
  ·show jY (dm fr.fn) (Item.inRangeFunc l::k)=true;simp only[jY,IN,kw];exact⟨hz,hk⟩
 have I:dV (bY fr k l d):=qQ λ_ _ _ _ e=>by cases e
 have L:aF ρ PL PM (fp ρ) (cL (bY fr k l d) x l) (cL (bF ρ (bY fr k l d)) x (ρ l)):=kj E.same (E.fn ρ) (eT (bY fr k l d) x (by show lN (dm fr.fn) x=true;rw[p];exact Y)) l;have a1:A.drawn<=T:=by
  have:=vx PL (cL (bY fr k l d) x l) A;rcases pX u.noCall (kz (E.fn ρ) _ x l) w hq (λx z e=>dC L A K x z e) hd with⟨n,o,_,_⟩|⟨v,o,_⟩
  ·rw[o]at this;exact TW this hT
  ·rw[o]at this;exact TW this hT
 obtain⟨Q,g,r',a5,a3,e1,e2,P,e4⟩:=dO E.load E.store (λc y=>(c y.1,y.2.map (iN c))) _ _ D ρ wL wM hW O #[] _ A i rfl a1;cases e2 with
 | @ok _ y' _ _ X=>
   obtain⟨R,j⟩:=y';have J:=λc (m:aS G Q g c)=>aS.of_ran P m;have F:∀c,aS G Q g c->R=c l/\j=d.map (iN c):=λc m=>by have:=X c m;simpa using this
   have C:∀c,aS G Q g c->fr'.todo= .code (.rangeFunc x B a b)::k.map (cT c):=λc m=>by rw[H c (J c m)];show fr.todo.map (cT c)=_;rw[S];rfl
   have t:∀c,aS G Q g c->bY fr' (k.map (cT g)) R j=bF c (bY fr k l d):=λc m=>by have q:=(C g P.rel.self).symm.trans (C c m);simp only[List.cons.injEq,true_and]at q;rw[q,(F c m).1,(F c m).2,H c (J c m)];simp only[bY,bF,TP,cT,VM]
   have N:∀c,aS G Q g c->aF c PL PM (fp c) (cL (bY fr k l d) x l) (cL (bY fr' (k.map (cT g)) R j) x R):=λc m=>by rw[t c m,(F c m).1];exact kj E.same (E.fn c) (eT (bY fr k l d) x (by show lN (dm fr.fn) x=true;rw[p];exact Y)) l
   obtain⟨D',c,U,wM',s,f1,f2,f3,f4⟩:=ki E.tab E.load E.store P.rel t (λc m=>a0 c (J c m)) u W I N (kz (E.fn g) _ x l) (λx z e=>dC L A K x z e)
    (λf args w2 e=>hE f args w2 ⟨Z, .inr ⟨x,B,a,b,k,l,d,A,S,i,e⟩⟩) (λl2 f a4 a b w2 e=>yP K (E.fn g) e) w hT hq hd
   refine⟨D',c,U,wM',seen PM fr'.fn (#[]++a3)++s, ?_,f2,P.trans f3,λe M=> ?_⟩
   ·rw[fE (C g P.rel.self) e1,f1];rfl
   ·rcases Ur.1 M with M|M
    ·exact(e4 e (by simpa using da _ _ _ e M)).mono f3.ext
    ·exact f4 e M
end
theorem il{z:Nat}(h:dH z ops=true):(z=3\/z=0)/\∃o p:Oper,ops=#[o,p]/\o.guard=none/\p.guard=none/\p.dst=none/\∃d,o.dst=some d/\
 ((∃t s,o.op= .makeInterface t (.const (.s s))/\p.op= .panic (.tmp d))\/(z=3/\∃a b c,o.op= .makeFunc (.func fF) a b/\a.all (lN 3)=true/\b.all (lN 3)=true/\p.op= .defer c/\c.args.isEmpty=true/\c.callee= .value (.tmp d))):=by
 obtain⟨l⟩:=ops;unfold dH at h;split at h
 ·rename_i o p e;simp only at e;subst e;simp only[IN,Wu]at h;obtain⟨⟨⟨⟨C,B⟩,A⟩,y⟩,f⟩:=h;refine⟨by simpa using C,o,p,rfl,B,A,y, ?_⟩;split at f
  ·rename_i d t s u k i j;have:d=u:=(by simpa using f);subst this;exact⟨d,k, .inl ⟨t,s,i,j⟩⟩
  ·rename_i d g a b c k i j;simp only[IN,beq_iff_eq]at f;obtain⟨⟨⟨⟨⟨q,r⟩,x⟩,w⟩,v⟩,n⟩:=f;subst q;split at n
   ·rename_i u m;have:d=u:=(by simpa using n);subst this;rw[r]at i;exact⟨d,k, .inr ⟨rfl,a,b,c,i,x,w,j,v,m⟩⟩
   ·cases n
  ·cases f
 ·cases h
theorem De{z:Nat}(h:dH z ops=true):dH 3 ops=true:=by
 rcases(il h).1 with rfl|rfl
 ·exact h
 ·unfold dH at h⊢;split at h
  ·simp only[IN]at h⊢;refine⟨⟨⟨⟨rfl,h.1.1.1.2⟩,h.1.1.2⟩,h.1.2⟩, ?_⟩;have a:=h.2;split at a
   ·exact a
   ·simp at a
   ·cases a
  ·cases h
theorem Iz{z t:Nat}(h:z=3\/z=0):qb z t=false:=by rcases h with rfl|rfl<;>rfl
section
variable{G T:Nat}{base:List Frame}
theorem zJ(Z:cI G T D ρ wL wM)(hP:bO PL PM){fr':Frame}{cs':List Frame}(m:∀f,aS G D ρ f->fr'=bF f fr)(Y:∀f,aS G D ρ f->cs'=cs.map (bF f)++base)(I:iW fr)(S:kJ fr.kind cs)
  {k:List Item} (H:fr.todo= .inRegion ops [0,1]::k) (hp:dH (dm fr.fn) ops=true) {mL mM J:Bool} {gL:Goroutine} {wL':World} {a0:Array Event} (h:stepG.exec PL mL J fr cs none wL= .go gL wL' a0):
 ∃gM,wL'=wL/\stepG.exec PM mM true fr' cs' none wM= .go gM wM/\ep G D ρ base gL gM:=by
 obtain⟨Q,o,p,rfl,g1,g2,g3,d,hd,l⟩:=il hp;have M:=m ρ Z.self;have V:fr'.todo= .inRegion #[o,p] [0,1]::k.map (cT ρ):=by rw[M];show fr.todo.map (cT ρ)=_;rw[H];rfl
 have W:(#[o,p]:Array Oper)[0]?=some o:=rfl;have U:∀tm,TD o (yielded #[o,p] tm)=true:=λtm=>by simp[TD,g1]
 have A:∀c,o.op≠ .defer c:=λc e=>by rcases l with⟨_,_,h,_⟩|⟨_,_,_,_,h,_⟩<;>rw[h]at e<;>cases e
 have X:=I.todo;rw[H]at X;simp only[jY,IN]at X;obtain⟨v,hv,j,L⟩:∃v:Value,(execOp fr.eval o).runT PL wL #[]=(.ok (.value v) wL,#[])/\(∀f,aS G D ρ f->(execOp fr'.eval o).runT PM wM #[]=(.ok (.value (aD f v)) wM,#[]))/\
  ((p.op= .panic (.tmp d)/\∃t s,v= .iface t (.string s))\/∃c,p.op= .defer c/\c.args.isEmpty=true/\c.callee= .value (.tmp d)/\∃a b,v= .func (.func fF) a b):=by
  rcases l with⟨t,s,C,B⟩|⟨Q,a,b,c,C,ha,hb,B,e3,e4⟩
  ·have E:∀(P:Program) (w:World) (ev:Operand->Value) (g:TypeDesc),ev (.const (.string s))= .string s->P.underlying t=some g->(∀n,g≠ .interface n)->(execOp ev o).runT P w #[]=(.ok (.value (.iface t (.string s))) w,#[]):=λP w ev g he F R=>by cases g<;>first|exact absurd rfl (R _)|simp[-U8,execOp,C,he,Vm,underlying,program,F,bind,Ud,Um,pure]
   rw[cS H W (U _) A]at h;unfold stepG.apply at h;have N:execOp fr.eval o=(do pure (.value (←Vm t (.string s))):Sem Next):=(by unfold execOp;rw[C];rfl);cases F:PL.underlying t with
   |none=>
    have y:(execOp fr.eval o).run PL wL= .halt (.stuck "no such type") wL:=(by rw[N];simp[Vm,underlying,program,F,bind,Ud,stuck,Ub]);have i:((execOp fr.eval o).runT PL wL #[]).1= .halt (.stuck "no such type") wL:=(by rw[UH];exact y);generalize (execOp fr.eval o).runT PL wL #[]=q at h i;obtain⟨q1,q2⟩:=q;simp only at i;subst i;cases J<;>simp[y,TI]at h
   |some g=>
    by_cases R:∃n,g= .interface n
    ·obtain⟨n,rfl⟩:=R;have y:(execOp fr.eval o).run PL wL= .halt (.stuck "MakeInterface: a concrete type expected") wL:=(by rw[N];simp[Vm,underlying,program,F,bind,Ud,stuck,Ub,pure]);have i:((execOp fr.eval o).runT PL wL #[]).1= .halt (.stuck "MakeInterface: a concrete type expected") wL:=(by rw[UH];exact y);generalize (execOp fr.eval o).runT PL wL #[]=q at h i;obtain⟨q1,q2⟩:=q;simp only at i;subst i;cases J<;>simp[y,TI]at h
    ·have K:∀n,g≠ .interface n:=λn e=>R ⟨n,e⟩;exact⟨.iface t (.string s),E PL wL _ g rfl F K,λf _=>by rw[E PM wM fr'.eval g rfl (by rw[←hP.under];exact F) K];simp[aD], .inl ⟨B,_,_,rfl⟩⟩
  ·refine⟨.func (.func fF) (a.map fr.eval) (b.map fr.eval), ?_,λf O=> ?_, .inr ⟨c,B,e3,e4,_,_,rfl⟩⟩
   ·simp[-U8,execOp,C,XH,bind,Ud,Um,pure]
   ·have h1:a.map fr'.eval=(a.map fr.eval).map (aD f):=evs (z:=3) (λx E=>by rw[m f O];exact eT fr x (by rw[Q];exact E)) ha;have h2:b.map fr'.eval=(b.map fr.eval).map (aD f):=evs (z:=3) (λx E=>by rw[m f O];exact eT fr x (by rw[Q];exact E)) hb;simp only[execOp,C,h1,h2];simp[-U8,XH,bind,Ud,Um,pure,aD,gZ]
 have hL:stepG.exec PL mL J fr cs none wL= .go {frame:=fr.finish v,callers:=cs,status:= .running,dying:=none} wL:=by
  rw[cS H W (U _) A];unfold stepG.apply;have y:(execOp fr.eval o).run PL wL= .ok (.value v) wL:=by rw[←UH PL _ wL #[],hv]
  cases J<;>simp only[hv,y,↓reduceIte,TK]<;>simp[TI,seen]
 rw[hL]at h;simp only[VP.injEq]at h;obtain⟨rfl,rfl,_⟩:=h;have hM:stepG.exec PM mM true fr' cs' none wM= .go {frame:=fr'.finish (aD ρ v),callers:=cs',status:= .running,dying:=none} wM:=by rw[cS V W (U _) A];unfold stepG.apply;simp only[j ρ Z.self,↓reduceIte];simp[TI,seen]
 have r:∀u,fr.finish u={fr with tmps:=fr.tmps.setIfInBounds d u,todo:= .inRegion #[o,p] [1]::k}:=λu=>by unfold VL;rw[H];simp[hd]
 refine⟨_,rfl,hM,⟨λf O=> ?_,Y, ?_,by show kJ (fr.finish v).kind cs;rw[dr];exact S,rfl,rfl,rfl,rfl⟩⟩
 ·have C:aD ρ v=aD f v:=by have:=(j ρ Z.self).symm.trans (j f O);simpa using this
  show fr'.finish (aD ρ v)=bF f (fr.finish v);rw[C,m f O,r];unfold VL;simp only[bF,H,TP,cT];have:qb (dm fr.fn) d=false:=Iz Q;simp[hd,yL f fr.fn fr.tmps d v this]
 ·show iW (fr.finish v)/\mE (fr.finish v);rw[r];refine⟨⟨⟨I.defers,I.mode,I.kind,I.round⟩, ?_⟩,λ_ a1 k' e hq=> ?_⟩
  ·simp only[jY,IN];exact⟨by simp[kw,hp],X.2⟩
  ·simp only[List.cons.injEq,Xr.injEq]at e;obtain⟨⟨rfl,_⟩,_⟩:=e;refine⟨p,d,rfl,g2,g3, ?_⟩;have hs:(fr.tmps.setIfInBounds d v)[d]?=none\/(fr.tmps.setIfInBounds d v)[d]?=some v:=by
    rw[UE];simp only[↓reduceIte];split
    ·exact .inr rfl
    ·exact .inl rfl
   rcases L with⟨B,t,s,rfl⟩|⟨c,B,e3,e4,a,b,rfl⟩
   ·exact .inl ⟨B,hs.imp id λh=>⟨t,s,h⟩⟩
   ·exact .inr ⟨c,B,e3,e4,hs.imp id λh=>⟨_,_,h⟩⟩
theorem mQ{k:List Item}{z:Nat}(j:z=3->fr.roundOf=none)(m:dH z ops=true)(f:fr.todo= .inRegion ops [1]::k)(c:ops[1]?=some o)(l:TD o (yielded ops fr.tmps)=true):
 stepG.exec P main listen fr cs none w=stepG.apply P listen fr cs none (execOp fr.eval o) w:=by
 obtain⟨p,n,i,rfl,_,_,_,d,_,a⟩:=il m;have b:i=o:=by simpa using c
 subst b;unfold stepG.exec;simp only[f,c,TE,U0,l,↓reduceIte];unfold stepG.oper;simp only[Xh,f,c];split
 ·rename_i h g;rcases a with⟨_,_,_,e⟩|⟨e,_⟩
  ·rw[e]at g;cases g
  ·rw[j e]at h;cases h
 ·rfl
theorem EI{P:Program}{main listen:Bool}{fr:Frame}{cs:List Frame}{w:World}{ops:Array Oper}{k:List Item}(h:∃(o:Oper) (d:Tmp),ops[1]?=some o/\o.guard=none/\o.dst=none/\
 ((o.op= .panic (.tmp d)/\(fr.tmps[d]?=none\/∃t s,fr.tmps[d]?=some (.iface t (.string s))))\/(∃c,o.op= .defer c/\c.args.isEmpty=true/\c.callee= .value (.tmp d)/\(fr.tmps[d]?=none\/∃a b,fr.tmps[d]?=some (.func (.func fF) a b))))) (r:dm fr.fn=3->fr.roundOf=none) (z:dH (dm fr.fn) ops=true) (y:fr.todo= .inRegion ops [1]::k):
 (∃x w' es,stepG.exec P main listen fr cs none w= .ended x w' es)\/∃g,stepG.exec P main listen fr cs none w= .go g w/\g.status= .running/\g.dying=none:=by
 obtain⟨o,d,A,B,p,m⟩:=h;have u:TD o (yielded ops fr.tmps)=true:=by simp[TD,B]
 have l:stepG.exec P main listen fr cs none w=stepG.apply P listen fr cs none (execOp fr.eval o) w:=mQ r z y A u;rw[l];unfold stepG.apply;have j:fr.tmps[d]?=none->fr.eval (.tmp d)=undef:=λe=>by simp[Wb,e]
 have i:∀v,fr.tmps[d]?=some v->fr.eval (.tmp d)=v:=λv e=>by simp[Wb,e]
 rcases m with⟨n,e|⟨t,s,e⟩⟩|⟨c,n,C,q,e|⟨a,b,e⟩⟩
 ·have f:execOp fr.eval o= .halt (.stuck "Panic: interface value expected"):=by unfold execOp;rw[n];simp only[j e];rfl
  rw[f];left;cases listen<;>simp[-U8,Um,Ub,TI]
 ·have f:execOp fr.eval o= .halt (.panic (.iface t (.string s))):=by unfold execOp;rw[n];simp only[i _ e];rfl
  rw[f];right;refine⟨ij fr cs (.iface t (.string s)), ?_,rfl,rfl⟩;cases listen<;>simp[-U8,Um,Ub,TI,ij,seen]
 ·have f:execOp fr.eval o= .halt (.stuck "call: function value expected"):=by unfold execOp resolve;rw[n];simp only[q,j e];rfl
  rw[f];left;cases listen<;>simp[-U8,Um,Ub,TI]
 ·have f:execOp fr.eval o= .pure (.defer ⟨.fn (.func fF) b,a++c.args.map fr.eval⟩):=by unfold execOp resolve;rw[n];simp only[q,i _ e,UX];rfl
  rw[f];right;refine⟨_,by cases listen<;>simp[-U8,Um,Ub,TI,seen]<;>rfl,rfl,rfl⟩
theorem m7{f:Frame}{xs:List Frame}{k:List Item}{z:Nat}(j:f.todo= .inRegion ops (n::rest)::k)(l:ops[n]?=some o)(i:TD o (yielded ops f.tmps)=true)(a:AI z o=true)(e:f.roundOf=none):
 stepG.exec P main listen f xs none w=match tryRecover f xs with
  |some (v,ys)=> .go {frame:=f.finish v,callers:=ys,status:= .running,dying:=none} w
  |none=> .go {frame:=f.finish .nilIface,callers:=xs,status:= .running,dying:=none} w:=by
 obtain⟨c,b,g⟩:∃c,o.op= .call c/\c.callee= .builtin .recover:=by
  unfold AI at a;split at a
  ·rename_i c e;simp only[IN]at a;have h:=a.2;split at h
   ·rename_i m;exact⟨c,e,m⟩
   ·cases h
  ·cases a
 have d:execOp f.eval o= .pure .recover:=by unfold execOp resolve;rw[b];simp only[g];rfl
 rw[cS j l i (λc e=>by rw[b]at e;cases e),d];unfold stepG.apply;cases listen<;>simp only[Um,Ub,e,↓reduceIte,TK]<;>cases tryRecover f xs<;>simp[TI,seen]
theorem kg{a:FuncId}{m:Bool}{f:Frame}{xs:List Frame}{g:Func}{b a_:Array Value}{es:List Deferred}(k:f.defers=⟨.fn (.func a) b,a_⟩::es)(j:P.funcs[a]?=some g)(i:g.body.isSome=true)(h:g.name≠ "runtime.NumGoroutine"):
 unwind P m f xs none w= .go {frame:=TJ P a (a_++b) .deferred,callers:={f with defers:=es}::xs,status:= .running,dying:=none} w:=by
 have e:(invoke (.fn (.func a) b) a_).runT P w #[]=(.ok (.enter a (a_++b)) w,#[]):=by
  have c:(g.name== "runtime.NumGoroutine")=false:=by simpa using h
  have d:g.body.isNone=false:=by rw[Vs];exact i
  show(callFunc a (a_++b)).runT P w #[]=_;unfold callFunc
  change (match P.funcs[a]? with|none=>_|some l=>_:Sem Next).runT P w #[]=_
  rw[j];simp only[c,d,TK,↓reduceIte];rfl
 unfold unwind;simp only[k];unfold callDeferred;simp only[e];simp[TI,seen]
theorem wS(Q:cI G T D ρ wL wM){fr':Frame}{cs':List Frame}(n:∀g,aS G D ρ g->fr'=bF g fr)(O:∀g,aS G D ρ g->cs'=cs.map (bF g)++base)(w:iW fr)(S:mE fr)(hm:fr.mode= .run)(H:kJ fr.kind cs)
  {k:List Item} (z:fr.todo= .inRegion ops [1]::k) (M:dH (dm fr.fn) ops=true) {mL mM I:Bool} {R:Goroutine} {wL':World} {Z:Array Event} (h:stepG.exec PL mL I fr cs none wL= .go R wL' Z):
 ∃gM,wL'=wL/\stepG.exec PM mM true fr' cs' none wM= .go gM wM/\ep G D ρ base R gM:=by
 obtain⟨o,d,V,hg,N,A⟩:=S hm ops k z (De M);have hz:=(il M).1;have W:=w.todo;rw[z]at W;simp only[jY,IN]at W;have L:dm fr.fn=3->fr.roundOf=none:=λe=>w.round (by rw[e];decide);have m:=n ρ Q.self;have J:fr'.todo= .inRegion ops [1]::k.map (cT ρ):=by rw[m];show fr.todo.map (cT ρ)=_;rw[z];rfl
 have K:dm fr.fn=3->fr'.roundOf=none:=λe=>by rw[m];show fr.roundOf.map ρ=none;rw[L e];rfl
 have u:∀g,aS G D ρ g->fr'.eval (.tmp d)=aD g (fr.eval (.tmp d)):=λg C=>by rw[n g C];exact eT fr _ (by simp only[lN,Iz hz];rfl)
 have hw:∀tm,TD o (yielded ops tm)=true:=λtm=>by simp[TD,hg]
 rw[mQ L M z V (hw _)]at h;rw[mQ K M J V (hw _)];have l:fr.tmps[d]?=none->fr.eval (.tmp d)=undef:=λe=>by simp[Wb,e]
 have j:∀v,fr.tmps[d]?=some v->fr.eval (.tmp d)=v:=λv e=>by simp[Wb,e]
 unfold stepG.apply at h⊢;rcases A with⟨P,e|⟨t,s,e⟩⟩|⟨c,P,e2,e3,e|⟨a,b,e⟩⟩
 ·have i:execOp fr.eval o= .halt (.stuck "Panic: interface value expected"):=by unfold execOp;rw[P];simp only[l e];rfl
  rw[i]at h;cases I<;>simp[Ub,TI]at h
 ·have F:=j _ e;have E:fr'.eval (.tmp d)= .iface t (.string s):=by rw[u ρ Q.self,F];simp[aD]
  have i:∀r:Operand->Value,r (.tmp d)= .iface t (.string s)->execOp r o= .halt (.panic (.iface t (.string s))):=λr X=>by unfold execOp;rw[P];simp only[X];rfl
  rw[i _ F]at h;rw[i _ E];have Y:R=ij fr cs (.iface t (.string s))/\wL'=wL:=by cases I<;>simp[-U8,Um,Ub,TI]at h<;>exact⟨h.1.symm,h.2.1.symm⟩
  obtain⟨rfl,rfl⟩:=Y;refine⟨ij fr' cs' (.iface t (.string s)),rfl, ?_,⟨λg C=> ?_,O,⟨w.raise rfl,jw _ _⟩,by rw[ij,jt];exact H,rfl,rfl,rfl,rfl⟩⟩
  ·simp[-U8,Um,TI,ij,seen]
  ·show fr'.raise _=bF g (fr.raise _);rw[n g C,kZ]
 ·have i:execOp fr.eval o= .halt (.stuck "call: function value expected"):=by unfold execOp resolve;rw[P];simp only[e3,l e];rfl
  rw[i]at h;cases I<;>simp[Ub,TI]at h
 ·have F:=j _ e;have B:∀r:Operand->Value,c.args.map r=#[]:=λr=>by have:c.args=#[]:=(by simpa using e2);rw[this];simp
  have i:∀(r:Operand->Value) (x y:Array Value),r (.tmp d)= .func (.func fF) x y->execOp r o= .pure (.defer ⟨.fn (.func fF) y,x⟩):=λr x y X=>by unfold execOp resolve;rw[P];simp only[e3,X,B,UX,Uw];rfl
  have E:fr'.eval (.tmp d)= .func (.func fF) (a.map (aD ρ)) (b.map (aD ρ)):=by rw[u ρ Q.self,F];simp[aD,gZ]
  rw[i _ _ _ F]at h;rw[i _ _ _ E];have Y:R={frame:={fr with defers:=⟨.fn (.func fF) b,a⟩::fr.defers}.finish undef,callers:=cs,status:= .running,dying:=none}/\wL'=wL:=by cases I<;>simp[-U8,Um,Ub,TI]at h<;>exact⟨h.1.symm,h.2.1.symm⟩
  obtain⟨rfl,rfl⟩:=Y;have p:∀(f:Frame) (ds:List Deferred) (U:List Item),f.todo= .inRegion ops [1]::U->({f with defers:=ds}:Frame).finish undef={f with defers:=ds,todo:= .inRegion ops []::U}:=λf ds U e=>by unfold VL;simp only[e,V,Ug,N]
  refine⟨{frame:={fr' with defers:=⟨.fn (.func fF) (b.map (aD ρ)),a.map (aD ρ)⟩::fr'.defers}.finish undef,callers:=cs',status:= .running,dying:=none},rfl, ?_,⟨λg C=> ?_,O, ?_,by show kJ (VL _ _).kind cs;rw[dr];exact H,rfl,rfl,rfl,rfl⟩⟩
  ·simp[-U8,Um,TI,seen]
  ·have q:=(u ρ Q.self).symm.trans (u g C);rw[F]at q;simp only[aD,gZ,Value.func.injEq,true_and]at q;have qt:k.map (cT ρ)=k.map (cT g):=by have:=congrArg a69 (m.symm.trans (n g C));simp only[bF,z,TP,List.cons.injEq]at this;exact this.2
   show({fr' with defers:=_}:Frame).finish undef=bF g (({fr with defers:=_}:Frame).finish undef);rw[p fr _ k z,p fr' _ _ J,q.1,q.2,qt,n g C];simp only[bF,TP,cT,iN,KV,gZ]
  ·show iW (({fr with defers:=_}:Frame).finish undef)/\mE (({fr with defers:=_}:Frame).finish undef);rw[p fr _ k z];refine⟨⟨⟨?_,w.mode,w.kind,w.round⟩, ?_⟩,gu λ_ _ e=>by cases e⟩
   ·show dB (_::fr.defers)=true;simp only[dB,VJ,IN];exact⟨s_,w.defers⟩
   ·simp only[jY,IN];exact⟨by simp[kw,M],W.2⟩
def AC(base:List Frame):Prop:=∀c r,base=c::r->∀ch,c.mode≠ .panicking ch
theorem uD(R:cI G T D ρ wL wM)(hb:AC base){fr':Frame}{cs':List Frame}(w:∀a,aS G D ρ a->fr'=bF a fr)(p:∀a,aS G D ρ a->cs'=cs.map (bF a)++base)(A:iW fr)(i:kJ fr.kind cs)(g:dV fr)
    {k:List Item}  (hz:dm fr.fn=3) (X:fr.todo= .inRegion ops (n::rest)::k) (Y:ops[n]?=some o) (V:TD o (yielded ops fr.tmps)=true) (W:AI 3 o=true)
 {mL mM lL:Bool} {S:Goroutine} {wL':World} {U:Array Event} (h:stepG.exec PL mL lL fr cs none wL= .go S wL' U):
 ∃K,wL'=wL/\stepG.exec PM mM true fr' cs' none wM= .go K wM/\ep G D ρ base S K:=by
 have l:=w ρ R.self;have t:=p ρ R.self;have Q:fr'.todo= .inRegion ops (n::rest)::k.map (cT ρ):=by rw[l];show fr.todo.map (cT ρ)=_;rw[X];rfl
 have P:TD o (yielded ops fr'.tmps)=true:=by rw[l];have:yielded ops (bF ρ fr).tmps=yielded ops fr.tmps:=funext λj=>eF ρ fr.fn ops fr.tmps j;rw[this];exact V
 have E:fr.roundOf=none:=A.round (by rw[hz];decide);have C:fr'.roundOf=none:=by rw[l];show fr.roundOf.map ρ=none;rw[E];rfl
 rw[m7 X Y V W E]at h;rw[m7 Q Y P W C];have d:fr'.kind=fr.kind:=by rw[l];rfl
 have H:∀a,aD a Value.nilIface= .nilIface:=λa=>by simp[aD]
 have u:tryRecover fr cs=none->tryRecover fr' cs'=none->∃K,wL'=wL/\(match tryRecover fr' cs' with
  |some (v,L)=>VP {frame:=fr'.finish v,callers:=L,status:= .running,dying:=none} wM
  |none=> .go {frame:=fr'.finish .nilIface,callers:=cs',status:= .running,dying:=none} wM)= .go K wM/\ep G D ρ base S K:=λN M=>by rw[N]at h;simp only[VP.injEq]at h;obtain⟨rfl,rfl,_⟩:=h;rw[M];refine⟨_,rfl,rfl,⟨λa J=> ?_,p,mX A g _,by show kJ (fr.finish _).kind cs;rw[dr];exact i,rfl,rfl,rfl,rfl⟩⟩;show fr'.finish _=bF a (fr.finish _);rw[w a J,←fD fr _ A g,H]
 rcases A.kind with c|c
 ·exact u (by simp[tryRecover,c]) (by simp[tryRecover,d,c])
 ·cases cs with
  |nil=>
   refine u (by simp[tryRecover,c]) ?_;rw[t];unfold tryRecover;rw[d,c];simp only[Xo,Z6];cases z:base with
   |nil=>rfl
   |cons x r=>
    simp only;split
    ·rename_i e;exact absurd e (hb x r z _)
    ·rfl
  |cons x r=>
   have I:cs'=bF ρ x::(r.map (bF ρ)++base):=t;have B:(bF ρ x).mode=x.mode:=rfl;by_cases s:∃v b,x.mode= .panicking ({v,recovered:=false,goexit:=false}::b)
   ·obtain⟨v,b,O⟩:=s;have N:tryRecover fr (x::r)=some (v,{x with mode:= .panicking ({v,recovered:=true}::b)}::r):=(by simp only[tryRecover,c,O]);have M:tryRecover fr' cs'=some (v,{bF ρ x with mode:= .panicking ({v,recovered:=true}::b)}::(r.map (bF ρ)++base)):=(by rw[I];simp only[tryRecover,d,c,B,O]);rw[N]at h;simp only[VP.injEq]at h;obtain⟨rfl,rfl,_⟩:=h;rw[M];have m:=i.1.mode;rw[O]at m;simp only[Od,VJ,IN]at m;have F:bQ v=true:=m.2.1.1;refine⟨_,rfl,rfl,⟨λa J=> ?_,λa J=> ?_,mX A g _, ?_,rfl,rfl,rfl,rfl⟩⟩
    ·show fr'.finish _=bF a (fr.finish _);rw[w a J,←fD fr _ A g,dS a v F]
    ·have q:=(p ρ R.self).symm.trans (p a J);simp only[TP,UD,List.cons.injEq]at q;show _::(r.map (bF ρ)++base)=bF a _::(r.map (bF a)++base);rw[q.2];refine congrArg (· ::(r.map (bF a)++base)) ?_;have e:({bF ρ x with mode:= .panicking ({v,recovered:=true}::b)}:Frame)={bF a x with mode:= .panicking ({v,recovered:=true}::b)}:=(by rw[q.1]);exact e
    ·show kJ (fr.finish _).kind (({x with mode:=_}:Frame)::r);rw[dr];refine⟨⟨⟨i.1.defers, ?_,i.1.kind,i.1.round⟩,i.1.todo⟩, .inr ⟨c,s_⟩,i.2.2⟩;simp only[Od,VJ,IN];exact⟨rfl,⟨F,rfl⟩,m.2.2⟩
   ·have Z:∀(f:Frame) (y:Frame) (L:List Frame),f.kind= .deferred->y.mode=x.mode->tryRecover f (y::L)=none:=λf y L e1 e2=>by
     unfold tryRecover;rw[e1];simp only[e2];split
     ·rename_i v b e;exact absurd ⟨v,b,e⟩ s
     ·rfl
    exact u (Z _ _ _ c rfl) (by rw[I];exact Z _ _ _ (d.trans c) B)
theorem zL(p:cI G T D ρ wL wM){fr' c:Frame}{cs':List Frame}(y:∀d,aS G D ρ d->fr'=bF d fr)(j:∀d,aS G D ρ d->cs'=(c::cs).map (bF d)++base)(s:iW fr)(n:kJ fr.kind (c::cs))
 (F:fr.defers=[]) {l:List PanicEntry} (v:fr.mode= .panicking l) (C mM:Bool):
 ∃I H,unwind PL C fr (c::cs) none wL= .go I wL/\unwind PM mM fr' cs' none wM= .go H wM/\ep G D ρ base I H:=by
 have g:=y ρ p.self;have o:=j ρ p.self;simp only[TP,UD]at o;have E:∀(P:Program) (m:Bool) (f x:Frame) (r:List Frame) (w:World),f.defers=[]->f.mode= .panicking l->ea f->unwind P m f (x::r) none w= .go {frame:=x.raise l,callers:=r,status:= .running,dying:=none} w:=λP m f x r w M L K=>by
  unfold unwind;have J:f.catches P=false:=by
   unfold Frame.catches;split
   ·rename_i e;exact absurd e (K _ _ _ _ _)
   ·rfl
  simp only[M,L,J,TK,↓reduceIte]
 have z:Bv l=true:=by have:=s.mode;rw[v]at this;exact this
 have A:ea fr':=λa b c e k h=>by
  rw[g]at h;have:=s.noCall;cases u:fr.todo with
  |nil=>simp[bF,u]at h
  |cons i t=>
   simp only[bF,u,TP,List.cons.injEq]at h;cases i<;>simp[cT]at h;exact this _ _ _ _ _ u
 refine⟨_,_,E PL C fr c cs wL F v s.noCall,by rw[o];exact E PM mM fr' _ _ wM (by rw[g];simp[bF,F]) (by rw[g];exact v) A,⟨λd B=> ?_,λd B=> ?_,⟨n.1.raise z,jw _ _⟩,by show kJ (c.raise l).kind cs;rw[jt];exact n.2.2,rfl,rfl,rfl,rfl⟩⟩
 ·have q:=(j ρ p.self).symm.trans (j d B);simp only[TP,UD,List.cons.injEq]at q;show(bF ρ c).raise l=bF d (c.raise l);rw[q.1,kZ]
 ·have q:=(j ρ p.self).symm.trans (j d B);simp only[TP,UD,List.cons.injEq]at q;exact q.2
theorem u7(E:Env PL PM G)(J:j6 PL PM fF)(o:cI G T D ρ wL wM){fr':Frame}{cs':List Frame}(g:∀a,aS G D ρ a->fr'=bF a fr)(t:∀a,aS G D ρ a->cs'=cs.map (bF a)++base)(k:iW fr)(q:kJ fr.kind cs)(H:fr.mode≠ .run)
 {cap:Array Value}  (s:fr.defers=⟨.fn (.func fF) cap,args⟩::ds) (C mM:Bool):
 ∃z y,unwind PL C fr cs none wL= .go z wL/\unwind PM mM fr' cs' none wM= .go y wM/\ep G D ρ base z y:=by
 obtain⟨A,m,n,p,B,w,c,j,u⟩:=J;obtain⟨F,i⟩:=E.fn ρ fF A n;have r:m.name≠ "runtime.NumGoroutine" :=by
  rcases i with⟨_,L,f,_,K⟩|⟨f,_⟩|⟨f,_⟩
  ·rw[p]at f;cases f;exact K
  ·rw[j]at f;cases f
  ·rw[j]at f;cases f
 have x:=g ρ o.self;have h:∀a,aS G D ρ a->fr'.defers=⟨.fn (.func fF) (cap.map (aD a)),args.map (aD a)⟩::ds.map (iN a):=λa d=>by rw[g a d];show fr.defers.map (iN a)=_;rw[s];rfl
 have b:∀a,aS G D ρ a->cap.map (aD ρ)=cap.map (aD a)/\args.map (aD ρ)=args.map (aD a)/\ds.map (iN ρ)=ds.map (iN a):=λa d=>by have:=(h ρ o.self).symm.trans (h a d);simpa[and_assoc]using this
 have I:∀v∈args++cap,jz v=false:=λv l=>by
  refine o.noTab E.tab λa d=> ?_;rcases Ur.1 l with l|l
  ·exact(mf (b a d).2.1 l).symm
  ·exact(mf (b a d).1 l).symm
 refine⟨_,_,kg s n (by rw[j];rfl) F,kg (h ρ o.self) p (by rw[←w,j];rfl) r,⟨λa d=> ?_,λa d=> ?_, ?_, ?_,rfl,rfl,rfl,rfl⟩⟩
 ·show TJ PM fF _ .deferred=bF a (TJ PL fF _ .deferred);rw[(b a d).1,(b a d).2.1,←V8];exact nW ⟨A,m,n,p,B,w⟩ _ I (Dm u) .deferred
 ·show{fr' with defers:=_}::cs'=_;rw[(b a d).2.2,g a d,t a d];rfl
 ·refine⟨⟨⟨rfl,rfl, .inr rfl,λ_=>rfl⟩, ?_⟩,gu λ_ _ e=>by cases e⟩;simp only[TJ,n,Ug,j,U0,jY,YR,YF];exact Dn u
 ·refine⟨⟨⟨?_,k.mode,k.kind,k.round⟩,k.todo⟩, .inr ⟨rfl,H⟩,q⟩;have:=k.defers;rw[s]at this;simp only[dB,VJ,IN]at this;exact this.2
end
structure kK (PL PM:Program) (G:Nat):Prop extends Env PL PM G where
 ty:E7 PL
 mix:PL.follows .mixedOrders=PM.follows .mixedOrders
 ex:j1<PL.funcs.size
 lw:xA<PL.funcs.size
 res:∀(f:FuncId) (fn:Func),PL.funcs[f]?=some fn->∃fn':Func,PM.funcs[f]?=some fn'/\fn'.results=fn.results/\fn.results.all (Jz (dm f))=true
 none:∀f:Nat,PL.funcs[f]?=none->PM.funcs[f]?=none
 inits:PL.inits=#[]
 d1:j6 PL PM fF
 z3:Lv<PL.funcs.size/\Lw<PL.funcs.size/\fF<PL.funcs.size
def gB(g:Goroutine):Prop:=g.status= .running/\g.dying=none
section
variable{G T:Nat}{base:List Frame}
theorem i8.quiet{D':Nat->Prop}{b:Nat->Nat}{wL' wM':World}(h:i8 G T D ρ wL wM D' b wL' wM')(g:bE wL):bE wL':=by
 intro r o a;by_cases e:D' r
 ·obtain⟨j,f,i,_⟩:=h.rel.obj r e;rw[a]at f;cases f;exact i
 ·have c:r<wL.heap.size:=V5 λk=>e (h.newL r o_ (aK a));rw[h.keepL r c λd=>e (h.ext r d).1]at a;exact g r o a
theorem uy(E:kK PL PM G)(k:cI G T D ρ wL wM){fr' c:Frame}{cs':List Frame}(i:∀a,aS G D ρ a->fr'=bF a fr)(g:∀a,aS G D ρ a->cs'=(c::cs).map (bF a)++base)(u:iW fr)(h:kJ fr.kind (c::cs))
 (B:fr.defers=[]) (A:fr.mode= .returning) (p:PL.funcs[fr.fn]?=none) (y mM:Bool):
 ∃F C,unwind PL y fr (c::cs) none wL= .go F wL/\unwind PM mM fr' cs' none wM= .go C wM/\ep G D ρ base F C:=by
 have o:dm fr.fn=0:=by
  have b:=Array.getElem?_eq_none_iff.1 p;unfold dm;have t:¬fr.fn=j1:=λe=>absurd E.ex (Xe.2 (by rw[e]at b;exact b));have s:¬fr.fn=xA:=λe=>absurd E.lw (Xe.2 (by rw[e]at b;exact b));have r:¬(fr.fn=Lv\/fr.fn=Lw\/fr.fn=fF):=λe=>by
   rcases e with e|e|e<;>rw[e]at b
   ·exact absurd E.z3.1 (Xe.2 b)
   ·exact absurd E.z3.2.1 (Xe.2 b)
   ·exact absurd E.z3.2.2 (Xe.2 b)
  rw[if_neg t,if_neg s,if_neg r]
 have d:=i ρ k.self;have j:=g ρ k.self;simp only[TP,UD]at j;have z:∀(P:Program) (m:Bool) (f:Frame) (x:Frame) (n:List Frame) (w:World),f.defers=[]->f.mode= .returning->f.kind= .normal\/f.kind= .deferred->P.funcs[f.fn]?=none->
  unwind P m f (x::n) none w= .go {frame:=back f.kind x (f.tmps.getD 0 undef),callers:=n,status:= .running,dying:=none} w:=λP m f x n w t s r H=>by unfold unwind;simp only[t,s,H,dN r]
 refine⟨_,_,z PL y fr c cs wL B A u.kind p,by rw[j];exact z PM mM fr' _ _ wM (by rw[d];simp[bF,B]) (by rw[d];exact A) (by rw[d];exact u.kind) (by rw[d];exact E.none _ p),⟨λa l=> ?_,λa l=> ?_,xP _ h,ue _ h,rfl,rfl,rfl,rfl⟩⟩
 ·have q:=(g ρ k.self).symm.trans (g a l);simp only[TP,UD,List.cons.injEq]at q;show back fr'.kind (bF ρ c) _=bF a (back fr.kind c _);rw[q.1,←ud a _ h,i a l];show back fr.kind _ _=_
  congr 1
  simp only[bF,lZ a o,TO,TQ];cases fr.tmps[0]? with
  |none=>exact(fK a).symm
  |some v=>rfl
 ·have q:=(g ρ k.self).symm.trans (g a l);simp only[TP,UD,List.cons.injEq]at q;exact q.2
theorem gQ{m:Bool}(b:P.inits=#[])(a:fr.kind= .normal\/fr.kind= .deferred)(h:doReturn P m fr [] none v w= .go g w' es):g.status≠ .running:=by
 unfold doReturn at h;rcases a with a|a
 all_goals
  simp only[a,b]at h;cases m<;>simp at h;obtain⟨rfl,_⟩:=h;intro e;cases e
theorem F9{j:Option Code}(f:P.inits=#[])(i:fW fr j)(d:fr.roundOf=some l)(e:fr.kind= .normal\/fr.kind= .deferred)
 (h:stepG.exec P main listen fr [] none w= .go g w' es):g.status≠ .running:=by
 unfold stepG.exec at h;cases i with
 |done b=>
  simp only[b,d]at h;obtain⟨c,a⟩:=lI h;split at a
  ·exact gQ f e a
  ·cases a
 |ret b=>
  simp only[b,d]at h;obtain⟨c,a⟩:=lI h;split at a
  ·exact gQ f e a
  ·cases a
 | @exit id _ b k=>
   simp only[b,k,WL,d]at h;obtain⟨c,a⟩:=lI h;split at a
   ·exact gQ f e a
   ·cases a
theorem AQ(c:P.inits=#[])(b:fr.kind= .normal\/fr.kind= .deferred)(e:fr.defers=[])(d:fr.mode= .returning)
 (h:unwind P main fr [] none w= .go g w' es):g.status≠ .running:=by
 unfold unwind at h;simp only[e,d]at h;split at h
 ·exact gQ c b h
 ·obtain⟨f,a⟩:=lI h;split at a
  ·exact gQ c b a
  ·cases a
  ·cases a
theorem kx(s:Sem Value)(w:World)(f:FuncId)(args:Array Value)(w':World):(do pure (.value (←s)):Sem Next).run PL w≠ .ok (.enter f args) w':=by
 intro e;rw[Uz]at e;cases a:s.run PL w with
 |ok x b=>rw[a]at e;cases e
 |halt x b=>rw[a]at e;cases e
theorem Lx(a:Nat->Nat)(b:fr.fn=j1)(hs:jz (fr.eval (.tmp dx))=false):(bF a fr).eval (.tmp dx)=aD a (fr.eval (.tmp dx)):=by
 simp only[Wb,bF,TO]at hs⊢;rw[m6 a fr.fn fr.tmps dx (by simp[b,fV,mj])];cases c:fr.tmps[dx]? with
 |none=>exact(fK a).symm
 |some v=>
  rw[c]at hs;simp only[U0]at hs;simp[my,b,fV,iD,hs]
theorem Hu{z:Nat}(h:y9 z o=true)(d:¬AI z o=true)(b:¬mC z o.op=true)(c:(o.dst).any (qb z)=false):z=1/\o.op= .load oU (.tmp dx):=by
 unfold y9 at h;simp only[Ve,IN]at h;rcases h with(h|h)|⟨a,h⟩
 ·exact absurd h.1 b
 ·exact absurd h d
 ·have a:z=1:=by simpa using a
  refine⟨a, ?_⟩;split at h
  ·rename_i e;simp only[IN,beq_iff_eq]at h;rw[a,h.2]at c;simp[mj]at c
  ·rename_i e;simp only[IN,beq_iff_eq]at h;rw[e,h.1.1,h.1.2]
  ·cases h
theorem ES(h:y9 1 o=true)(b:o.dst=some dx):∃t a,o.op= .indexAddr t (.global eN) a/\lN 1 a=true:=by
 unfold y9 at h;simp only[Ve,IN,b]at h;rcases h with(h|h)|⟨c,h⟩
 ·simp[mj]at h
 ·unfold AI at h;split at h<;>simp at h
 ·split at h
  ·rename_i e;simp only[IN,beq_iff_eq]at h;exact⟨_,_,by rw[e,h.1.1],h.1.2⟩
  ·simp at h
  ·cases h
theorem Oc{z:Nat}(h:y9 z o=true)(e:¬AI z o=true)(a:¬(o.dst).any (qb z)=false):z=1/\o.dst=some dx:=by
 unfold y9 at h;simp only[Ve,IN]at h;rcases h with(h|h)|⟨b,h⟩
 ·exact absurd (by simpa using h.2) a
 ·exact absurd h e
 ·have b:z=1:=by simpa using b
  subst b;refine⟨rfl, ?_⟩;cases c:o.dst with
  |none=>rw[c]at a;exact absurd rfl a
  |some d=>rw[c]at a;simp only[a23,mj,Bool.not_eq_false,beq_iff_eq]at a;rw[a]
theorem oB(E:kK PL PM G)(hb:AC base)(Q:cI G T D ρ wL wM)(hP:bE wL)(hR:kH wL wM){gL gM Y:Goroutine}(hg:ep G D ρ base gL gM){mL mM lL:Bool}{wL':World}{ar:Array Event}
 (h:stepG PL mL gL wL lL= .go Y wL' ar) (hT:wL'.drawn<=T) (Z:gB Y) (hE:∀f args w',iX PL gL.frame wL f args w'->j6 PL PM f):
 ∃D' m B wM' I,stepG PM mM gM wM= .go B wM' I/\ep G D' m base Y B/\i8 G T D ρ wL wM D' m wL' wM'/\∀e∈I,iw D' m e\/uo e:=by
 obtain⟨v,z,⟨P,al⟩,y,h1,h2,h3,h4⟩:=hg;obtain⟨A,cs,st,dy,of⟩:=gL;obtain⟨R,V,aw,ay,a0⟩:=gM;simp only at v z P y h1 h2 h3 h4;subst h1 h2 h3 h4;have a6:=v ρ Q.self;have a5:R.mode=A.mode:=by rw[a6];rfl
 have H:(∃D' m B wM' I,stepG PM mM {frame:=R,callers:=V,status:= .running,dying:=none,offers:=a0} wM= .go B wM' I/\ep G D' m base Y B/\i8 G T D ρ wL wM D' m wL' wM'/\∀e∈I,iw D' m e)->
  ∃D' m B wM' I,stepG PM mM {frame:=R,callers:=V,status:= .running,dying:=none,offers:=a0} wM= .go B wM' I/\ep G D' m base Y B/\i8 G T D ρ wL wM D' m wL' wM'/\∀e∈I,iw D' m e\/uo e:=
  λ⟨D',m,B,wM',I,K,J,O,q4⟩=>⟨D',m,B,wM',I,K,J,O,λe he=> .inl (q4 e he)⟩
 have p:∀B,wL'=wL->stepG PM mM {frame:=R,callers:=V,status:= .running,dying:=none,offers:=a0} wM= .go B wM->ep G D ρ base Y B->
  ∃D' m B wM' I,stepG PM mM {frame:=R,callers:=V,status:= .running,dying:=none,offers:=a0} wM= .go B wM' I/\ep G D' m base Y B/\i8 G T D ρ wL wM D' m wL' wM'/\∀e∈I,iw D' m e\/uo e:=
  λB e K J=>by subst e;exact⟨D,ρ,B,wM,_,K,J,i8.refl Q,λe he=>by simp at he⟩
 by_cases hm:A.mode= .run
 ·have hL:stepG PL mL {frame:=A,callers:=cs,status:= .running,dying:=none,offers:=of} wL lL=stepG.exec PL mL lL A cs none wL:=by unfold stepG;simp only[hm]
  have hM:stepG PM mM {frame:=R,callers:=V,status:= .running,dying:=none,offers:=a0} wM=stepG.exec PM mM true R V none wM:=by unfold stepG;simp only[a5,hm]
  rw[hL]at h;rw[hM]at H p⊢;by_cases S:∃t,bZ A=some t
  ·obtain⟨t,S⟩:=S;obtain⟨X,u,K,J,O⟩:=yU (PL:=PL) (PM:=PM) Q v z P y S mL mM lL true;rw[K]at h;cases h;exact p u rfl J O
  have U:∀j,fW A j->(A.roundOf=none->j=none\/j=some .ret)->∃D' m B wM' I,stepG.exec PM mM true R V none wM= .go B wM' I/\ep G D' m base Y B/\i8 G T D ρ wL wM D' m wL' wM'/\∀e∈I,iw D' m e\/uo e:=by
   intro j hj hn;cases a1:A.roundOf with
   |none=>
    have ap:E3 A:=by
     refine⟨a1, ?_⟩;cases hj with
     |done C=>exact .inl C
     |ret C=>exact .inr ⟨_,C⟩
     |exit C he=>rcases hn a1 with e|e<;>cases e
    obtain⟨X,u,K,J,O⟩:=FC (PL:=PL) (PM:=PM) Q v z P y ap mL mM lL true;rw[K]at h;cases h;exact p u rfl J O
   |some l=>
    cases cs with
    |nil=>exact absurd Z.1 (F9 E.inits hj a1 P.kind h)
    |cons c cs=>exact H (zw E.toEnv Q v z P y hj a1 h hT)
  have hi:=P.todo;cases C:A.todo with
  |nil=>exact U none (.done C) λ_=> .inl rfl
  |cons i k=>
   rw[C]at hi;simp only[jY,IN]at hi;cases i with
   |code c=>
    cases c with
    |ret=>exact U _ (.ret C) λ_=> .inr rfl
    |exit id=>
     cases he:exitTo id k with
     |some t=>exact absurd ⟨t,by simp only[bZ,C,he]⟩ S
     |none=>
      refine U _ (.exit C he) λa1=> ?_;unfold stepG.exec at h;simp only[C,he,WL,a1]at h;simp at h
    |goto l=>simp[kw,j3]at hi
    |refuse av=>unfold stepG.exec at h;simp only[C]at h;cases h
    |rangeFunc x ps a b=>exact H (yR E.toEnv Q hP v z P y C h hT Z.1 Z.2 hm hE)
    |region id L aj=>
     cases aj with
     |false=>exact absurd ⟨_,by simp only[bZ,C]<;>rfl⟩ S
     |true=>
      obtain⟨D',m,u,wM',K,J,O⟩:=C3 (mM:=mM) (lM:=true) E.toEnv E.mix Q v z P y C h hT;exact⟨D',m,u,wM',_,K,J,O,λe he=>by simp at he⟩
    |cond x a b=>
     cases hx:A.eval x with
     |bool q=>exact absurd ⟨_,by simp only[bZ,C,hx];rfl⟩ S
     |_=>unfold stepG.exec at h;simp only[C,hx]at h;cases h
    |_=>exact absurd ⟨_,by simp only[bZ,C]<;>rfl⟩ S
   |inRangeFunc l=>unfold stepG.exec at h;simp only[C]at h;cases h
   |beginRound=>exact H (Ac E.toEnv Q hP v z P y C h hT Z.1 Z.2)
   |endRangeFunc l=>exact H (uN E.toEnv Q hP v z P y C h hT)
   |call d w r s=>simp[kw]at hi
   |extern r a=>simp[kw]at hi
   |inRegion L ad=>
    cases ad with
    |nil=>exact absurd ⟨_,by simp only[bZ,C]<;>rfl⟩ S
    |cons n W=>
     by_cases ab:L.all (y9 (dm A.fn))=true
     rotate_left
     ·have af:dH (dm A.fn) L=true/\((n::W==[0,1])=true\/(n::W==[1])=true\/(n::W==[])=true):=by
       have:=hi.1;simp only[kw,Ve,IN]at this;rcases this with h|⟨h,(h2|h2)|h2⟩
       ·exact absurd h ab
       ·exact⟨h, .inl h2⟩
       ·exact⟨h, .inr (.inl h2)⟩
       ·exact⟨h, .inr (.inr h2)⟩
      have ag:=af.1;rcases af.2 with e|e|e
      ·rw[eq_of_beq e]at C;obtain⟨u,K,J,O⟩:=zJ (mM:=mM) Q E.same v z P y C ag h;exact p u K J O
      ·rw[eq_of_beq e]at C;obtain⟨u,K,J,O⟩:=wS (PM:=PM) (mM:=mM) Q v z P al hm y C ag h;exact p u K J O
      ·cases e
     have a4:qC A:=λau j ak k' e=>by rw[C]at e;simp only[List.cons.injEq,Xr.injEq]at e;rw[←e.1.1];exact ab
     cases ho:L[n]? with
     |none=>
      have hw:((L[n]?).map (TD · (yielded L A.tmps))).getD false=false:=(by rw[ho];rfl);have N:dV A:=And.intro (λo d h1=>by simp only[Xh,C,ho]at h1;cases h1) a4
      obtain⟨X,u,K,J,O⟩:=oD (PL:=PL) (PM:=PM) Q v z P y N C hw mL mM lL true;rw[K]at h;cases h;exact p u rfl J O
     |some o=>
      have a8:y9 (dm A.fn) o=true:=Uv.1 ab o (UA ho);have aa:A.oper?=some o:=(by simp only[Xh,C,ho]);by_cases hu:AI (dm A.fn) o=true
      ·have hz:dm A.fn=3:=by
        unfold AI at hu;split at hu
        ·simp only[IN]at hu;simpa using hu.1
        ·cases hu
       have F:dV A:=⟨λo' d _ _=>by rw[hz];rfl,a4⟩;cases hw:TD o (yielded L A.tmps)with
       |false=>
        obtain⟨X,u,K,J,O⟩:=oD (PL:=PL) (PM:=PM) Q v z P y F C (by rw[ho];simpa using hw) mL mM lL true;rw[K]at h;cases h;exact p u rfl J O
       |true=>
        rw[hz]at hu;obtain⟨u,K,J,O⟩:=uD (PM:=PM) (mM:=mM) Q hb v z P y F hz C ho hw hu h;exact p u K J O
      by_cases N:(o.dst).any (qb (dm A.fn))=false
      ·have F:dV A:=And.intro (λo' d e1 e2=>by rw[aa]at e1;cases e1;rw[e2]at N;simpa using N) a4
       cases hw:TD o (yielded L A.tmps)with
       |false=>
        obtain⟨X,u,K,J,O⟩:=oD (PL:=PL) (PM:=PM) Q v z P y F C (by rw[ho];simpa using hw) mL mM lL true;rw[K]at h;cases h;exact p u rfl J O
       |true=>
        by_cases a2:mC (dm A.fn) o.op=true
        ·have aq:∀f args w1,(execOp A.eval o).run PL wL= .ok (.enter f args) w1->j6 PL PM f:=λf args w1 e=>hE f args w1 ⟨hm, .inl ⟨L,n,W,k,o,C,ho,hw,a2,N,e⟩⟩;exact H (Br E.toEnv Q hP v z P y F C ho hw a2 aq (λl f ae a b w1 e=>Bq hP (E.fn ρ) A.eval o a2 e) h hT Z.1 Z.2)
        ·obtain⟨hf,ac⟩:=Hu a8 hu a2 N;have a9:A.fn=j1:=DK.1 hf;cases hs:jz (A.eval (.tmp dx))with
         |true=>
          obtain⟨u,I,K,J,O,q4⟩:=BM (mM:=mM) E.toEnv E.ty Q hP hR v z P y C ho hw a9 ac hs F h Z.1 Z.2;subst K;exact⟨D,ρ,u,wM,I,J,O,i8.refl Q,λe he=> .inr (q4 e he)⟩
         |false=>
          have ah:∀c,o.op≠ .defer c:=λc e=>by rw[ac]at e;cases e
          have an:R.todo= .inRegion L (n::W)::k.map (cT ρ):=(by rw[a6];show A.todo.map (cT ρ)=_;rw[C];rfl);have am:TD o (yielded L R.tmps)=true:=by rw[a6];have:yielded L (bF ρ A).tmps=yielded L A.tmps:=funext λj=>eF ρ A.fn L A.tmps j;rw[this];exact hw
          have a7:∀ev:Operand->Value,execOp ev o=(do pure (.value (←TN oU (ev (.tmp dx)))):Sem Next):=λev=>by unfold execOp;rw[ac]
          have ai:∀m,aS G D ρ m->aF m PL PM (fp m) (execOp A.eval o) (execOp R.eval o):=λm hA=>by rw[a7,a7,v m hA,Lx m a9 hs];exact ca (gy E.same oU _)
          rw[cS C ho hw ah]at h;rw[cS an ho am ah]at H⊢;refine H (ki E.tab E.load E.store Q v z P y F ai (by rw[a7];exact fC _) (λx w1 e=>dC (ai ρ Q.self) wL hP x w1 e) (λf args w1 e=> ?_) (λl f ae a b w1 e=> ?_) h hT Z.1 Z.2)
          ·rw[a7]at e;exact absurd e (kx _ _ _ _ _)
          ·rw[a7]at e;exact absurd e (iC _ _ _ _ _ _ _ _)
      ·have hz:A.fn=j1/\o.dst=some dx:=(Oc a8 hu N).imp DK.1 id;obtain⟨t,ix,a2,hx⟩:=ES (by rw[hz.1,fV]at a8;exact a8) hz.2;cases hw:TD o (yielded L A.tmps)with
       |false=>
        obtain⟨X,u,K,J,O⟩:=wO (PL:=PL) (PM:=PM) Q v z P y C ho hz.1 hz.2 (by rw[ho];simpa using hw) mL mM lL true;rw[K]at h;cases h;exact p u rfl J O
       |true=>
        exact H (yX (mM:=mM) E.toEnv Q hP v z P y C ho hw hz.1 a2 hx hz.2 h hT Z.1 Z.2)
   |_=>exact absurd ⟨_,by simp only[bZ,C]<;>rfl⟩ S
 ·have hL:stepG PL mL {frame:=A,callers:=cs,status:= .running,dying:=none,offers:=of} wL lL=unwind PL mL A cs none wL:=by
   unfold stepG;cases M:A.mode with
   |run=>exact absurd M hm
   |_=>simp only[M]
  have hM:stepG PM mM {frame:=R,callers:=V,status:= .running,dying:=none,offers:=a0} wM=unwind PM mM R V none wM:=by
   unfold stepG;cases M:A.mode with
   |run=>exact absurd M hm
   |_=>simp only[a5,M]
  rw[hL]at h;rw[hM]at H p⊢;cases hd:A.defers with
  |nil=>
   cases cs with
   |nil=>
    cases M:A.mode with
    |run=>exact absurd M hm
    |returning=>exact absurd Z.1 (AQ E.inits P.kind hd M h)
    |panicking ch=>
     exfalso;have a3:=P.mode;rw[M]at a3;unfold unwind at h;simp only[hd,M]at h;split at h
     ·cases h
     ·have ao:ch.head?.any (·.goexit)=false:=by
       cases ch with
       |nil=>rfl
       |cons e r=>
        simp only[Od,VJ,IN]at a3;simpa using a3.2.1.2
      simp only[ao,TK,↓reduceIte]at h;split at h
      ·simp only[VP.injEq]at h;obtain⟨rfl,_,_⟩:=h;exact absurd Z.2 s_
      ·cases h
      ·cases h
   |cons c cs=>
    cases M:A.mode with
    |run=>exact absurd M hm
    |panicking ch=>
     obtain⟨X,u,K,J,O⟩:=zL (PL:=PL) (PM:=PM) Q v z P y hd M mL mM;rw[K]at h;cases h;exact p u rfl J O
    |returning=>
     cases hf:PL.funcs[A.fn]? with
     |none=>
      obtain⟨X,u,K,J,O⟩:=uy E Q v z P y hd M hf mL mM;rw[K]at h;cases h;exact p u rfl J O
     |some fn=>
      obtain⟨ax,a9,hr,a3⟩:=E.res _ _ hf;exact H (xc E.toEnv Q v z P y hd M hf a9 hr a3 h hT)
  |cons d ds=>
   have:=P.defers;rw[hd]at this;simp only[dB,VJ,IN]at this;obtain⟨tg,args⟩:=d;cases tg with
   |collected b=>exact H (BF E.toEnv Q hP v z P y hm hd h hT)
   |fn f az=>
    cases f with
    |func g=>
     have hg:g=fF:=(by simpa using this.1);subst hg;obtain⟨X,u,K,J,O⟩:=u7 E.toEnv E.d1 Q v z P y hm hd mL mM;rw[K]at h;cases h;exact p u rfl J O
    |_=>simp at this
   |_=>simp at this
end
def eb:GStep->Prop
 | .go g w _=>g.dying≠none\/(bE w/\gB g)
 | .ended ..=>True
 |_=>False
theorem eb.after{x:GStep}(h:eb x):eb (TI es x):=by cases x<;>exact h
theorem C0(m:String):eb (endFatal P fr cs none m w):=by
 unfold endFatal;dsimp only;split
 ·exact .inl s_
 ·trivial
 ·trivial
theorem jG{s:Sem Next}(A:cM P s)(z:∀n w',s.run P w= .ok n w'->bE w')(y:∀x w',s.run P w= .halt x w'->(eO x\/∃v,x= .panic v)/\bE w'):eb (stepG.apply P listen fr cs none s w):=by
 have j:(if listen=true then s.runT P w #[]else(s.run P w,#[])).1=s.run P w:=by
  split
  ·exact UH P s w #[]
  ·rfl
 unfold stepG.apply;generalize (if listen=true then s.runT P w #[]else(s.run P w,#[]))=q at j;obtain⟨r,B⟩:=q;simp only at j;subst j;cases i:s.run P w with
 |ok n e=>
  have t:=A w n e i;have d:=z n e i;refine eb.after ?_;cases n with
  |value v=>exact .inr ⟨d,rfl,rfl⟩
  |skip=>exact .inr ⟨d,rfl,rfl⟩
  |enter f p=>exact .inr ⟨d,rfl,rfl⟩
  |round l f o a b=>exact .inr ⟨d,rfl,rfl⟩
  |_=>simp[ya]at t
 |halt x e=>
  obtain⟨g,d⟩:=y x e i;refine eb.after ?_;cases x with
  |panic v=>exact .inr ⟨d,rfl,rfl⟩
  |goexit=>rcases g with h|⟨_,h⟩<;>cases h
  |blocked=>rcases g with h|⟨_,h⟩<;>cases h
  |waiting=>rcases g with h|⟨_,h⟩<;>cases h
  |unsupported u=>
   cases u with
   |initOrder k=>rcases g with h|⟨_,h⟩<;>cases h
   |_=>trivial
  |stuck m=>trivial
  |exit c=>trivial
  |throw m=>exact .inl s_
  |fatal m=>exact C0 m
theorem iM(d:P.inits=#[])(a:fr.kind= .normal\/fr.kind= .deferred)(v:Value)(b:bE w):eb (doReturn P true fr cs none v w):=by
 cases cs with
 |cons c cs=>
  rw[dN a];exact .inr ⟨b,rfl,rfl⟩
 |nil=>rcases a with a|a<;>simp[doReturn,a,d,eb]
section
variable{G:Nat}
theorem Ji(G:Nat):aS G (λ_=>False) id id:=⟨⟨λ_ _ h=>h,λ_=>Iff.rfl⟩,λ_ h=>h.elim⟩
theorem yB{k:List Item}(d:iW fr)(a:mE fr)(f:fr.mode= .run)(b:fr.todo= .inRegion ops [1]::k)(c:dH (dm fr.fn) ops=true)(h:bE w):eb (stepG.exec P true true fr cs none w):=by
 rcases EI (P:=P) (main:=true) (listen:=true) (cs:=cs) (w:=w) (a f ops k b (De c)) (λe=>d.round (by rw[e];decide)) c b with⟨x,w',es,e⟩|⟨g,e,h1,h2⟩
 ·rw[e];trivial
 ·rw[e];exact .inr ⟨h,h1,h2⟩
theorem xd{k:List Item}{z:Nat}(a:fr.roundOf=none)(d:fr.todo= .inRegion ops (n::rest)::k)(e:ops[n]?=some o)(b:TD o (yielded ops fr.tmps)=true)(c:AI z o=true)(f:bE w):eb (stepG.exec P true true fr cs none w):=by rw[m7 d e b c a];split<;>exact .inr ⟨f,rfl,rfl⟩
theorem Ez(E:kK PL PM G){o:Option (Array CommCase×CommShape)}(ok:iW fr)(mid:mE fr)(hP:bE w):
 eb (stepG PL true {frame:=fr,callers:=cs,status:= .running,dying:=none,offers:=o} w):=by
 by_cases hm:fr.mode= .run
 ·have hL:stepG PL true {frame:=fr,callers:=cs,status:= .running,dying:=none,offers:=o} w=stepG.exec PL true true fr cs none w:=by unfold stepG;simp only[hm]
  rw[hL];have hrun:∀t:List Item,eb (.go {frame:={fr with todo:=t},callers:=cs,status:= .running,dying:=none} w):=λt=> .inr ⟨hP,rfl,rfl⟩;by_cases hpl:∃t,bZ fr=some t
  ·obtain⟨t,hpl⟩:=hpl;rw[iO hpl];exact hrun t
  have hend:∀l (j:Option Code) v w1,j.all (j3 0)=true->((UI l j).runT PL w #[]).1= .ok v w1->bE w1:=λl j v w1 hj e=>by rw[UH]at e;exact dt (rX (ρ:=id) (PM:=PM) l j hj) w hP v w1 e
  have hleave:∀j,fW fr j->eb (stepG.exec PL true true fr cs none w):=by
   intro j hj;cases hro:fr.roundOf with
   |none=>
    unfold stepG.exec;cases hj with
    |done ht=>simp only[ht,hro];exact .inr ⟨hP,rfl,rfl⟩
    |ret ht=>simp only[ht,hro];exact .inr ⟨hP,rfl,rfl⟩
    |exit ht he=>simp only[ht,he,WL,hro];trivial
   |some l=>
    unfold stepG.exec;cases hj with
    |done ht=>
     simp only[ht,hro];refine eb.after ?_;split
     ·rename_i v w1 hr;exact iM E.inits ok.kind _ (hend l _ v w1 rfl hr)
     ·trivial
    |ret ht=>
     simp only[ht,hro];refine eb.after ?_;split
     ·rename_i v w1 hr;exact iM E.inits ok.kind _ (hend l _ v w1 rfl hr)
     ·trivial
    |exit ht he=>
     simp only[ht,he,WL,hro];refine eb.after ?_;split
     ·rename_i v w1 hr;exact iM E.inits ok.kind _ (hend l _ v w1 rfl hr)
     ·trivial
  have hi:=ok.todo;cases ht:fr.todo with
  |nil=>exact hleave none (.done ht)
  |cons i k=>
   rw[ht]at hi;simp only[jY,IN]at hi;cases i with
   |code c=>
    cases c with
    |ret=>exact hleave _ (.ret ht)
    |exit id=>
     cases he:exitTo id k with
     |some t=>exact absurd ⟨t,by simp only[bZ,ht,he]⟩ hpl
     |none=>exact hleave _ (.exit ht he)
    |goto l=>simp[kw,j3]at hi
    |refuse why=>unfold stepG.exec;simp only[ht];trivial
    |rangeFunc x ps a b=>
     have hi1:=hi.1;simp only[kw,j3,IN]at hi1;obtain⟨⟨⟨hz,hx⟩,ha⟩,hbb⟩:=hi1;have hfn:dm fr.fn=0:=(by simpa using hz);rw[hfn]at ha hbb hx;have hf:=UH PL (U3 fr.fn fr.tmps ps a b fr.roundOf) w #[];cases hr:(U3 fr.fn fr.tmps ps a b fr.roundOf).runT PL w #[]with
     |mk r es0=>
      rw[hr]at hf;cases r with
      |ok y w1=>
       obtain⟨l,mark⟩:=y;rw[fE ht hr];refine eb.after ?_;have hP1:bE w1:=dt (mt (ρ:=id) (PM:=PM) fr.fn fr.tmps ps a b fr.roundOf ha hbb hfn) w hP _ _ hf.symm;have hs1:aF id PL PM (fp id) (cL (bY fr k l mark) x l) (cL (bF id (bY fr k l mark)) x (id l)):=
        kj E.same (E.fn id) (eT (bY fr k l mark) x (by show lN (dm fr.fn) x=true;rw[hfn];exact hx)) l
       exact jG (kz (E.fn id) _ x l) (λy w' e=>dt hs1 w1 hP1 y w' e) (λy w' e=>⟨dC hs1 w1 hP1 y w' e,fP hs1 w1 hP1 y w' e⟩)
      |halt y w1=>
       unfold stepG.exec;simp only[ht,hr];trivial
    |region id ops draw=>
     cases draw with
     |false=>exact absurd ⟨_,by simp only[bZ,ht]<;>rfl⟩ hpl
     |true=>
      obtain⟨n,w1,hn⟩:=u9 PL (.order fr.fn id) w;rw[jk ht hn];exact .inr ⟨dt (ρ:=λx=>x) (PM:=PM) (f:=λx:Nat=>x) (s:=choose (.order fr.fn id)) (s':=choose (.order fr.fn id)) (.choose λn=> .pure n) w hP n w1 hn,rfl,rfl⟩
    |cond x a b=>
     cases hx:fr.eval x with
     |bool q=>exact absurd ⟨_,by simp only[bZ,ht,hx]<;>rfl⟩ hpl
     |_=>unfold stepG.exec;simp only[ht,hx];trivial
    |_=>exact absurd ⟨_,by simp only[bZ,ht]<;>rfl⟩ hpl
   |inRangeFunc l=>unfold stepG.exec;simp only[ht];trivial
   |beginRound=>
    rw[jD ht];have hal:aF id PL PM (fp id) (gn fr) (gn (bF id fr)):=by
     unfold gn;show aF id PL PM (fp id) (do fr.roundOf.elim _ Vk;pure .skip) (do(fr.roundOf.map id).elim _ Vk;pure .skip);cases fr.roundOf with
     |none=>exact .dead trivial
     |some l=>exact xR (ou E.same l)
    exact jG (qL _) (λy w' e=>dt hal w hP y w' e) λy w' e=>⟨dC hal w hP y w' e,fP hal w hP y w' e⟩
   |endRangeFunc l=>
    unfold stepG.exec;simp only[ht];refine eb.after ?_;split
    ·rename_i j w1 hr;rw[UH]at hr;exact .inr ⟨dt (mu (ρ:=id) E.same l) w hP j w1 hr,rfl,rfl⟩
    ·rename_i v w1 hr;rw[UH]at hr;exact .inr ⟨fP (mu (ρ:=id) E.same l) w hP _ w1 hr,rfl,rfl⟩
    ·trivial
   |call d w r s=>simp[kw]at hi
   |extern r a=>simp[kw]at hi
   |inRegion ops todo=>
    cases todo with
    |nil=>exact absurd ⟨_,by simp only[bZ,ht]<;>rfl⟩ hpl
    |cons n rest=>
     cases hw:((ops[n]?).map (TD · (yielded ops fr.tmps))).getD false with
     |false=>
      rw[ji ht hw];exact .inr ⟨hP,rfl,rfl⟩
     |true=>
      cases ho:ops[n]? with
      |none=>rw[ho]at hw;cases hw
      |some oo=>
       rw[ho]at hw;have hw':TD oo (yielded ops fr.tmps)=true:=hw;by_cases hop:mC (dm fr.fn) oo.op=true
       ·rw[jj ht ho hw' hop];have hal:=xT (ρ:=id) (z:=dm fr.fn) (ev:=fr.eval) (ev':=λx=>aD id (fr.eval x)) E.same (E.toEnv.far (Ji G)) (E.fn id) (λx _=>rfl) oo hop;exact jG (vV (E.fn id) fr.eval oo hop) (λy w' e=>dt hal w hP y w' e) λy w' e=>⟨dC hal w hP y w' e,fP hal w hP y w' e⟩
       by_cases hnp:ops.all (y9 (dm fr.fn))=true
       rotate_left
       ·have hi1:=hi.1;simp only[kw,Ve,IN]at hi1;rcases hi1 with h|⟨hp,(h2|h2)|h2⟩
        ·exact absurd h hnp
        ·exfalso;obtain⟨hz,o1,p1,rfl,_,_,_,d,_,hcase⟩:=il hp;have e0:=eq_of_beq h2;simp only[List.cons.injEq]at e0;rw[e0.1]at ho;have ho:o1=oo:=(by simpa using ho);subst ho;refine hop ?_;rcases hcase with⟨t,s,e1,_⟩|⟨hz,a,b,c,e1,ha,hb,_⟩
         ·rw[e1];rfl
         ·rw[e1,hz];simp[mC,nQ,ha,hb]
        ·rw[eq_of_beq h2]at ht;exact yB ok mid hm ht hp hP
        ·cases h2
       have hoo:y9 (dm fr.fn) oo=true:=Uv.1 hnp oo (UA ho);by_cases hu:AI (dm fr.fn) oo=true
       ·have hz:dm fr.fn=3:=by
         unfold AI at hu;split at hu
         ·simp only[IN]at hu;simpa using hu.1
         ·cases hu
        exact xd (ok.round (by rw[hz];decide)) ht ho hw' hu hP
       ·have hsp:(∃t x ix,oo.op= .indexAddr t x ix)\/∃t x,oo.op= .load t x:=by
         unfold y9 at hoo;simp only[Ve,IN]at hoo;rcases hoo with(h|h)|⟨_,h⟩
         ·exact absurd h.1 hop
         ·exact absurd h hu
         ·split at h
          ·rename_i e;exact .inl ⟨_,_,_,e⟩
          ·rename_i e;exact .inr ⟨_,_,e⟩
          ·cases h
        have hnd:∀c,oo.op≠ .defer c:=λc e=>by rcases hsp with⟨_,_,_,h⟩|⟨_,_,h⟩<;>rw[h]at e<;>cases e
        rw[cS ht ho hw' hnd];rcases hsp with⟨t,x,ix,h⟩|⟨t,x,h⟩
        ·have hex:execOp fr.eval oo=(do pure (.value (←V3 t (fr.eval x) (fr.eval ix))):Sem Next):=(by unfold execOp;rw[h]);rw[hex];exact jG (fC _) (λy w' e=>dt (ca (jJ (ρ:=id) E.same t _ _)) w hP y w' e) λy w' e=>⟨dC (ca (jJ (ρ:=id) E.same t _ _)) w hP y w' e,fP (ca (jJ (ρ:=id) E.same t _ _)) w hP y w' e⟩
        ·have hex:execOp fr.eval oo=(do pure (.value (←TN t (fr.eval x))):Sem Next):=(by unfold execOp;rw[h]);rw[hex];exact jG (fC _) (λy w' e=>dt (ca (gy (ρ:=id) E.same t _)) w hP y w' e) λy w' e=>⟨dC (ca (gy (ρ:=id) E.same t _)) w hP y w' e,fP (ca (gy (ρ:=id) E.same t _)) w hP y w' e⟩
   |_=>exact absurd ⟨_,by simp only[bZ,ht]<;>rfl⟩ hpl
 ·have hL:stepG PL true {frame:=fr,callers:=cs,status:= .running,dying:=none,offers:=o} w=unwind PL true fr cs none w:=by
   unfold stepG;cases hmm:fr.mode with
   |run=>exact absurd hmm hm
   |_=>simp only[hmm]
  rw[hL];cases hd:fr.defers with
  |nil=>
   unfold unwind;cases hmm:fr.mode with
   |run=>exact absurd hmm hm
   |returning=>
    simp only[hd];split
    ·exact iM E.inits ok.kind _ hP
    ·rename_i fn hf;obtain⟨fn',_,hr,hok⟩:=E.res _ _ hf;refine eb.after ?_;split
     ·rename_i v w1 hv;rw[UH]at hv;exact iM E.inits ok.kind _ (dt (ui (ρ:=id) E.same fn fn' fr.fn fr.tmps hr hok) w hP v w1 hv)
     ·trivial
     ·trivial
   |panicking ch=>
    have hok:=ok.mode;rw[hmm]at hok;simp only[hd];split
    ·trivial
    ·cases cs with
     |cons c cs=>exact .inr ⟨hP,rfl,rfl⟩
     |nil=>
      have hgo:ch.head?.any (·.goexit)=false:=by
       cases ch with
       |nil=>rfl
       |cons e r=>
        simp only[Od,VJ,IN]at hok;simpa using hok.2.1.2
      simp only[hgo,TK,↓reduceIte];split
      ·exact .inl s_
      ·trivial
      ·trivial
  |cons d ds=>
   have:=ok.defers;rw[hd]at this;simp only[dB,VJ,IN]at this;obtain⟨tg,args⟩:=d;cases tg with
   |collected b=>
    unfold unwind;simp only[hd];refine eb.after ?_;split
    ·rename_i calls w1 hr;rw[UH]at hr;exact .inr ⟨dt (mA (ρ:=id) (PM:=PM) b) w hP calls w1 hr,rfl,rfl⟩
    ·trivial
   |fn f cap=>
    cases f with
    |func g=>
     have hg:g=fF:=(by simpa using this.1);subst hg;obtain⟨fn,fn',q1,q2,q3,q4,c,q5,q6⟩:=E.d1;rw[kg hd q1 (by rw[q5];rfl) (E.fn id fF fn q1).1];exact .inr ⟨hP,rfl,rfl⟩
    |_=>simp at this
   |_=>simp at this
end
end
section
open Go.Conc
section
variable{G:Nat}
theorem vN(fr:Frame)(cs:List Frame)(w:World):lone fr cs w=solo {frame:=fr,callers:=cs,status:= .running,dying:=none} w:=rfl
theorem iK{g':Goroutine}(h:solo g w=solo g' w'):g=g'/\w=w':=by simp only[solo,Machine.mk.injEq]at h;obtain⟨b,a,_⟩:=h;exact⟨by simpa using a,b⟩
theorem ta{m:Machine}(c:g.status= .running)(b:eb (stepG P true g w))(h:step P (solo g w)= .next m):
 ∃g' w' es,stepG P true g w= .go g' w' es/\m=solo g' w':=by
 rw[step,stepT_solo c]at h;cases a:stepG P true g w with
 |go g' w' es=>
  rw[runT_solo_go a]at h;simp only[Stepped.next.injEq]at h;exact⟨g',w',es,rfl,h.symm⟩
 |ended o w' es=>
  simp[runT,solo,Array.swapAt!,Array.swapAt,a]at h
 |_=>rw[a]at b;exact b.elim
def Ec(I:Machine->Prop):Prop:=∀m,I m->∀g∈m.gs,g.dying=none
theorem GC(g:Goroutine)(w:World):g∈(solo g w).gs:=by simp[solo]
theorem C6{I:Machine->Prop}(c:Ec I){m a:Machine}(h:StepsIn I P m a)(b:lone fr cs w'=a)(e:m=solo g w):g.dying=none:=by
 cases h with
 |refl=>
  rw[←b,vN]at e;rw[←(iK e).1]
 |head d _ _=>exact c _ d g (by rw[e];exact GC g w)
end
def kM(w:World)(τ:Tape)(d:Nat):World:={w with tape:=τ,drawn:=d}
inductive gp (P:Program) (Stop:Goroutine->World->Prop):Goroutine->World->Prop
 |stop {g:Goroutine} {w:World} (h:Stop g w):gp P Stop g w
 |go {g:Goroutine} {w:World} (n:Tape->Nat->Goroutine×World) (h:∀τ d,∃es,stepG P true g (kM w τ d)= .go (n τ d).1 (n τ d).2 es) (hw:∀τ d,gB (n τ d).1) (ht:∀τ d,gp P Stop (n τ d).1 (n τ d).2):gp P Stop g w
section
variable{G T:Nat}{base:List Frame}
theorem cI.re(h:cI G T D ρ wL wM){wL' wM':World}(c:wL'.heap=wL.heap)(a:wM'.heap=wM.heap){d:Nat}(e:∀i,wL'.drawn+i<d->wM'.tape (wM'.drawn+i)=wL'.tape (wL'.drawn+i)):cI G d D ρ wL' wM':=
 ⟨h.inj,λb f=>by rw[c,a];exact h.obj b f,e,h.glob,by rw[c,a];exact h.far,h.out⟩
theorem ep.well{b a:Goroutine}(h:ep G D ρ base b a):gB a:=
 ⟨h.run.2.1,h.run.2.2.2⟩
theorem kK.enters(e:∀f (fn:Func) c,PL.funcs[f]?=some fn->fn.body=some c->oa f c=true)(f:FuncId)(fn:Func)(a:PL.funcs[f]?=some fn)(d:fn.body.isSome=true):j6 PL PL f:=by obtain⟨c,b⟩:=Option.isSome_iff_exists.1 d;exact⟨fn,fn,a,a,rfl,rfl,c,b,e f fn c a b⟩
theorem Fh(E:kK PL PM G){I:Machine->Prop}(s:Ec I)(q:gB g)(i:iW g.frame/\mE g.frame)(r:bE w)
 {j:Machine} (hs:step PL (solo g w)= .next j) (a:StepsIn I PL j (lone fr cs w')):∃e b es,stepG PL true g w= .go e b es/\j=solo e b/\gB e/\bE b:=by
 obtain⟨f,c,t,u,p⟩:=g;obtain⟨n,m⟩:=q;simp only at n m i;subst n m;have d:=Ez (w:=w) (cs:=c) (o:=p) E i.1 i.2 r;obtain⟨e,b,es,l,rfl⟩:=ta rfl d hs;rw[l]at d;rcases d with h|⟨k,d⟩
 ·exact absurd (C6 s a rfl rfl) h
 ·exact⟨e,b,es,l,rfl,d,k⟩
end
section
variable{Stop:Goroutine->World->Prop}
structure mw where
 g:Goroutine
 w:World
 τ:Tape
 d:Nat
 dead:Bool
def mw.step(P:Program)(X:mw):GStep:=stepG P true X.g (kM X.w X.τ X.d)
def mw.good(P:Program)(X:mw):Prop:=X.dead=false/\∃g' w' es,X.step P= .go g' w' es/\gB g'
def mw.bad(P:Program)(Stop:Goroutine->World->Prop)(X:mw):Prop:=¬Stop X.g X.w/\∀g' w' es,X.step P= .go g' w' es->gB g'->¬gp P Stop g' w'
theorem tY(h:¬gp PL Stop g w):∃X:mw,X.g=g/\X.w=w/\X.dead=false/\X.bad PL Stop:=by
 have q:¬Stop g w:=λm=>h (.stop m);refine V5 λo=> ?_;have b:∀a d,∃x:Goroutine×World,(∃f,stepG PL true g (kM w a d)= .go x.1 x.2 f)/\gB x.1/\gp PL Stop x.1 x.2:=by intro a d;refine V5 λj=>o ⟨⟨g,w,a,d,false⟩,rfl,rfl,rfl,q,λr i f e k l=>j ⟨(r,i),⟨f,e⟩,k,l⟩⟩
 have p:∃n:Tape->Nat->Goroutine×World,∀a d,(∃f,stepG PL true g (kM w a d)= .go (n a d).1 (n a d).2 f)/\gB (n a d).1/\gp PL Stop (n a d).1 (n a d).2:=
  ⟨λa d=>XV (b a d),λa d=>Ws (b a d)⟩
 obtain⟨n,c⟩:=p;exact h (.go n (λa d=>(c a d).1) (λa d=>(c a d).2.1) λa d=>(c a d).2.2)
theorem zM(PL:Program)(a:Goroutine->World->Prop):∃b:mw->mw,(∀X,X.bad PL a->X.good PL->(∃es,X.step PL= .go (b X).g (b X).w es)/\gB (b X).g/\(b X).dead=false/\(b X).bad PL a)/\∀X,¬X.good PL->b X=⟨X.g,X.w,X.τ,X.d+1,true⟩:=by
 have h:∀X:mw,∃Y:mw,(X.bad PL a->X.good PL->(∃es,X.step PL= .go Y.g Y.w es)/\gB Y.g/\Y.dead=false/\Y.bad PL a)/\(¬X.good PL->Y=⟨X.g,X.w,X.τ,X.d+1,true⟩):=by
  intro X;by_cases f:X.good PL
  ·by_cases i:X.bad PL a
   ·obtain⟨l,k,g,es,d,c⟩:=f;obtain⟨Y,j,o,n,m⟩:=tY (i.2 k g es d c);exact⟨Y,λ_ _=>⟨⟨es,by rw[j,o];exact d⟩,by rw[j];exact c,n,m⟩,λe=>absurd ⟨l,k,g,es,d,c⟩ e⟩
   ·exact⟨X,λh=>absurd h i,λe=>absurd f e⟩
  ·exact⟨_,λ_ h=>absurd h f,λ_=>rfl⟩
 exact⟨λX=>XV (h X),λX=>(Ws (h X)).1,λX=>(Ws (h X)).2⟩
section
variable(nx:mw->mw)(X0:mw)
def ck:Nat->mw
 |0=>X0
 |n+1=>nx (ck n)
def kS(k:Nat->Nat):Nat->Nat
 |0=>0
 |n+1=>kS k n+k n
theorem vk(k:Nat->Nat)(h:n<=m):kS k n<=kS k m:=by
 induction h with
 |refl=>exact TB _
 |step _ a=>exact TW a (Nat.le_add_right _ _)
theorem Ov(k:Nat->Nat)(t:Nat->Nat->Question->Nat):∃T:Tape,∀n i,i<k n->T (kS k n+i)=t n i:=by
 have h:∀j,∃f:Question->Nat,∀n i,i<k n->kS k n+i=j->f=t n i:=by
  intro j;by_cases d:∃n i,i<k n/\kS k n+i=j
  ·obtain⟨n,i,g,e⟩:=d;refine⟨t n i,λm l r q=> ?_⟩;have o:m=n:=by
    rcases Nat.lt_trichotomy m n with a|c|b
    ·have:=vk k (show m+1<=n from a);have:kS k (m+1)=kS k m+k m:=rfl;omega
    ·exact c
    ·have:=vk k (show n+1<=m from b);have:kS k (n+1)=kS k n+k n:=rfl;omega
   subst o;have:i=l:=o_;rw[this]
  ·exact⟨λ_=>0,λn i g e=>absurd ⟨n,i,g,e⟩ d⟩
 exact⟨λj=>XV (h j),λn i p=>Ws (h _) n i p rfl⟩
theorem C1(PL:Program)(a:mw->mw)(b:mw):∃k:Nat->Nat,∀n,((ck a b n).good PL->k n=(ck a b (n+1)).w.drawn-(ck a b n).d)/\(¬(ck a b n).good PL->k n=1):=by
 have h:∀n,∃c:Nat,((ck a b n).good PL->c=(ck a b (n+1)).w.drawn-(ck a b n).d)/\(¬(ck a b n).good PL->c=1):=by
  intro n;by_cases d:(ck a b n).good PL
  ·exact⟨_,λ_=>rfl,λe=>absurd d e⟩
  ·exact⟨1,λh=>absurd h d,λ_=>rfl⟩
 exact⟨λn=>XV (h n),λn=>Ws (h n)⟩
variable{nx X0}
theorem zA(b:∀X:mw,¬X.good PL->nx X=⟨X.g,X.w,X.τ,X.d+1,true⟩){k:Nat->Nat}(d:∀n,¬(ck nx X0 n).good PL->k n=1){T:Tape}(p:∀n i,i<k n->T (kS k n+i)=(ck nx X0 n).τ ((ck nx X0 n).d+i))
  (m:¬(ck nx X0 n).good PL) (j:Nat):T (kS k n+j)=(ck nx X0 n).τ ((ck nx X0 n).d+j):=by
 have h:∀j,¬(ck nx X0 (n+j)).good PL/\(ck nx X0 (n+j)).τ=(ck nx X0 n).τ/\(ck nx X0 (n+j)).d=(ck nx X0 n).d+j/\kS k (n+j)=kS k n+j:=by
  intro j;induction j with
  |zero=>exact⟨m,rfl,rfl,rfl⟩
  |succ j l=>
   obtain⟨a,c,g,f⟩:=l;have e:ck nx X0 (n+(j+1))=⟨(ck nx X0 (n+j)).g,(ck nx X0 (n+j)).w,(ck nx X0 (n+j)).τ,(ck nx X0 (n+j)).d+1,true⟩:=b _ a;refine⟨λo=> ?_,by rw[e];exact c,by rw[e];show(ck nx X0 (n+j)).d+1=_;omega, ?_⟩
   ·have:=o.1;rw[e]at this;cases this
   ·have:=d (n+j) a;show kS k (n+j)+k (n+j)=_;omega
 obtain⟨a,c,g,f⟩:=h j;have:=p (n+j) 0 (by rw[d _ a];exact Nat.one_pos);rw[XN,XN,f,c,g]at this;exact this
end
end
section
variable{G:Nat}{Stop:Goroutine->World->Prop}
structure jR (G:Nat) (D0:Nat->Prop) (g:Goroutine) (w:World) (g':Goroutine) (w':World):Prop where
 rel:∃D ρ,cI G 0 D ρ w w'/\ep G D ρ [] g g'/\∀b,D0 b->D b/\ρ b=b
 tab:kH w w'
 calm:bE w
theorem jR.step(E:kK PL PL G)(C:∀f (fn:Func) c,PL.funcs[f]?=some fn->fn.body=some c->oa f c=true){D0:Nat->Prop}{p g':Goroutine}{l:World}(h:jR G D0 g w g' w')
  (hs:stepG PL true g w= .go p l es) (y:gB p) (z:∀i,w.drawn+i<l.drawn->w'.tape (w'.drawn+i)=w.tape (w.drawn+i)):
 ∃d a k,stepG PL true g' w'= .go d a k/\gB d/\jR G D0 p l d a/\w.drawn<=l.drawn/\a.drawn+w.drawn=l.drawn+w'.drawn/\a.tape=w'.tape:=by
 obtain⟨⟨D,q,H,F,o⟩,u,t⟩:=h;have s:cI G l.drawn D q w w':=H.re rfl rfl z;obtain⟨I,n,d,a,k,x,r,j,_⟩:=oB (mM:=true) E (λ_ _ e=>by cases e) s t u F hs (TB _) y λf v J B=>by obtain⟨fn,A,m⟩:=mm (E.fn q) B;exact kK.enters C f fn A m
 exact⟨d,a,k,x,r.well,⟨⟨I,n,j.rel.re rfl rfl λi K=>o_,r,λb m=>⟨(j.ext b (o b m).1).1,(j.ext b (o b m).1).2.trans (o b m).2⟩⟩,u.ran E.tab s j,j.quiet t⟩,j.drawn,j.drew,j.tape⟩
theorem jR.re{D0:Nat->Prop}{g':Goroutine}(h:jR G D0 g w g' w'){v v':World}(a:v.heap=w.heap)(d:v'.heap=w'.heap):jR G D0 g v g' v':=by obtain⟨⟨D,j,r,q,p⟩,⟨c,e,f,n,m,l⟩,k⟩:=h;exact⟨⟨D,j,r.re a d λi t=>o_,q,p⟩,⟨c,e,f,n,by rw[a];exact m,by rw[d];exact l⟩,λb o s=>k b o (by rw[←a];exact s)⟩
theorem pm(E:kK PL PL G)(hB:∀f (fn:Func) c,PL.funcs[f]?=some fn->fn.body=some c->oa f c=true){D0:Nat->Prop}{I:Machine->Prop}(hI:Ec I){q:Goroutine}(hp:jR G D0 q w0 q w0)(a2:gB q)
 (x:∀τ,∃fr w',StepsIn I PL (solo q (kM w0 τ 0)) (lone fr [] w')/\Stop {frame:=fr,callers:=[],status:= .running,dying:=none} w')
 (hS:∀g w g' w',jR G D0 g w g' w'->Stop g w->Stop g' w'):gp PL Stop q w0:=by
 refine V5 λhn=> ?_;obtain⟨a,H,F,a0,Z⟩:=tY hn;obtain⟨b,z,A⟩:=zM PL Stop;obtain⟨k,hk⟩:=C1 PL b a;obtain⟨T,hT⟩:=Ov k λn i=>(ck b a n).τ ((ck b a n).d+i);obtain⟨fr,wE,J,t⟩:=x T;have Y:∀m X,StepsIn I PL m X->X=lone fr [] wE->∀n o d,m=solo o d->d.tape=T->d.drawn=kS k n->(ck b a n).bad PL Stop->(ck b a n).dead=false->gB o->
  jR G D0 (ck b a n).g (ck b a n).w o d->jR G D0 o d (ck b a n).g (ck b a n).w->False:=by
  intro m X h;induction h with
  |refl m=>
   intro e n o d e2 _ _ hb _ _ _ j;rw[e2,vN]at e;obtain⟨e3,e4⟩:=iK e;rw[e3,e4]at j;exact hb.1 (hS _ _ _ _ j t)
  | @head m m1 m2 h0 hs y ih=>
    intro e n o d e2 Q hd hb a6 a1 a4 j;subst e e2;obtain⟨⟨D2,S,U,N,_⟩,V,O⟩:=j;obtain⟨g1,P,es,u,a7,s,ae⟩:=Fh E hI a1 N.ok O hs y;have j:jR G D0 o d (ck b a n).g (ck b a n).w:=⟨⟨D2,S,U,N,‹_›⟩,V,O⟩;by_cases R:(ck b a n).good PL
    ·obtain⟨⟨ah,p⟩,a3,M,a9⟩:=z _ hb R;have a8:k n=(ck b a (n+1)).w.drawn-(ck b a n).d:=(hk n).1 R;have K:jR G D0 (ck b a n).g (kM (ck b a n).w (ck b a n).τ (ck b a n).d) o d:=a4.re rfl rfl;obtain⟨af,aa,ag,q1,q2,q3,q4,q5,q6⟩:=K.step E hB p a3 λi hi=>by have ad:(ck b a n).d+i<(b (ck b a n)).w.drawn:=hi;have hc:ck b a (n+1)=b (ck b a n):=rfl;rw[Q,hd];exact hT n i (by rw[a8,hc];omega)
     rw[u]at q1;cases q1;have ac:(ck b a n).d<=(ck b a (n+1)).w.drawn:=q4;have ab:P.drawn+(ck b a n).d=(ck b a (n+1)).w.drawn+d.drawn:=q5;have v:P.drawn=kS k (n+1):=by show P.drawn=kS k n+k n;omega
     have l:jR G D0 o d (ck b a n).g (kM (ck b a n).w (ck b a n).τ (ck b a n).d):=j.re rfl rfl;obtain⟨B,r,C,W,r2,r3,r4,r5,r6⟩:=l.step E hB u s λi hi=>by show(ck b a n).τ ((ck b a n).d+i)=d.tape (d.drawn+i);rw[Q,hd];refine(hT n i ?_).symm;have:kS k (n+1)=kS k n+k n:=rfl;omega
     have D:(ck b a n).step PL= .go B r C:=W;rw[p]at D;cases D;exact ih rfl (n+1) g1 P a7 (q6.trans Q) v a9 M s q3 r3
    ·have l:jR G D0 o d (ck b a n).g (kM (ck b a n).w (ck b a n).τ (ck b a n).d):=j.re rfl rfl;obtain⟨B,r,C,W,r2,_⟩:=l.step E hB u s λi hi=>by show(ck b a n).τ ((ck b a n).d+i)=d.tape (d.drawn+i);rw[Q,hd];exact(zA A (λn=>(hk n).2) hT R i).symm
     exact R ⟨a6,B,r,C,W,r2⟩
 have a5:jR G D0 a.g a.w q (kM w0 T 0):=by rw[H,F];exact hp.re rfl rfl
 have L:jR G D0 q (kM w0 T 0) a.g a.w:=by rw[H,F];exact hp.re rfl rfl
 exact Y _ _ J rfl 0 q (kM w0 T 0) rfl rfl rfl Z a0 a2 a5 L
end
end
section
open Go
def fo(P:Program)(fs:Array Func):Program:={P with funcs:=fs,inits:=#[]}
section
variable(P:Program)(fs:Array Func)
theorem lR:(fo P fs).types=P.types:=by unfold fo;rfl
theorem yz:(fo P fs).cutTypes=P.cutTypes:=by unfold fo;rfl
theorem rq:∀(f:Nat) (t:TypeId),XC (fo P fs).toTables f t=XC P.toTables f t
 |0,_=>rfl
 |f+1,t=>by have a:XC (fo P fs).toTables f=XC P.toTables f:=funext (rq f);simp only[XC,lR,a]
theorem fc(t:TypeId):(fo P fs).info? t=P.info? t:=by simp only[a53,lR,rq]
theorem cV(t:TypeId):(fo P fs).underlying t=P.underlying t:=by simp only[Program.underlying,fc]
theorem lQ(t:TypeId):(fo P fs).underlyingId t=P.underlyingId t:=by simp only[Program.underlyingId,fc]
theorem eJ(t:TypeId):(fo P fs).cellsOf t=P.cellsOf t:=by simp only[Program.cellsOf,fc]
theorem fy(t:TypeId):(fo P fs).bytesOf t=P.bytesOf t:=by simp only[Program.bytesOf,fc]
theorem dG:(fo P fs).depth=P.depth:=by simp only[Program.depth,lR]
theorem qn:∀(n:Nat) (t u:TypeId),(fo P fs).alikeButTags n t u=P.alikeButTags n t u
 |0,_,_=>rfl
 |n+1,t,u=>by simp only[Program.alikeButTags,fc,qn n]
theorem lS(t:TypeId):(fo P fs).stoodInHeld t=P.stoodInHeld t:=by simp only[Program.stoodInHeld,Program.stoodInAs,cV,lQ,fc,yz,dG,qn]
theorem yy(t:TypeId):(fo P fs).packed t=P.packed t:=by simp only[Program.packed,Program.packedAs,Program.ownRow,cV,lQ,fc,yz,dG,qn]
theorem jV:∀(d:Nat) (t:TypeId) (o:Nat),byteOfCell (fo P fs) d t o=byteOfCell P d t o
 |0,_,_=>rfl
 |d+1,t,o=>by simp only[byteOfCell,cV,eJ,fy,jV d]
theorem pq:∀(d:Nat) (t:TypeId) (o:Nat),cellHolding (fo P fs) d t o=cellHolding P d t o
 |0,_,_=>rfl
 |d+1,t,o=>by simp only[cellHolding,cV,eJ,fy,pq d]
theorem tr:∀(d:Nat) (t:TypeId) (o:Nat),plainCell (fo P fs) d t o=plainCell P d t o
 |0,_,_=>rfl
 |d+1,t,o=>by simp only[plainCell,cV,eJ,tr d]
theorem rn:∀(d:Nat) (t:TypeId) (o:Nat),cellOfByte (fo P fs) d t o=cellOfByte P d t o
 |0,_,_=>rfl
 |d+1,t,o=>by simp only[cellOfByte,cV,eJ,fy,rn d]
theorem tn:∀(d:Nat) (t:TypeId),tight (fo P fs) d t=tight P d t
 |0,_=>rfl
 |d+1,t=>by simp only[tight,cV,fy,tn d]
theorem vq:∀(d:Nat) (t:TypeId),(fo P fs).holdsStoodIn d t=P.holdsStoodIn d t
 |0,_=>rfl
 |d+1,t=>by simp only[Program.holdsStoodIn,cV,lS,vq d]
theorem kV:∀(d:Nat) (t:TypeId),(fo P fs).holdsPacked d t=P.holdsPacked d t
 |0,_=>rfl
 |d+1,t=>by simp only[Program.holdsPacked,cV,yy,kV d]
theorem tu:∀(d:Nat) (t:TypeId),(fo P fs).eqGuardType d t=P.eqGuardType d t
 |0,_=>rfl
 |d+1,t=>by simp only[Program.eqGuardType,cV,tu d]
theorem rp:∀(d:Nat) (t u:TypeId),sameLayout (fo P fs) d t u=sameLayout P d t u
 |0,_,_=>rfl
 |d+1,t,u=>by simp only[sameLayout,cV,lQ,lS,rp d]
theorem yx(a:TypeId->Bool):∀(d:Nat) (e:TypeId) (c o n:Nat),rowAt (fo P fs) a d e c o n=rowAt P a d e c o n
 |0,_,_,_,_=>rfl
 |d+1,e,c,o,n=>by simp only[rowAt,cV,eJ,lS,yx a d]
theorem vp:∀(d:Nat) (e:TypeId) (n o:Nat) (u:TypeId) (m:Nat),liesAt (fo P fs) d e n o u m=liesAt P d e n o u m
 |0,_,_,_,_,_=>rfl
 |d+1,e,n,o,u,m=>by simp only[liesAt,cV,yx,rp,dG,vp d]
theorem wR(d:Nat)(e:TypeId)(n o:Nat)(b:Int):cellAtBytes (fo P fs) d e n o b=cellAtBytes P d e n o b:=by simp only[cellAtBytes,eJ,fy,jV,rn]
theorem EG(a:∀t i z,P.info? t=some i->i.zero=some z->bQ z=true):bO (fo P fs) P:=
 ⟨fc P fs,cV P fs,λt i z h=>a t i z (by rw[←fc P fs];exact h),by unfold fo;rfl,eJ P fs,fy P fs,λt o=>by rw[dG,jV],λe n o u m=>by rw[dG,vp],λe n o b=>by rw[dG,wR],λe=>by rw[dG,vq],λt=>by rw[dG,tu],lS P fs,by rw[lR],λt=>by rw[dG,kV]⟩
theorem mP(c:Array Value)(e:TypeId):∀(f x a:Nat),seenCells (fo P fs) c e f x a=seenCells P c e f x a
 |0,_,_=>rfl
 |f+1,x,a=>by simp only[seenCells,eJ,fy,dG,pq,mP c e f]
theorem vo(w:World)(a:Addr)(u:TypeId)(k:Addr)(b:Bool):w.seen (fo P fs) a u k b=w.seen P a u k b:=by simp only[ZD,tr,jV,eJ,fy,mP,dG]
theorem EH(w:World)(a:Addr)(b:Bool):w.farLoad P a b=w.farLoad (fo P fs) a b:=by simp only[Vw,Zh,vo]
theorem Bb(w:World)(a:Addr)(v:Value)(b:Bool):w.farStore P a v b=w.farStore (fo P fs) a v b:=by simp only[Vf,Xw,vo,tn,dG]
end
def oj(f:Func):Func:={f with name:= "none",origin:= "none",body:=none}
theorem Do:(Extern.allGenericRows.lookup "none").isNone=true∧(Extern.allTypedRows.lookup "none").isNone=true∧(Extern.allRows.lookup "none").isNone=true∧(Extern.allNextRows.lookup "none").isNone=true:=by refine⟨?_, ?_, ?_, ?_⟩<;>kernel_rfl
theorem FJ(f:Func):Y2 (oj f)=none:=by obtain⟨c,b,a,_⟩:=Do;rw[Wu]at c b a;simp only[Y2,oj,c,b,a];rfl
theorem FH(f:Func):WY (oj f)=none:=by obtain⟨_,_,_,a⟩:=Do;rw[Wu]at a;simp only[WY,oj,a];rfl
theorem FI(f:Func):((oj f).name.endsWith ".init" && !(oj f).name.startsWith "(" && !(oj f).name.startsWith "gosem.")=false:=by show("none".endsWith ".init" && ! "none".startsWith "(" && ! "none".startsWith "gosem.")=false;kernel_rfl
def CI(info:TypeId->Option TypeInfo):Prop:=∀t i z,info t=some i->i.zero=some z->bQ z=true
theorem vC:∀{l:List Value},(∀v∈l,bQ v=true)->ma l=true
 |[],_=>rfl
 |x::r,h=>by simp only[ma,IN];exact⟨h x Wm,vC λv hv=>h v (W7 _ hv)⟩
theorem vB{cs:Array Value}(h:∀x∈cs,bQ x=true):bQ (.agg cs)=true:=by obtain⟨l⟩:=cs;simp only[bQ];exact vC λv a=>h v (by simpa using a)
theorem ry(h:bQ v=true):∀x∈v.cells,bQ x=true:=by
 intro x a;cases v with
 |agg b=>
  simp only[XB]at a;obtain⟨l⟩:=b;simp only[bQ]at h;exact ik h x (by simpa using a)
 |_=>simp only[XB,Array.mem_singleton]at a;rw[a];exact h
theorem vW{d c:Type}(p:c->Prop)(f:d->c->Option (ForInStep c))(g:∀a s r,p s->f a s=some r->p r.value):∀(l:List d) (s r:c),p s->forIn l s f=some r->p r
 |[],s,r,hs,e=>by simp only[a32]at e;cases e;exact hs
 |a::l,s,r,hs,e=>by
  simp only[Z3]at e;cases h:f a s with
  |none=>rw[h]at e;cases e
  |some q=>
   rw[h]at e;have:=g a s q hs h;cases q with
   |done b=>cases e;exact this
   |yield b=>exact vW p f g l b r this e
theorem Ed{c:TypeId->Option TypeInfo}(j:CI c){i:TypeInfo}(k:c t=some i){z:Option (Array Value)}(g:∀d,z=some d->∀x∈d,bQ x=true){d:Array Value}
 (h:(if n>m then none else(do let a←z;let b←i.zero;pure (a++b.cells):Option (Array Value)))=some d):∀x∈d,bQ x=true:=by
 split at h
 ·cases h
 ·cases z with
  |none=>cases h
  |some a=>
   cases f:i.zero with
   |none=>rw[f]at h;cases h
   |some b=>
    rw[f]at h;cases h;intro x e;rcases Ur.1 e with e|e
    ·exact g a rfl x e
    ·exact ry (j t i b k f) x e
theorem ye{info:TypeId->Option TypeInfo}(hi:CI info){fs:Array Field}{i:TypeInfo}{z:Value}(h:ZW info fs=some i)(hz:i.zero=some z):bQ z=true:=by
 unfold ZW at h;rw[VC,Uy]at h;obtain⟨r,hr,h⟩:=h;rw[←Xy]at hr;have key:=vW (λs:Array Field×Nat×Nat×Nat×Nat×Bool×Bool×Option (Array Value)×String=>∀zs,s.2.2.2.2.2.2.2.1=some zs->∀x∈zs,bQ x=true) _ (λf s r hs e=> ?_) fs.toList _ r (λzs hzs x hx=> ?_) hr
 ·simp only[Wc]at h;split at h<;>cases h<;>(simp only[U1]at hz;obtain⟨zs,h1,rfl⟩:=hz;exact vB (key zs h1))
 ·cases he:info f.type with
  |none=>rw[he]at e;cases e
  |some j=>
   rw[he]at e;simp only[VC,Ug]at e;intro zs hzs;refine Ed hi he hs (n:=s.2.1+j.size) (m:=Made.mostCells) ?_;rw[←hzs];revert e
   (repeat' split)<;>intro e<;>first
     |(cases e;done)
     |(simp only[Uy,Wc,Option.some.injEq,exists_eq_left']at e;obtain rfl:=e;rfl)
     |(simp only[Uy]at e;obtain⟨_,_,e⟩:=e;revert e;(repeat' split)<;>intro e<;>cases e<;>rfl)
 ·cases hzs;simp at hx
theorem Ee{g:TypeId->Option TypeInfo}(o:CI g){d:TypeDesc}{i:TypeInfo}{z:Value}(h:a59 g d=some i)(c:i.zero=some z):bQ z=true:=by
 unfold a59 at h;have b:∀{x:Option String} {f:String->TypeInfo} {v:Value},(∀s,(f s).zero=some v)->bQ v=true->(x.bind λs=>some (f s))=some i->bQ z=true:=by
  intro x f v A t e;cases x with
  |none=>cases e
  |some s=>
   cases e;rw[A s]at c;cases c;exact t
 cases d with
 |struct H=>exact ye o h c
 |pointer e=>
  simp only[VC,Wc]at h;rw[Uy]at h;obtain⟨j,m,h⟩:=h;split at h
  ·cases h
  ·split at h
   ·cases h
   ·exact b (v:= .pointer none) (λ_=>rfl) rfl h
  ·exact b (v:= .pointer none) (λ_=>rfl) rfl h
 |slice e=>
  simp only[VC,Wc]at h;rw[Uy]at h;obtain⟨j,m,h⟩:=h;exact b (v:= .slice none 0 0) (λ_=>rfl) rfl h
 |map k e=>
  simp only[VC,Wc]at h;rw[Uy]at h;obtain⟨j,m,h⟩:=h;rw[Uy]at h;obtain⟨F,w,h⟩:=h;rw[Uy]at h;obtain⟨E,u,h⟩:=h;exact b (v:= .map none) (λ_=>rfl) rfl h
 |chan B e=>
  simp only[VC,Wc]at h;rw[Uy]at h;obtain⟨j,m,h⟩:=h;exact b (v:= .chan none) (λ_=>rfl) rfl h
 |func D C v=>
  simp only[VC,Wc]at h;exact b (v:= .nilFunc) (λ_=>rfl) rfl h
 |array n e=>
  simp only[VC,Wc]at h;rw[Uy]at h;obtain⟨j,m,h⟩:=h;rw[Uy]at h;obtain⟨s,G,h⟩:=h;cases h;simp only at c;split at c
  ·cases c
  ·split at c
   ·cases c;rfl
   ·rw[U1]at c;obtain⟨y,q,rfl⟩:=c;refine vB λx r=> ?_;obtain⟨a,p,l⟩:=Array.mem_flatten.1 r;rw[Zu]at p;rw[p.2]at l;exact ry (o e j y m q) x l
 |_=>cases h
theorem rf(P:Program)(b:∀i∈P.types,∀z,i.zero=some z->bQ z=true):∀f,CI (XC P.toTables f)
 |0=>λ_ _ _ h=>by cases h
 |f+1=>λt i z h a=>by
  unfold XC at h;split at h
  ·exact b i (UA h) z a
  ·rw[Uy]at h;obtain⟨d,_,h⟩:=h;exact Ee (rf P b f) h a
theorem Ef(P:Program)(b:∀i∈P.types,∀z,i.zero=some z->bQ z=true)(t:TypeId)(i:TypeInfo)(z:Value)(h:P.info? t=some i)(a:i.zero=some z):bQ z=true:=by
 unfold a53 at h;split at h
 ·exact b i (UA h) z a
 ·exact rf P b _ t i z h a
theorem Ao(args:Array Value):aF ρ PL PM (aD ρ) (XD args) (XD (args.map (aD ρ))):=by
 obtain⟨l⟩:=args;cases l with
 |nil=>exact .dead trivial
 |cons x l=>
  cases l with
  |nil=>
   rw[show Ww (aD ρ) ⟨[x]⟩=#[aD ρ x]from s_];exact .pure x
  |cons y l=>exact .dead trivial
theorem pT:∀(n t:Nat) (a:Array Value),(∀v∈a,bQ v=true)->∀v∈Vd n t a,bQ v=true
 |0,_,_,h=>h
 |n+1,t,a,h=>pT n _ _ λv hv=>by
  rcases Xi.1 hv with hv|hv
  ·exact h v hv
  ·rw[hv];rfl
theorem uR(j:bO PL PM)(h rs:Array TypeId)(args:Array Value):aF ρ PL PM (aD ρ) (VK h rs args) (VK h rs (args.map (aD ρ))):=by
 obtain⟨l⟩:=args;cases l with
 |nil=>exact .dead trivial
 |cons x l=>
  cases l with
  |cons y l=>cases x<;>exact .dead trivial
  |nil=>
   cases x with
   |int k n=>
    cases k with
    |i64=>
     rw[show Ww (aD ρ) ⟨[.i n]⟩=#[.i n]from by simp[aD]];unfold VK;cases rs[0]? with
     |none=>exact .dead trivial
     |some t=>
      dsimp only;refine(aY j t).bind λd=> ?_;cases d with
      |slice e=>
       dsimp only[id];have g:aF ρ PL PM (aD ρ) (do let c←choose (.appendCap n.toNat 0 e);askRoom c;let bytes←choose (.extern "internal/bytealg.MakeNoZero.bytes" 0);let a←newRow e (Vd c bytes #[]);pure (.slice (some a) n.toNat c)) (do let c←choose (.appendCap n.toNat 0 e);askRoom c;let bytes←choose (.extern "internal/bytealg.MakeNoZero.bytes" 0);let a←newRow e (Vd c bytes #[]);pure (.slice (some a) n.toNat c)):=by refine aF.bind (f:=id) (.choose λn=> .pure n) λc=> ?_;refine(jL c).bind λ_=> ?_;refine aF.bind (f:=id) (.choose λn=> .pure n) λb=> ?_;have o:(Vd c b #[]).map (aD ρ)=Vd c b #[]:=iP λv m=>dS ρ v (pT c b #[] s_ v m);have i:=fQ (ρ:=ρ) (PL:=PL) (PM:=PM) e (Vd c b #[]);rw[o]at i;exact i.bind λa=>aP _ (by simp[aD])
       split
       ·exact(jH (f:=id) j rfl).bind λ_=>g
       ·exact g
      |_=>exact .dead trivial
    |_=>exact .dead trivial
   |_=>exact .dead trivial
def pL(K:FuncId)(sk:Func)(ext:FuncId->Bool)(i:Nat)(f:Func):Func:=
 if i=K then sk else if ext i then f else match f.body with
  |some c=>if oa i c then f else oj f
  |none=>oj f
def fS(P:Program)(K:FuncId)(sk:Func)(ext:FuncId->Bool):Program:=fo P (P.funcs.mapIdx (pL K sk ext))
structure so (P:Program) (K:FuncId) (sk:Func) (ext:FuncId->Bool) (G:Nat):Prop where
 zero:∀i∈P.types,∀z,i.zero=some z->bQ z=true
 glob:P.globals.size=G
 tab:eN<G
 names:∀f∈P.funcs,f.name≠ "runtime.NumGoroutine"
 ty:E7 P
 ex:j1<P.funcs.size
 lw:xA<P.funcs.size
 lwr:xA≠j1->∀fn,P.funcs[xA]?=some fn->fn.results.all (Jz 2)=true
 exr:∀fn,P.funcs[j1]?=some fn->fn.results.all (Jz 1)=true
 kex:dm K=0
 d1:fF≠K/\ext fF=false/\∃fn c,P.funcs[fF]?=some fn/\fn.body=some c/\oa fF c=true
 z3:Lv<P.funcs.size/\Lw<P.funcs.size/\fF<P.funcs.size
 kfn:∃fn,P.funcs[K]?=some fn/\fn.body.isSome=true/\sk.results=fn.results
 kbody:∃c,sk.body=some c/\j3 0 c=true
 kname:sk.name≠ "runtime.NumGoroutine"
 ext:∀i fn,ext i=true->P.funcs[i]?=some fn->fn.body=none/\WY fn=none/\∃e,Y2 fn=some e/\∀(ρ:Nat->Nat) (PL PM:Program),bO PL PM->∀args,aF ρ PL PM (aD ρ) (e args) (e (args.map (aD ρ)))
section
variable{K:FuncId}{sk:Func}{ext:FuncId->Bool}{G:Nat}
theorem pK(f:Nat):(fS P K sk ext).funcs[f]?=(P.funcs[f]?).map (pL K sk ext f):=by unfold fS fo;simp only[Wr]
theorem ln(a:(fS P K sk ext).funcs[f]?=some fn):∃b,P.funcs[f]?=some b/\
 ((f=K/\fn=sk)\/(f≠K/\ext f=true/\fn=b)\/(f≠K/\fn=b/\∃c,fn.body=some c/\oa f c=true)\/(f≠K/\fn=oj b)):=by
 rw[pK]at a;cases i:P.funcs[f]? with
 |none=>rw[i]at a;cases a
 |some g=>
  rw[i]at a;simp only[TE,Option.some.injEq]at a;refine⟨g,rfl, ?_⟩;unfold pL at a;split at a
  ·rename_i e;exact .inl ⟨e,a.symm⟩
  ·rename_i d;split at a
   ·rename_i e;exact .inr (.inl ⟨d,e,a.symm⟩)
   ·cases h:g.body with
    |none=>rw[h]at a;exact .inr (.inr (.inr ⟨d,a.symm⟩))
    |some c=>
     rw[h]at a;simp only at a;split at a
     ·rename_i j;subst a;exact .inr (.inr (.inl ⟨d,rfl,c,h,j⟩))
     ·exact .inr (.inr (.inr ⟨d,a.symm⟩))
theorem nS(h:so P K sk ext G):bO (fS P K sk ext) P:=EG P _ λt i z b a=>Ef P h.zero t i z b a
theorem vr(h:bO PL PM):bO PL PL:=⟨λ_=>rfl,λ_=>rfl,h.zero,rfl,λ_=>rfl,λ_=>rfl,λ_ _=>rfl,λ_ _ _ _ _=>rfl,λ_ _ _ _=>rfl,λ_=>rfl,λ_=>rfl,λ_=>rfl,rfl,λ_=>rfl⟩
theorem Dw(h:so P K sk ext G){PM:Program}(u:bO (fS P K sk ext) PM)(v:∀(f:FuncId) (fn:Func),(fS P K sk ext).funcs[f]?=some fn->∃a:Func,PM.funcs[f]?=some a/\(a=fn\/P.funcs[f]?=some a))(r:Nat->Nat)(g:FuncId):iv r (fS P K sk ext) PM g:=by
 intro fn s;obtain⟨a,j,m⟩:=ln s;obtain⟨q,l,d⟩:=v g fn s;have b:a.name≠ "runtime.NumGoroutine" :=h.names a (UA j);rcases m with⟨rfl,rfl⟩|⟨m,t,rfl⟩|⟨m,rfl,c,k,_⟩|⟨m,rfl⟩
 ·obtain⟨c,k,_⟩:=h.kbody;refine⟨h.kname, .inl ⟨by rw[k];rfl,q,l, ?_⟩⟩;rcases d with rfl|o
  ·exact⟨by rw[k];rfl,h.kname⟩
  ·rw[j]at o;cases o;obtain⟨x,n,p,_⟩:=h.kfn;rw[j]at n;cases n;exact⟨p,b⟩
 ·obtain⟨w,o,e,n,p⟩:=h.ext g fn t j;refine⟨b, .inr (.inr ⟨w,o, ?_,e,n,p r _ _ u⟩)⟩;rcases d with rfl|i
  ·exact l
  ·rw[j]at i;cases i;exact l
 ·refine⟨b, .inl ⟨by rw[k];rfl,q,l, ?_⟩⟩;have:q=fn:=by
   rcases d with i|i
   ·exact i
   ·rw[j]at i;cases i;rfl
  subst this;exact⟨by rw[k];rfl,b⟩
 ·exact⟨by show "none" ≠ "runtime.NumGoroutine";decide, .inr (.inl ⟨rfl,FH _,FJ _,FI _⟩)⟩
theorem zv(h:so P K sk ext G)(m:(fS P K sk ext).funcs[f]?=some fn):∃a,P.funcs[f]?=some a/\a.results=fn.results/\fn.results.all (Jz (dm f))=true:=by
 obtain⟨a,i,l⟩:=ln m;have b:a.results.all (Jz (dm f))=true:=by
  by_cases g:f=j1
  ·subst g;rw[fV];exact h.exr a i
  ·by_cases d:f=xA
   ·have c:dm f=2:=(by unfold dm;rw[if_neg g,if_pos d]);rw[c];exact h.lwr (λe=>g (d.trans e)) a (d▸i)
   ·have c:dm f=3\/dm f=0:=by
     unfold dm;rw[if_neg g,if_neg d];split
     ·exact .inl rfl
     ·exact .inr rfl
    rw[Uv];intro r _;rcases c with c|c<;>rw[c]<;>cases r<;>rfl
 refine⟨a,i, ?_⟩;rcases l with⟨rfl,rfl⟩|⟨_,_,rfl⟩|⟨_,rfl,_⟩|⟨_,rfl⟩
 ·obtain⟨n,k,_,j⟩:=h.kfn;rw[i]at k;cases k;exact⟨j.symm,by rw[j];exact b⟩
 ·exact⟨rfl,b⟩
 ·exact⟨rfl,b⟩
 ·exact⟨rfl,b⟩
theorem Du(h:so P K sk ext G):E7 (fS P K sk ext):=by obtain⟨d,b,a⟩:=h.ty;exact⟨d,by unfold fS;rw[cV];exact b,a⟩
theorem jh:(fS P K sk ext).funcs.size=P.funcs.size:=by unfold fS fo;simp
theorem Dx(h:so P K sk ext G):∃fn c,(fS P K sk ext).funcs[fF]?=some fn/\P.funcs[fF]?=some fn/\fn.body=some c/\oa fF c=true:=by obtain⟨f,e,fn,c,d,b,a⟩:=h.d1;refine⟨fn,c, ?_,d,b,a⟩;rw[pK,d];simp only[TE,pL,if_neg f,e,TK,↓reduceIte,b,a]
theorem zR(h:so P K sk ext G):kK (fS P K sk ext) P G where
 same:=nS h
 gl:=h.glob
 tab:=h.tab
 gm:=h.glob
 load w a b:=EH P _ w a b
 store w a v b:=Bb P _ w a v b
 fn ρ g:=Dw h (nS h) (λf fn hf=>by obtain⟨fn',hp,_⟩:=ln hf;exact⟨fn',hp, .inr hp⟩) ρ g
 ty:=Du h
 mix:=rfl
 ex:=by rw[jh];exact h.ex
 lw:=by rw[jh];exact h.lw
 res f fn hf:=zv h hf
 none f hf:=by rw[pK]at hf;simpa using hf
 inits:=rfl
 d1:=by obtain⟨fn,c,h1,h2,h3,h4⟩:=Dx h;exact⟨fn,fn,h1,h2,rfl,rfl,c,h3,h4⟩
 z3:=by rw[jh];exact h.z3
theorem zQ(h:so P K sk ext G):kK (fS P K sk ext) (fS P K sk ext) G where
 same:=vr (nS h)
 gl:=h.glob
 tab:=h.tab
 gm:=h.glob
 load _ _ _:=rfl
 store _ _ _ _:=rfl
 fn ρ g:=Dw h (vr (nS h)) (λf fn hf=>⟨fn,hf, .inl rfl⟩) ρ g
 ty:=Du h
 mix:=rfl
 ex:=by rw[jh];exact h.ex
 lw:=by rw[jh];exact h.lw
 res f fn hf:=by obtain⟨_,_,_,h3⟩:=zv h hf;exact⟨fn,hf,rfl,h3⟩
 none f hf:=hf
 inits:=rfl
 d1:=by obtain⟨fn,c,h1,h2,h3,h4⟩:=Dx h;exact⟨fn,fn,h1,h1,rfl,rfl,c,h3,h4⟩
 z3:=by rw[jh];exact h.z3
theorem rJ(h:so P K sk ext G)(f:FuncId)(fn:Func)(c:Code)(i:(fS P K sk ext).funcs[f]?=some fn)(d:fn.body=some c):oa f c=true:=by
 obtain⟨l,e,g⟩:=ln i;rcases g with⟨rfl,rfl⟩|⟨_,j,rfl⟩|⟨_,rfl,m,b,a⟩|⟨_,rfl⟩
 ·obtain⟨m,b,a⟩:=h.kbody;rw[d]at b;cases b;exact Oe h.kex a
 ·obtain⟨k,_⟩:=h.ext f fn j e;rw[k]at d;cases d
 ·rw[d]at b;cases b;exact a
 ·cases d
theorem rH(h:so P K sk ext G)(f:FuncId)(fn:Func)(d:(fS P K sk ext).funcs[f]?=some fn)(b:fn.body.isSome=true)(j:f≠K):j6 (fS P K sk ext) P f:=by
 obtain⟨l,c,e⟩:=ln d;rcases e with⟨rfl,_⟩|⟨_,g,rfl⟩|⟨_,rfl,m,i,a⟩|⟨_,rfl⟩
 ·exact absurd rfl j
 ·obtain⟨k,_⟩:=h.ext f fn g c;rw[k]at b;cases b
 ·exact⟨fn,fn,d,c,rfl,rfl,m,i,a⟩
 ·cases b
end
end
section
open Go.RowKit
theorem si(op:BinOp)(x y:Int):0<=bits op .u64 x y:=by unfold bits;simp only[Vz];omega
def EK(x k:Int):Int:=
 bits .or .u32 (UL.wrap (x*2^min (bits .and .u64 (UV.wrap k) 31).toNat 32)) (x/2^min (UV.wrap (32- bits .and .u64 (UV.wrap k) 31)).toNat 32)
def iA(x a b c:Int):Int:=bits .xor .u32 (bits .xor .u32 (EK x (-a)) (EK x (-b))) (EK x (-c))
def mN(x a b c:Int):Int:=bits .xor .u32 (bits .xor .u32 (EK x (-a)) (EK x (-b))) (x/2^c.toNat)
theorem Db{a b:List UInt8}(h:a=b):Wx (.string ⟨a.toArray⟩)= .returned (.string ⟨b.toArray⟩):=by rw[h]
def fq(l:List UInt8):Int:=l.foldl (λn b=>256*n+(b.toNat:Int)) 0
theorem vJ(l:List UInt8)(b:UInt8):fq (l++[b])=256*fq l+(b.toNat:Int):=by simp[fq,List.foldl_append]
theorem zh(n:Nat):∀l:List UInt8,l.length=n->0<=fq l/\fq l<256^n:=by
 induction n with
 |zero=>intro l h;rw[List.length_eq_zero_iff]at h;subst h;simp[fq]
 |succ n a=>
  intro l h;obtain⟨r,b,rfl⟩:∃r b,l=r++[b]:=⟨l.dropLast,l.getLast (by intro c;simp[c]at h),(List.dropLast_concat_getLast _).symm⟩;have:=a r (by simp at h;omega);rw[vJ];have d:=b.toNat_lt;rw[Int.pow_succ];omega
theorem pG(l:List UInt8)(n:Nat)(h:l.length<=n):0<=fq l/\fq l<256^n:=by have a:=zh _ l rfl;refine⟨a.1,Int.lt_of_lt_of_le a.2 ?_⟩;have d:=Nat.pow_le_pow_right (n:=256) d_ h;have c:=UY 256 l.length;have b:=UY 256 n;rw[show((256:Nat):Int)=256 from rfl]at c b;rw[←c,←b];exact Int.ofNat_le.2 d
theorem Hw(n:Int)(b:UInt8)(a:0<=n)(d:n<72057594037927936):bits .or .u64 (n*256) (UV.wrap (b.toNat:Int))=256*n+(b.toNat:Int):=by
 have c:=b.toNat_lt;obtain⟨m,rfl⟩:=Int.eq_ofNat_of_zero_le a;rw[Vz,Int.emod_eq_of_lt o_ o_];have e:((m:Int)*256)=((m*256:Nat):Int):=o_
 rw[e,u64_or_nat _ _ o_ o_,nat_join 8 (m*256) b.toNat o_ o_];omega
theorem KT{k:IntKind}{a b:Int}(h:a=b):Wx (.int k a)= .returned (.int k b):=by rw[h]
def cY(n:Nat):Nat->List UInt8
 |0=>[]
 |k+1=>cY (n/256) k++[Zk n]
theorem db(k:Nat):∀n,(cY n k).length=k:=by
 induction k with
 |zero=>intro n;rfl
 |succ k a=>intro n;simp[cY,a]
theorem vI(j:Nat):∀n,cY n (j+1)=Zk (n/256^j)::cY n j:=by
 induction j with
 |zero=>intro n;simp[cY]
 |succ j a=>
  intro n;rw[cY,a (n/256),cY,Nat.div_div_eq_div_mul,←Nat.pow_succ',UD]
def bH(l:List UInt8):List Value:=l.map λb=>Value.int .u8 (b.toNat:Int)
theorem cz(l:List UInt8):(bH l).length=l.length:=by simp[bH]
def Em(n k m:Nat):List Value:=TZ m (Value.int .u8 0)++bH (cY n (k- m))
theorem AR(n k m:Nat)(h:m<=k):(Em n k m).length=k:=by simp[Em,cz,db];omega
theorem El(n k:Nat):Em n k k=TZ k (Value.int .u8 0):=by simp[Em,cY,bH]
theorem JN(n k:Nat):Em n k 0=bH (cY n k):=by simp[Em]
theorem JM(n k p:Nat):(Em n k (p+1))[p]?=some (Value.int .u8 0):=by rw[Em,Ue s_];simp
theorem JL(n k p:Nat)(h:p<k)(v:Int)(hv:v=((n/256^(k-(p+1)))%256:Nat)):(Em n k (p+1)).set p (Value.int .u8 v)=Em n k p:=by subst hv;rw[Em,Em,show k- p=(k-(p+1))+1 from o_,vI,List.replicate_succ',bH,bH,TP,List.append_assoc,Vo _ _ s_];simp
def aH(l:List Int):List Value:=l.map λx=>Value.int .u32 x
theorem bG(l:List Int):(aH l).length=l.length:=by simp[aH]
def Gk(B:List UInt8)(i:Nat):Int:=UL.wrap (fq ((B.drop (4*i)).take 4))
def Dq(W:List Int)(i:Nat):Int:=
 UL.wrap (UL.wrap (UL.wrap (W.getD (i- 16) 0+mN (W.getD (i- 15) 0) 7 18 3)+W.getD (i- 7) 0)+mN (W.getD (i- 2) 0) 17 19 10)
theorem Hz(W:List Int)(m:Nat):Dq W (m+16)=UL.wrap (UL.wrap (UL.wrap (W.getD m 0+mN (W.getD (m+1) 0) 7 18 3)+W.getD (m+9) 0)+mN (W.getD (m+14) 0) 17 19 10):=by rw[Dq,show m+16- 16=m from o_,show m+16- 15=m+1 from o_,show m+16- 7=m+9 from o_,show m+16- 2=m+14 from o_]
def cX(B:List UInt8):Nat->List Int
 |0=>[]
 |k+1=>cX B k++[if k<16 then Gk B k else Dq (cX B k) k]
theorem dk(B:List UInt8)(k:Nat):(cX B k).length=k:=by
 induction k with
 |zero=>rfl
 |succ k a=>simp[cX,a]
def dY(B:List UInt8)(k:Nat):List Int:=cX B k++TZ (64- k) 0
theorem uB(B:List UInt8)(k:Nat)(h:k<=64):(dY B k).length=64:=by simp[dY,dk];omega
theorem tv(B:List UInt8)(k:Nat)(h:k<64)(v:Int)(hv:v=if k<16 then Gk B k else Dq (cX B k) k):(aH (dY B k)).set k (.int .u32 v)=aH (dY B (k+1)):=by subst hv;rw[dY,dY,show 64- k=(64-(k+1))+1 from o_,List.replicate_succ,aH,aH,cX];rw[VM,Vo _ _ (by simp[dk])];simp[dk]
theorem lV(B:List UInt8)(k j:Nat)(h:j<k):(aH (dY B k))[j]?=some (.int .u32 ((cX B k).getD j 0)):=by rw[dY,aH,VM,Ue (by simp[dk];omega)];simp[dk,h]
theorem rr(B:List UInt8)(k:Nat)(a:k<64):(aH (dY B k))[k]?=some (.int .u32 0):=by rw[dY,aH,VM,List.getElem?_append_right (by simp[dk])];rw[List.map_replicate,List.getElem?_replicate,if_pos (by simp[dk];omega)]
theorem yD(B:List UInt8):dY B 64=cX B 64:=by simp[dY]
theorem ir(l:List Int):∀v∈aH l,v.oneCell'=true:=by intro v a;simp only[aH,Wh]at a;obtain⟨x,_,rfl⟩:=a;rfl
theorem ub(l:List UInt8):∀v∈bH l,v.oneCell'=true:=by intro v a;simp only[bH,Wh]at a;obtain⟨x,_,rfl⟩:=a;rfl
theorem ii{p:Tmp}{ty:TypeId}(h:fn.results=#[.cell p ty])(tmps:Array Value)(w:World)(b o:Nat)(cs:List Value)(d:TypeDesc)
 (e:tmps.getD p undef= .pk b o) (i:w.rangeAt b o cs)
 (c:P.underlying ty=some d) (g:d.isRow=true) (f:(P.info? ty).map (·.size)=some cs.length):
 (results fn tmps).run P w= .ok (.agg cs.toArray) w:=by
 have a:tmps[p]?.getD undef= .pk b o:=by simpa using e
 simp[results,h,a,asAddr,run_loadVar_mid w b o ty cs d i c g f]
theorem dU{B:Nat}(a:B<=b):∀(c:List Value) (o:Nat) (w0 w:World),Below B w0 w->Below B w0 (w.setCells b o c)
 |[],_,_,_,h=>h
 |v::r,o,w0,w,h=>by rw[World.setCells];exact dU a r (o+1) w0 _ (h.setCell (p:=⟨b,o,none⟩) a v)
theorem KU{a b:List Value}(h:a=b):Wx (.agg a.toArray)= .returned (.agg b.toArray):=by rw[h]
theorem fg(z:Value)(n:Nat):madeCells #[z] n=(TZ n z).toArray:=by
 apply WI
 ·simp[madeCells]
 ·intro i b a;simp[madeCells,Nat.mod_one]
theorem ed(w:World)(L:List Value)(t:TypeId)(b:Nat)(c:b=w.heap.size):(w.alloc (.cells L.toArray t)).rangeAt b 0 L:=λj v a=>by rw[TL,Vu _ _ _ _ c];simpa using a
theorem fa(w:World)(c:Array Value)(t:TypeId)(b n:Nat)(a:b=w.heap.size)(d:c.size=n):(w.alloc (.cells c t)).there b 0 n:=λj e=>by rw[TL,Vu _ _ _ _ a,World.frozen?_alloc_at _ _ _ _ a];simp[d,e]
theorem bB{B o:Nat}{L:List Value}(h:Below B w w')(d:b<B)(c:w.rangeAt b o L):w'.rangeAt b o L:=λj v a=>by rw[h.cell (p:=⟨b,o+j,none⟩) d];exact c j v a
theorem fw{B o:Nat}(h:Below B w w')(a:b<B)(c:w.there b o n):w'.there b o n:=λj d=>by rw[h.cell (p:=⟨b,o+j,none⟩) a,h.frozen (p:=⟨b,o+j,none⟩) a];exact c j d
end
end Go.Proofs.YtkmoglhgkcnalabGreatDoor
namespace Go.Proofs.YtkmoglhgkcnalabGreatDoor
open Go.RowKit
structure St where
 a:Int
 b:Int
 c:Int
 d:Int
 e:Int
 f:Int
 g:Int
 h:Int
def St.t(s:St)(k w:Int):Int:=
 UL.wrap (UL.wrap (UL.wrap (UL.wrap (s.h+iA s.e 6 11 25)+bits .xor .u32 (bits .and .u32 s.e s.f) (bits .and .u32 (bits .xor .u32 4294967295 s.e) s.g))+k)+w)
def St.u(s:St):Int:=
 UL.wrap (iA s.a 2 13 22+bits .xor .u32 (bits .xor .u32 (bits .and .u32 s.a s.b) (bits .and .u32 s.a s.c)) (bits .and .u32 s.b s.c))
def St.next(s:St)(k w:Int):St:=
 ⟨UL.wrap (s.t k w+s.u),s.a,s.b,s.c,UL.wrap (s.d+s.t k w),s.e,s.f,s.g⟩
def St.of(H:List Int):St:=⟨H.getD 0 0,H.getD 1 0,H.getD 2 0,H.getD 3 0,H.getD 4 0,H.getD 5 0,H.getD 6 0,H.getD 7 0⟩
def St.list(s:St):List Int:=[s.a,s.b,s.c,s.d,s.e,s.f,s.g,s.h]
def dZ(K W H:List Int):Nat->St
 |0=>St.of H
 |i+1=>(dZ K W H i).next (K.getD i 0) (W.getD i 0)
def Io(K H:List Int)(B:List UInt8):List Int:=(dZ K (cX B 64) H 64).list
def i0(H G:List Int)(k:Nat):List Int:=(U5 8).map λi=>if i<k then UL.wrap (H.getD i 0+G.getD i 0)else H.getD i 0
def qF(K H:List Int)(B:List UInt8):List Int:=i0 H (Io K H B) 8
theorem pI(H G:List Int)(k:Nat):(i0 H G k).length=8:=by simp[i0]
theorem mZ(K H:List Int)(B:List UInt8):(qF K H B).length=8:=pI _ _ _
theorem zm(H G:List Int)(h:H.length=8):i0 H G 0=H:=by
 apply a07
 ·simp[i0,h]
 ·intro i h1 h2;simp[i0,List.getD,TX h2]
theorem EY(H G:List Int)(k:Nat)(h:k<8):(aH (i0 H G k))[k]?=some (.int .u32 (H.getD k 0)):=by simp[i0,aH,h]
theorem EX(H G:List Int)(k:Nat)(v:Int)(hv:v=UL.wrap (H.getD k 0+G.getD k 0)):(aH (i0 H G k)).set k (.int .u32 v)=aH (i0 H G (k+1)):=by
 subst hv;apply a07
 ·simp[i0,aH]
 ·intro i h1 h2;simp only[i0,aH,List.map_map,List.getElem_set,List.getElem_map,List.getElem_range,a46];by_cases e:k=i
  ·subst e;simp
  ·rw[if_neg e];by_cases e2:i<k
   ·rw[if_pos e2,if_pos o_]
   ·rw[if_neg e2,if_neg o_]
theorem QP(s:St)(k w:Int):(s.h+iA s.e 6 11 25+bits .xor .u32 (bits .and .u32 s.e s.f) (bits .and .u32 (bits .xor .u32 (if UL.signed=true then-1 else UL.max) s.e) s.g)+k+w)%4294967296=s.t k w:=by
 have e:(if UL.signed=true then-1 else UL.max)=(4294967295:Int):=d_
 rw[e,St.t];simp only[VA];omega
theorem Sx(s:St):(iA s.a 2 13 22+bits .xor .u32 (bits .xor .u32 (bits .and .u32 s.a s.b) (bits .and .u32 s.a s.c)) (bits .and .u32 s.b s.c))%4294967296=s.u:=by rw[St.u,VA]
theorem Og(s:St)(k w:Int):((s.h+iA s.e 6 11 25+bits .xor .u32 (bits .and .u32 s.e s.f) (bits .and .u32 (bits .xor .u32 (if UL.signed=true then-1 else UL.max) s.e) s.g)+k+w)%4294967296+
 (iA s.a 2 13 22+bits .xor .u32 (bits .xor .u32 (bits .and .u32 s.a s.b) (bits .and .u32 s.a s.c)) (bits .and .u32 s.b s.c))%4294967296)%4294967296=(s.next k w).a:=by rw[QP,Sx,St.next,VA]
theorem Of(s:St)(k w:Int):(s.d+(s.h+iA s.e 6 11 25+bits .xor .u32 (bits .and .u32 s.e s.f) (bits .and .u32 (bits .xor .u32 (if UL.signed=true then-1 else UL.max) s.e) s.g)+k+w)%4294967296)%4294967296=(s.next k w).e:=by rw[QP,St.next,VA,VA]
end Go.Proofs.YtkmoglhgkcnalabGreatDoor
namespace Go.Proofs.YtkmoglhgkcnalabGreatDoor
open Go
variable{n b i N l m k j b3 b4 b7 b9 Wg wd:Nat}{w w' w0 wL wM wE:World}{fr:Frame}{v:Value}{cs:List Frame}{args cv:Array Value}{V RO D V0:Nat->Prop}{q main listen ql:Bool}{g:Goroutine}{a:Act}{K:List Item}{P PL PM:Program}{x:Operand}{ops:Array Oper}{KS:List Int}{t u:TypeId}{o:Oper}{f:FuncId}{es:Array Event}{Goal:Goroutine->World->Prop}{fn:Func}{rest:List Nat}{ds:List Deferred}{F:List (Nat×Value)}{e:Event}{listed:Array Bool}{c:Int}{s msg key sig:ByteArray}{ρ:Nat->Nat}{ev:Operand->Value}{Post:Value->World->Prop}
section
open Go.RowKit
theorem OE(L:List Int)(k:Nat)(h:k<L.length):(aH L)[k]?=some (.int .u32 (L.getD k 0)):=by simp[aH,h]
theorem O7{o:Nat}{L:List Int}(h:w.rangeAt b o (aH L))(k:Nat)(a:k<L.length):w.cell? ⟨b,o+k,none⟩=some (.int .u32 (L.getD k 0)):=h k _ (OE L k a)
theorem gJ{L:List Int}(h:w.rangeAt b 0 (aH L))(k:Nat)(a:k<L.length):w.cell? ⟨b,k,none⟩=some (.int .u32 (L.getD k 0)):=by have:=O7 h k a;rwa [TL]at this
structure Q4 (w M:World) (H KS S:List Int) (c:Nat):Prop where
 below:Bw w M
 hrow:M.rangeAt w.heap.size 0 (aH H)
 hthere:M.there w.heap.size 0 8
 res:M.there (w.heap.size+1+1) 0 8
 srow:M.rangeAt c 0 (aH S)
 krow:M.rangeAt 0 0 (aH KS)
theorem EW(w b:World)(H KS S:List Int)(B:List UInt8)(T i h:TypeId)(e a:Array Value)(n:e.size=8)(g:a.size=64)(k:S.length=64)(m:H.length=8)
 (l:w.rangeAt 0 0 (aH KS)) (o:0<w.heap.size)
 (d:Below (((w.alloc (.cells (aH H).toArray T)).alloc (.cells (bH B).toArray i)).alloc (.cells e T)).heap.size (((w.alloc (.cells (aH H).toArray T)).alloc (.cells (bH B).toArray i)).alloc (.cells e T)) b):
 Q4 w ((b.alloc (.cells a h)).setCells b.heap.size 0 (aH S)) H KS S b.heap.size:=by
 have j:=d.size;simp at j;have c:Bw w b:=((((Xd _ _).alloc (TB _) _).alloc s_ _).alloc (by simp;omega) _).trans (d.mono (by simp;omega));have f:(b.alloc (.cells a h)).there b.heap.size 0 (aH S).length:=by rw[bG,k];exact fa _ _ _ _ _ rfl g
 refine⟨dU o_ _ _ _ _ (c.alloc o_ _), ?_, ?_, ?_, ?_, ?_⟩
 ·refine V9 (VD (bB d (by simp;omega) (VD (VD (ed _ _ _ _ rfl) _) _)) _) _ _ _ (Or.inl o_)
 ·refine VQ (Xa (fw d (by simp;omega) (Xa (Xa (fa _ _ _ _ _ rfl (by simp[bG,m])) _) _)) _) _ _ _
 ·refine VQ (Xa (fw d s_ (fa _ _ _ _ _ s_ n)) _) _ _ _
 ·exact World.rangeAt_setCells_same _ _ _ _ f
 ·refine V9 (VD (bB c o l) _) _ _ _ (Or.inl o_)
theorem Nh{c:Code}{Q:Exit->Act->World->Prop}{W:World}(b:World->Prop)(h:b W)(k:∀M,b M->Code.wp P c Q a M):Code.wp P c Q a W:=k W h
theorem vd{o:Nat}(h:w.there b o n)(a k:Nat)(v:Value):(w.setCell ⟨a,k,none⟩ v).there b o n:=VQ h a k [v]
theorem EM{L:List Value}(h:w.rangeAt b 0 L)(v:Value):(w.setCell ⟨b,k,none⟩ v).rangeAt b 0 (L.set k v):=λj u a=>by
 rw[TL];have d:j<L.length:=by have:=(List.getElem?_eq_some_iff.1 a).1;simpa using this
 have c:=h j _ (TX d);rw[TL]at c;by_cases e:k=j
 ·subst e;rw[World.cell?_setCell_same _ _ _ c];simp[d]at a;rw[a]
 ·rw[World.cell?_setCell_other _ _ _ _ (λh=>e (by injection h)),c];rw[List.getElem?_set_ne e,TX d]at a;exact a
end
end Go.Proofs.YtkmoglhgkcnalabGreatDoor
