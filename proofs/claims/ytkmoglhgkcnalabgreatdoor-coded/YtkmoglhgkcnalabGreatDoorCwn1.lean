/- A part of what the last text of the claim imports: texts laid together, and made small, by a program. -/
import Derived.Conc.Own
import Derived.Below
import Derived.KernelRfl
import Derived.Laws.Sem
import GoSem.Dispatch
import GoSem.Step
import Derived.RunT
set_option maxHeartbeats 16000000
set_option maxRecDepth 100000
open Array renaming getElem?_setIfInBounds_self_of_lt->kg,replicate->kx,getElem?_map->wZ,getElem?_push->DY,all_eq_true'->ET,mem_append->Hh,append_empty->Hq,getElem?_modify->IN,getElem?_setIfInBounds->Ll,size_map->M1,map_append->MG,toList_map->Oj,size_push->Vs,map_congr_left->Vx,map_setIfInBounds->VA,getElem?_mapIdx->VS,mapM_eq_mapM_toList->VU,map->VX,ext_getElem?->Wl,ext->Wq,getElem_mem->Ww,map_extract->X6,map_map->Xw,range->XC,map_replicate->XL,foldl_toList->XV,forIn_toList->XW,map_empty->ZE,map_push->ZK,mem_map->ZZ
open Bool renaming and_eq_true->d7,false_eq_true->qD,or_eq_true->No,not_true->Wr,not_false->Xd,true_or->Xf
open ByteArray renaming empty->VD
open Classical renaming byContradiction->Mx
open Except renaming map->XT,bind->Zv,pure->Zw
open Function renaming comp_def->Vz
open Go.Addr renaming block->XU
open Go.Builtin renaming len_->Pr,firstCells->VM,copy_->W4,zeroCells->Wx,unsafeSliceData_->WL,min2->Xb,max2->Xc,ssaWrapNilChk_->Xe,unsafeString_->Xo,lenOf->Xx,append_->XG,holdsCells->XY,unsafeAdd_->Y1,mayShare->Yf,min_->Yn,max_->Yo,cap_->Z9
open Go.Conv renaming runesFrom->W9,bytesToString->Wi,runesToString->Wj,floatToFloat->Wy,complexToComplex->Xp,stringToBytes->XX,stringToRunes->XZ,unsafePointer->Y0,floatToInt->Yy,seenAt->ZA
open Go.Deferred renaming ofValue->NP
open Go.Extern renaming findNext->Wo,find->XD
open Go.Frame renaming enter->t4,round->OX,finish->Vf,eval->VE,raise->a1_
open Go.GStep renaming after->mX,go->Vj
open Go.Instr renaming loadAt->r8,fieldAt->we,enterLoop->Am,build->C9,alloc->Ee,field->Ef,buildSlice->Fi,endLoop->Iz,endRound->IQ,takeDeferred->Jd,sliceAt->JR,sliceBounds->Kg,sliceBound->LY,indexAt->M2,sureAddr->NK,beginRound->Ol,makeSlice->Po,storeAt->Rl,getLoop->Rm,slice->Vh,yield->Vi,makeInterface->Vr,fill->W3,index->WC,makeFunc->X8,extract->Ya,box->YQ
open Go.IntKind renaming i64->A8
open Go.Item renaming inRegion->WM
open Go.LoopState renaming busy->ZO
open Go.Mode renaming atomic->VY,plain->Wh
open Go.Next renaming value->Z0
open Go.Obj renaming cells->Xs
open Go.Op renaming equalIn->W5,floatArith->Xz,floatCmp->Y6,complexOp->Zb,twoPlaces->Zc,eqGuardIn->Zd,intArith->Zy,stringOp->Zz,intBits->ZL,addrMod->ZN,intDiv->a01,intCmp->a02,shift->a09
open Go.Op.Complex renaming corrected->YJ,quotient->YR,product->YZ,arith->Zn,conv->ZF,cmp->ZM
open Go.Sem renaming bind->BW,run->BY,runT->G4,run_bind->K8,store->a00
open Go.Value renaming pointer->Xy,ofBytes->ZY
open Go.World renaming cell?->AB,setCell->BO,frozen?->Hv,farStore->NE,farLoad->Pn,freeze->VZ,viewStore->WP,viewLoad->YI,seen->YY
open List renaming map_cons->rn,range->Ak,all_cons->Su,mem_map->VJ,map_nil->Xa,foldlM_cons->Xr,foldl_cons->XF,map_toArray->Ye,map->YH
open Nat renaming le_refl->d8,lt_of_lt_of_le->gK,le_trans->z9,add_assoc->Y9,add_comm->Z8
open Option renaming map_some->d9,getD_some->y9,bind_some->Hk,isNone_eq_false_iff->Vo,map_none->WQ,map->XS,isSome_map->Za
open Std.Legacy.Range renaming forIn_eq_forIn_range'->WE
namespace Go
@[match_pattern] abbrev Value.i(n:Int):Value:= .int .i64 n
abbrev Value.pk(b k:Nat):Value:= .pointer (some ⟨b,k,none⟩)
abbrev Value.sk(b n c:Nat):Value:= .slice (some ⟨b,0,none⟩) n c
@[match_pattern] abbrev Value.s(b:ByteArray):Value:= .string b
abbrev World.z(w:World):Nat:=w.heap.size
abbrev World.aC(w:World)(c:Array Value)(t:TypeId):World:=w.alloc (.cells c t)
abbrev _root_.ByteArray.l(b:ByteArray):List UInt8:=b.data.toList
end Go
namespace Go.Value
abbrev pt(b:Nat):Value:= .pk b 0
end Go.Value
namespace Go.Proofs.YtkmoglhgkcnalabGreatDoor
open Go
variable{n b i N l m k j b3 b4 b7 b9 Wg wd:Nat}{w w' w0 wL wM wE:World}{fr:Frame}{v:Value}{cs:List Frame}{args cv:Array Value}{V RO D V0:Nat->Prop}{q main listen ql:Bool}{g:Goroutine}{a:Act}{K:List Item}{P PL PM:Program}{x:Operand}{ops:Array Oper}{KS:List Int}{t u:TypeId}{o:Oper}{f:FuncId}{es:Array Event}{Goal:Goroutine->World->Prop}{fn:Func}{rest:List Nat}{ds:List Deferred}{F:List (Nat×Value)}{e:Event}{listed:Array Bool}{c:Int}{s msg key sig:ByteArray}{ρ:Nat->Nat}{ev:Operand->Value}{Post:Value->World->Prop}
section
open Go.RowKit
abbrev Bw(w w':World):Prop:=Below w.heap.size w w'
theorem k_{p:Prop}(h:p:=by kernel_rfl):p:=h
theorem o_{p:Prop}(h:p:=by omega):p:=h
theorem d_{p:Prop}(h:p:=by decide):p:=h
theorem s_{p:Prop}(h:p:=by simp):p:=h
theorem gA{a:Type}{l:Array a}{v:a}(h:l[i]?=some v):∃h:i<l.size,l[i]=v:=Array.getElem?_eq_some_iff.1 h
theorem mG{a:Type}{l:List a}{v:a}(h:l[i]?=some v):v∈l:=List.mem_of_getElem? h
theorem sN{a:Type}{l:Array a}{v:a}(h:i≠j):(l.setIfInBounds i v)[j]?=l[j]?:=Array.getElem?_setIfInBounds_ne h
theorem bR:Below N w w:=Below.refl _ _
end
section
open Go
def bC(ρ:Nat->Nat)(a:Addr):Addr:={a with block:=ρ a.block}
def jA(ρ:Nat->Nat):Fn->Fn
 | .yield l=> .yield (ρ l)
 |f=>f
def aE(ρ:Nat->Nat):Value->Value
 | .pointer a=> .pointer (a.map (bC ρ))
 | .slice a l c=> .slice (a.map (bC ρ)) l c
 | .map r=> .map (r.map ρ)
 | .chan r=> .chan (r.map ρ)
 | .func fn first cap=> .func (jA ρ fn) (first.map (aE ρ)) (cap.map (aE ρ))
 | .iface t v=> .iface t (aE ρ v)
 | .agg cs=> .agg (cs.map (aE ρ))
 | .tuple vs=> .tuple (vs.map (aE ρ))
 | .bool b=> .bool b
 | .int k n=> .int k n
 | .float k b=> .float k b
 | .complex k a b=> .complex k a b
 | .string s=> .string s
 | .nilFunc=> .nilFunc
 | .nilIface=> .nilIface
def oh:Fn->Bool
 | .yield _=>false
 |_=>true
mutual
def bO:Value->Bool
 | .pointer a=>a.isNone
 | .slice a _ _=>a.isNone
 | .map r=>r.isNone
 | .chan r=>r.isNone
 | .func fn ⟨first⟩ ⟨cap⟩=>oh fn&&mj first&&mj cap
 | .iface _ v=>bO v
 | .agg ⟨cs⟩=>mj cs
 | .tuple ⟨vs⟩=>mj vs
 | .bool _| .int _ _| .float _ _| .complex _ _ _| .string _| .nilFunc| .nilIface=>true
def mj:List Value->Bool
 |[]=>true
 |v::r=>bO v&&mj r
end
theorem iy:∀{l:List Value},mj l=true->∀v∈l,bO v=true
 |[],_,v,h=>by cases h
 |x::r,h,v,hv=>by
  simp only[mj,d7]at h;rcases List.mem_cons.1 hv with rfl|hv
  ·exact h.1
  ·exact iy h.2 v hv
theorem jJ{f:Value->Value}{cs:Array Value}(h:∀v∈cs,f v=v):cs.map f=cs:=by
 apply Wq
 ·simp
 ·intro i b a;simp[h cs[i] (Ww _)]
theorem rY(a:Nat->Nat){fn:Fn}(h:oh fn=true):jA a fn=fn:=by cases fn<;>first|rfl|simp[oh]at h
theorem dG(i:Nat->Nat):∀v:Value,bO v=true->aE i v=v:=by
 intro v;induction v using aE.induct with
 |case1 a=>intro h;simp[bO]at h;subst h;simp[aE]
 |case2 a l c=>intro h;simp[bO]at h;subst h;simp[aE]
 |case3 r=>intro h;simp[bO]at h;subst h;simp[aE]
 |case4 r=>intro h;simp[bO]at h;subst h;simp[aE]
 |case5 m first e g f=>
  intro h;obtain⟨first⟩:=first
  obtain⟨e⟩:=e;simp only[bO,d7]at h;rw[aE,rY i h.1.1,jJ λv b=>g v b (iy h.1.2 v (by simpa using b)),jJ λv b=>f v b (iy h.2 v (by simpa using b))]
 |case6 t v d=>intro h;simp[bO]at h;simp[aE,d h]
 |case7 k d=>
  intro h;obtain⟨k⟩:=k;simp only[bO]at h;rw[aE,jJ λv b=>d v b (iy h v (by simpa using b))]
 |case8 j d=>
  intro h;obtain⟨j⟩:=j;simp only[bO]at h;rw[aE,jJ λv b=>d v b (iy h v (by simpa using b))]
 |_=>intro _;simp[aE]
def NR(ρ:Nat->Nat):Target->Target
 | .fn fn cap=> .fn (jA ρ fn) (cap.map (aE ρ))
 | .nil=> .nil
 | .builtin b a t c=> .builtin b a t c
 | .collected r=> .collected (ρ r)
 | .coroexit c=> .coroexit (ρ c)
def kb(ρ:Nat->Nat)(d:Deferred):Deferred:=⟨NR ρ d.target,d.args.map (aE ρ)⟩
def xX(ρ:Nat->Nat)(l:Loop):Loop:={l with tmps:=l.tmps.map (aE ρ),defers:=ρ l.defers}
def eC(ρ:Nat->Nat):Obj->Obj
 | .cells c e f=> .cells (c.map (aE ρ)) e f
 | .pending c e=> .pending (c.map (aE ρ)) e
 | .view a t=> .view (bC ρ a) t
 | .number a l=> .number (bC ρ a) l
 | .map es c=> .map (es.map λe=>⟨aE ρ e.key,aE ρ e.val,e.born⟩) c
 | .chan cap buf closed s r t=> .chan cap (buf.map (aE ρ)) closed s r t
 | .stringIter s p=> .stringIter s p
 | .mapIter m a b c=> .mapIter (m.map ρ) a b c
 | .loop l=> .loop (xX ρ l)
 | .deferred ds=> .deferred (ds.map (YH (kb ρ)))
 | .coro p=> .coro p
 | .finalizers fs r=> .finalizers (fs.map λx=>(ρ x.1,kb ρ x.2)) r
def j7:FuncId:=55
def du:Tmp:=54
def yp:FuncId:=55
def Sd:List Nat:=[1,4,27,29,34,35,40,41]
def Lr:FuncId:=73
def Ls:FuncId:=43
def fM:FuncId:=58
def dt(f:FuncId):Nat:=if f=j7 then 1 else if f=yp then 2 else if f=Lr\/f=Ls\/f=fM then 3 else 0
def qL(z t:Nat):Bool:=(z==1&&t==du)||(z==2&&Sd.contains t)
theorem gj:dt j7=1:=by simp[dt]
theorem mt(t:Nat):qL 1 t=(t==du):=by simp[qL]
theorem SH(t:Nat):qL 0 t=false:=rfl
theorem Et:dt f=1↔f=j7:=by
 unfold dt;split
 ·simp_all
 ·split
  ·simp_all
  ·split<;>simp_all
def eP:Nat:=0
def pq:TypeId:=64
def lV(x:Nat):Operand->Bool
 | .tmp t=> !(qL x t)
 | .func _=>true
 | .const v=>bO v
 | .global _=>false
def KZ:Builtin->Bool
 | .append| .cap| .copy| .len| .min| .max| .unsafeSliceData| .unsafeString=>true
 |_=>false
def SV(x:Nat)(c:Call):Bool:=
 c.args.all (lV x)&&match c.callee with
  | .builtin b=>KZ b
  | .value f=>lV x f
  | .invoke _ _=>false
def mN(z:Nat):Op->Bool
 | .move x| .assign x| .box _ x| .load _ x| .nilCheck x| .unOp _ _ x| .convert _ _ x| .makeInterface _ x| .fieldAddr _ x _| .field _ x _| .extract x _=>lV z x
 | .alloc _=>true
 | .pick a b c=>lV z a&&lV z b&&lV z c
 | .build _ ps| .buildSlice _ _ ps=>ps.all λx=>lV z x.2
 | .store _ a b| .binOp _ _ a b _| .makeSlice _ a b| .indexAddr _ a b| .index _ a b=>lV z a&&lV z b
 | .makeFunc fn a b=>oh fn&&a.all (lV z)&&b.all (lV z)
 | .slice _ x l h m=>lV z x&&l.all (lV z)&&h.all (lV z)&&m.all (lV z)
 | .call c=>SV z c
 |_=>false
def E2(z:Nat)(o:Oper):Bool:=
 match o.op with
 | .call c=>z==3&&match c.callee with
   | .builtin .recover=>true
   |_=>false
 |_=>false
def dH(z:Nat)(ops:Array Oper):Bool:=
 match ops.toList with
 |[o,p]=>(z==3||z==0)&&o.guard.isNone&&p.guard.isNone&&p.dst.isNone&&match o.dst,o.op,p.op with
  |some d, .makeInterface _ (.const (.string _)), .panic (.tmp t)=>d==t
  |some d, .makeFunc (.func g) a b, .defer c=>z==3&&g==fM&&a.all (lV z)&&b.all (lV z)&&c.args.isEmpty&&match c.callee with
   | .value (.tmp t)=>d==t
   |_=>false
  |_,_,_=>false
 |_=>false
def yS(z:Nat)(o:Oper):Bool:=
 (mN z o.op&& !(o.dst.any (qL z)))||E2 z o||
 (z==1&&match o.op with
   | .indexAddr _ (.global g) i=>g==eP&&lV z i&&o.dst==some du
   | .load ty (.tmp t)=>ty==pq&&t==du&&o.dst !=some du
   |_=>false)
def jb(z:Nat):Code->Bool
 | .skip| .exit _| .label _| .ret| .refuse _=>true
 | .region _ ops q=>ops.all (yS z)||(!q&&dH z ops)
 | .seq a b=>jb z a&&jb z b
 | .cond c a b=>lV z c&&jb z a&&jb z b
 | .block _ b| .loop b| .scope b=>jb z b
 | .rangeFunc f _ a b=>z==0&&lV z f&&jb z a&&jb z b
 | .goto _=>false
def pE(f:FuncId)(c:Code):Bool:=jb (dt f) c&&dt f !=2
theorem E6{c:Code}(h:pE f c=true):jb (dt f) c=true:=by simp only[pE,d7]at h;exact h.1
theorem E5{c:Code}(h:pE f c=true):dt f≠2:=by simp only[pE,d7]at h;simpa using h.2
theorem O2{c:Code}(h:dt f=0)(a:jb 0 c=true):pE f c=true:=by simp[pE,h,a]
def cO:Obj->Bool
 | .cells _ _ _| .stringIter _ _| .view _ _| .number _ _=>true
 | .deferred ds=>(ds.getD []).isEmpty
 | .loop l=>jb 0 l.assign&&jb 0 l.body&&l.pending.all (jb 0)&&dt l.fn==0
 |_=>false
def fH:Mark->Bool
 | .extern _| .noRoom=>true
 |_=>false
def eT:Halt->Prop
 | .unsupported (.initOrder _)| .panic _=>False
 | .blocked| .waiting| .goexit=>False
 |_=>True
def bE(w:World):Prop:=∀(b:Nat) (o:Obj),w.heap[b]?=some o->cO o=true
inductive aF (ρ:Nat->Nat) (PL PM:Program) {α β:Type} (f:α->β):Sem α->Sem β->Prop
 |pure (a:α):aF ρ PL PM f (.pure a) (.pure (f a))
 |load {a:Addr} {k:Value->Sem α} {k':Value->Sem β} (h:∀v,aF ρ PL PM f (k v) (k' (aE ρ v))):aF ρ PL PM f (.load .plain a k) (.load .plain (bC ρ a) k')
 |store {a:Addr} {v:Value} {k:Sem α} {k':Sem β} (h:aF ρ PL PM f k k'):aF ρ PL PM f (.store .plain a v k) (.store .plain (bC ρ a) (aE ρ v) k')
 |new {o:Obj} {k:Nat->Sem α} {k':Nat->Sem β} (ho:cO o=true) (h:∀b,aF ρ PL PM f (k b) (k' (ρ b))):aF ρ PL PM f (.new o k) (.new (eC ρ o) k')
 |shape {r:Nat} {k:Option (TypeId×Nat)->Sem α} {k':Option (TypeId×Nat)->Sem β} (h:∀s,aF ρ PL PM f (k s) (k' s)):aF ρ PL PM f (.shape r k) (.shape (ρ r) k')
 |freeze {a:Addr} {n:Nat} {k:Sem α} {k':Sem β} (h:aF ρ PL PM f k k'):aF ρ PL PM f (.freeze a n k) (.freeze (bC ρ a) n k')
 |frozen {a:Addr} {k:Bool->Sem α} {k':Bool->Sem β} (h:∀b,aF ρ PL PM f (k b) (k' b)):aF ρ PL PM f (.frozen a k) (.frozen (bC ρ a) k')
 |getObj {r:Nat} {k:Obj->Sem α} {k':Obj->Sem β} (h:∀o,cO o=true->aF ρ PL PM f (k o) (k' (eC ρ o))):aF ρ PL PM f (.getObj r k) (.getObj (ρ r) k')
 |setObj {r:Nat} {o:Obj} {k:Sem α} {k':Sem β} (ho:cO o=true) (h:aF ρ PL PM f k k'):aF ρ PL PM f (.setObj r o k) (.setObj (ρ r) (eC ρ o) k')
 |choose {q:Question} {k:Nat->Sem α} {k':Nat->Sem β} (h:∀n,aF ρ PL PM f (k n) (k' n)):aF ρ PL PM f (.choose q k) (.choose q k')
 |program {k:Program->Sem α} {k':Program->Sem β} (h:aF ρ PL PM f (k PL) (k' PM)):aF ρ PL PM f (.program k) (.program k')
 |mark {m:Mark} {k:Sem α} {k':Sem β} (hm:fH m=true) (h:aF ρ PL PM f k k'):aF ρ PL PM f (.mark m k) (.mark m k')
 |panic {v:Value} (h:bO v=true):aF ρ PL PM f (.halt (.panic v)) (.halt (.panic v))
 |dead {h:Halt} {s:Sem β} (d:eT h):aF ρ PL PM f (.halt h) s
 |deadMark {m:Mark} {h:Halt} {s:Sem β} (d:eT h):aF ρ PL PM f (.mark m (.halt h)) s
 |sys {c:Sys} {k:SysRet->Sem α} {s:Sem β} (d:∀r w,∃h w',(k r).run PL w= .halt h w'/\eT h/\(bE w->bE w')):aF ρ PL PM f (.sys c k) s
theorem aF.bind{j i e c:Type}{f:j->i}{g:e->c}{s:Sem j}{s':Sem i}{k:j->Sem e}{l:i->Sem c}(h:aF ρ PL PM f s s')(o:∀a,aF ρ PL PM g (k a) (l (f a))):aF ρ PL PM g (s>>=k) (s'>>=l):=by
 show aF ρ PL PM g (s.bind k) (s'.bind l);induction h with
 |pure a=>exact o a
 |load _ b=>exact .load b
 |store _ b=>exact .store (b)
 |new _ _ b=>exact .new ‹_› b
 |shape _ b=>exact .shape b
 |freeze _ b=>exact .freeze (b)
 |frozen _ b=>exact .frozen b
 |getObj _ b=>exact .getObj b
 |setObj _ _ b=>exact .setObj ‹_› b
 |choose _ b=>exact .choose b
 |program _ b=>exact .program (b)
 |mark _ _ b=>exact .mark ‹_› b
 |panic h=>exact .panic h
 |dead d=>exact .dead d
 |deadMark d=>exact .deadMark d
 |sys d=>
  refine .sys λr w=> ?_;obtain⟨x,m,n,p⟩:=d r w;exact⟨x,m,by rw[Sem.run_bind',n];rfl,p⟩
def aR(G:Nat)(D:Nat->Prop)(ρ ρ':Nat->Nat):Prop:=((∀x y,ρ' x=ρ' y->x=y)/\∀b,b<G↔ρ' b<G)/\∀b,D b->ρ' b=ρ b
structure cR (G T:Nat) (D:Nat->Prop) (ρ:Nat->Nat) (wL wM:World):Prop where
 inj:∀x y,ρ x=ρ y->x=y
 obj:∀b,D b->∃o,wL.heap[b]?=some o/\cO o=true/\∀ρ',aR G D ρ ρ'->wM.heap[ρ b]?=some (eC ρ' o)
 tape:∀i,wL.drawn+i<T->wM.tape (wM.drawn+i)=wL.tape (wL.drawn+i)
 glob:∀b,b<G↔ρ b<G
 far:2<=G/\G<=wL.heap.size/\G<=wM.heap.size
 out:∀b,D b->G<=b
def lm(a b v:Nat):Nat:=if v=a then b else if v=b then a else v
theorem qN{a x y:Nat}(h:lm a b x=lm a b y):x=y:=by unfold lm at h;split at h<;>split at h<;>(try split at h)<;>(try split at h)<;>omega
theorem lY(a b:Nat):lm a b a=b:=by simp[lm]
theorem tD{a G:Nat}(h:b<G↔a<G)(v:Nat):v<G↔lm a b v<G:=by
 unfold lm;split
 ·subst v;exact h.symm
 ·split
  ·subst v;exact h
  ·exact Iff.rfl
theorem mW{a v:Nat}(d:v≠a)(c:v≠b):lm a b v=v:=by simp[lm,d,c]
section
variable{G T:Nat}
theorem bH{o:Obj}(h:w.heap[b]?=some o):b<w.heap.size:=(gA h).1
theorem cR.self(h:cR G T D ρ wL wM):aR G D ρ ρ:=⟨⟨h.inj,h.glob⟩,λ_ _=>rfl⟩
theorem cR.ltL(h:cR G T D ρ wL wM)(a:D b):b<wL.heap.size:=let ⟨_,h1,_⟩:=h.obj b a;bH h1
theorem cR.ltM(h:cR G T D ρ wL wM)(a:D b):ρ b<wM.heap.size:=let ⟨_,_,_,h1⟩:=h.obj b a;bH (h1 ρ h.self)
theorem cR.dom(h:cR G T D ρ wL wM){x:Nat}(k:∀c,aR G D ρ c->c x=ρ x):D x:=by
 refine Mx λl=> ?_;obtain⟨y,j,f,d⟩:∃y,(wM.heap.size<=y\/y<G)/\y≠ρ x/\(y<G↔ρ x<G):=by
  have:=h.far;by_cases n:ρ x<G
  ·by_cases i:ρ x=0
   ·exact⟨1,o_,o_,o_⟩
   ·exact⟨0,o_,o_,o_⟩
  ·by_cases i:ρ x=wM.heap.size
   ·exact⟨wM.heap.size+1,o_,o_,o_⟩
   ·exact⟨wM.heap.size,o_,λe=>i e.symm,o_⟩
 have m:aR G D ρ (λz=>lm (ρ x) y (ρ z)):=by refine⟨⟨λa b e=>h.inj _ _ (qN e),λb=>(h.glob b).trans (tD d _)⟩,λb g=>mW (λe=>l (h.inj _ _ e▸g)) ?_⟩;have n:=h.ltM g;have p:=h.out b g;have o:=h.glob b;omega
 have:=k _ m;rw[lY]at this;exact f this
theorem cR.fresh(h:cR G T D ρ wL wM):∃a:Nat->Nat,((∀x y,a x=a y->x=y)/\∀b,b<G↔a b<G)/\a wL.heap.size=wM.heap.size/\∀b,D b->a b=ρ b:=
 ⟨λz=>lm (ρ wL.heap.size) wM.heap.size (ρ z),⟨λ_ _ e=>h.inj _ _ (qN e),λb=>(h.glob b).trans (tD (by have:=h.far;have:=h.glob wL.heap.size;omega) _)⟩,lY _ _,λb c=>mW (λe=>by have:=h.inj _ _ e;have:=h.ltL c;omega) (by have:=h.ltM c;omega)⟩
end
structure ia (G T:Nat) (D:Nat->Prop) (ρ:Nat->Nat) (wL wM:World) (D':Nat->Prop) (ρ':Nat->Nat) (wL' wM':World):Prop where
 rel:cR G T D' ρ' wL' wM'
 ext:∀b,D b->D' b/\ρ' b=ρ b
 new:∀b,D' b->D b\/(wL.heap.size<=b/\wM.heap.size<=ρ' b)
 size:wM.heap.size<=wM'.heap.size
 sizeL:wL.heap.size<=wL'.heap.size
 keep:∀r,r<wM.heap.size->(∀b,D b->ρ b≠r)->wM'.heap[r]?=wM.heap[r]?
 os:wM'.os=wM.os
 output:wM'.output=wM.output
 tape:wM'.tape=wM.tape
 tapeL:wL'.tape=wL.tape
 keepL:∀r,r<wL.heap.size->¬D r->wL'.heap[r]?=wL.heap[r]?
 newL:∀r,wL.heap.size<=r->r<wL'.heap.size->D' r
 drawn:wL.drawn<=wL'.drawn
 drew:wM'.drawn+wL.drawn=wL'.drawn+wM.drawn
theorem ia.refl{G T:Nat}{a:Nat->Nat}{wL b:World}(h:cR G T D a wL b):ia G T D a wL b D a wL b:=
 ⟨h,λ_ c=>⟨c,rfl⟩,λ_ c=> .inl c,d8 _,d8 _,λ_ _ _=>rfl,rfl,rfl,rfl,rfl,λ_ _ _=>rfl,λ_ e d=>o_,d8 _,Z8 _ _⟩
theorem ia.trans{G T:Nat}{s q:Nat->Prop}{o j i:Nat->Nat}{wL p d k wL2 wM2:World}(h:ia G T D o wL p s j d k)(a:ia G T s j d k q i wL2 wM2):ia G T D o wL p q i wL2 wM2:=by
 refine⟨a.rel,λb e=> ?_,λb e=> ?_,z9 h.size a.size,z9 h.sizeL a.sizeL,λr l m=> ?_,a.os.trans h.os,a.output.trans h.output,a.tape.trans h.tape,a.tapeL.trans h.tapeL,λr l m=> ?_,λr c g=> ?_,z9 h.drawn a.drawn,by have:=h.drew;have:=a.drew;omega⟩
 ·obtain⟨c,g⟩:=h.ext b e;obtain⟨f,n⟩:=a.ext b c;exact⟨f,n.trans g⟩
 ·rcases a.new b e with c|⟨c,g⟩
  ·rcases h.new b c with f|⟨f,n⟩
   ·exact .inl f
   ·exact .inr ⟨f,by rw[(a.ext b c).2];exact n⟩
  ·exact .inr ⟨z9 h.sizeL c,z9 h.size g⟩
 ·rw[a.keep r (gK l h.size) λb e=> ?_,h.keep r l m];rcases h.new b e with c|⟨_,g⟩
  ·rw[(h.ext b c).2];exact m b c
  ·omega
 ·rw[a.keepL r (gK l h.sizeL) λe=> ?_,h.keepL r l m];rcases h.new r e with c|⟨c,_⟩
  ·exact m c
  ·omega
 ·by_cases f:r<d.heap.size
  ·exact(a.ext r (h.newL r c f)).1
  ·exact a.newL r o_ g
def iL(D:Nat->Prop)(ρ:Nat->Nat)(e:Event):Prop:=
 match e.loc with
 | .cell a=>e.sync=false/\∃b,D b/\ρ b=a.block
 | .obj r=>e.sync=false/\∃b,D b/\ρ b=r
 | .mark m=>fH m=true
 |_=>False
theorem iL.mono{D':Nat->Prop}{d a:Nat->Nat}(h:iL D d e)(f:∀b,D b->D' b/\a b=d b):iL D' a e:=by
 obtain⟨c,k,l⟩:=e;cases c<;>simp only[iL]at h⊢<;>first
  |exact h
  |(obtain⟨j,b,g,i⟩:=h;exact⟨j,b,(f b g).1,(f b g).2.trans i⟩)
inductive Bm (G:Nat) {α β:Type} (F:(Nat->Nat)->α->β) (D:Nat->Prop) (ρ:Nat->Nat):Result α->World->Result β->World->Prop
 |ok {a:α} {a':β} {wL wM:World} (h:∀ρ',aR G D ρ ρ'->a'=F ρ' a):Bm G F D ρ (.ok a wL) wL (.ok a' wM) wM
 |panic {v:Value} {wL wM:World} (h:bO v=true):Bm G F D ρ (.halt (.panic v) wL) wL (.halt (.panic v) wM) wM
def Dq{α:Type}:Result α->World->Prop
 | .ok _ w,w'| .halt (.panic _) w,w'=>w'=w
 |_,_=>False
def pW:Value->Bool
 | .agg _| .tuple _=>false
 |_=>true
theorem zS(a:Nat->Nat)(v:Value):pW (aE a v)=pW v:=by cases v<;>simp[aE,pW]
section
variable{α β:Type}{p:Program}
theorem gV{m:Mode}{a:Addr}{k:Sem α}(hv:pW v=false):∃b,(a00 m a v k).run p w= .halt (.stuck b) w:=by cases v<;>simp[pW]at hv<;>exact⟨_,rfl⟩
theorem gn{m:Mode}{a:Addr}{k:Sem α}(hv:pW v=true):(a00 m a v k).run p w=match w.cell? a with
 |some _=>if w.frozen? a then .halt (.unsupported (.unsafePointer "a write to bytes that a string shares")) w else k.run p (w.setCell a v)
 |none=>match w.farStore p a v (m== .atomic)with
  | .ok (w,_)=>k.run p w
  | .error h=> .halt h w:=by cases v<;>simp[pW]at hv<;>rfl
theorem ni{m:Mode}{a:Addr}{k:Sem α}(hv:pW v=true):(a00 m a v k).runT p w es=match w.cell? a with
 |some _=>if w.frozen? a then(.halt (.unsupported (.unsafePointer "a write to bytes that a string shares")) w,es)else k.runT p (w.setCell a v) (es.push ⟨.cell a,true,m== .atomic⟩)
 |none=>match w.farStore p a v (m== .atomic)with
  | .ok (w,touched)=>k.runT p w (es++touched.toArray.map (⟨.cell ·,true,m== .atomic⟩))
  | .error h=>(.halt h w,es):=by cases v<;>simp[pW]at hv<;>rfl
end
section
variable{G T:Nat}
theorem Ez{a:Addr}(h:w.cell? a=some v):∃c e f,w.heap[a.block]?=some (.cells c e f)/\a.spot=none/\c[a.off]?=some v:=by
 unfold AB at h;split at h
 ·rename_i c e f g;split at h
  ·cases h
  ·rename_i b;exact⟨c,e,f,g,by cases d:a.spot with|none=>rfl|some _=>simp[d]at b,h⟩
 ·cases h
theorem EA{a:Addr}{c:Array Value}{e:TypeId}{f:Nat×Nat}(h:w.heap[a.block]?=some (.cells c e f))(b:a.spot=none):w.cell? a=c[a.off]?:=by unfold AB;simp[h,b]
theorem wY(a:Nat->Nat)(v:Value):(aE a v).bytes?=v.bytes?:=by cases v<;>simp[aE,Value.bytes?]
theorem zU(a:Nat->Nat)(v:Value)(bs:List UInt8):(aE a v).ofBytes bs=v.ofBytes bs:=by cases v<;>simp[aE,ZY]
theorem oD{u:Value}{bs:List UInt8}(h:v.ofBytes bs=some u):∀a,aE a u=u:=by
 intro a;unfold ZY at h;split at h
 ·split at h<;>first|(cases h;simp[aE];done)|cases h
 ·split at h
  ·cases h;simp[aE]
  ·cases h
 ·split at h
  ·cases h;simp[aE]
  ·cases h
 ·split at h
  ·cases h;simp[aE]
  ·cases h
 ·cases h
theorem oB(p:Program)(b:Nat->Nat)(c:Array Value)(e:TypeId):∀f x a,seenCells p (c.map (aE b)) e f x a=seenCells p c e f x a
 |0,_,_=>rfl
 |f+1,x,a=>by
  unfold seenCells;simp only[wZ,oB p b c e f];split
  ·rfl
  split
  ·rfl
  split
  ·rfl
  rename_i i s _;cases c[i]? with
  |none=>rfl
  |some v=>simp only[d9,wY]
theorem zp(p:Program)(g:Nat->Nat){a:Addr}{k:Addr}{b:Bool}{c:Array Value}{e:TypeId}{fr:Nat×Nat}(h:w.heap[a.block]?=some (.cells c e fr))(o:w'.heap[g a.block]?=some (.cells (c.map (aE g)) e fr)):
 w'.seen p (bC g a) u (bC g k) b=(w.seen p a u k b).map λx=>(x.1.map (aE g),x.2):=by
 unfold YY;simp only[bC,h,o,oB];by_cases n:(k.spot.isSome||a.spot.isSome)=true
 ·rw[if_pos n,if_pos n];rfl
 rw[if_neg n,if_neg n];cases plainCell p p.depth u k.off with
 |none=>rfl
 |some j=>
  dsimp only;cases XS (λx=>x.length) j.bytes? with
  |none=>rfl
  |some d=>
   dsimp only;cases byteOfCell p p.depth u k.off with
   |none=>rfl
   |some i=>
    dsimp only;by_cases m:p.cellsOf e=0
    ·rw[if_pos m,if_pos m];rfl
    rw[if_neg m,if_neg m];cases byteOfCell p p.depth e (a.off%p.cellsOf e)with
    |none=>rfl
    |some l=>
     dsimp only;cases seenCells p c e (d+1) (a.off/p.cellsOf e*p.bytesOf e+l+i) (a.off/p.cellsOf e*p.bytesOf e+l+i+d)with
     |error x=>rfl
     |ok f=>
      cases b with
      |false=>rfl
      |true=>
       match f with
       |[]=>rfl
       |[(_,s,bs)]=>
        show(if (decide (s≠a.off/p.cellsOf e*p.bytesOf e+l+i)||decide (bs.length≠d))=true then _ else _)=XT _ (if (decide (s≠a.off/p.cellsOf e*p.bytesOf e+l+i)||decide (bs.length≠d))=true then _ else _);generalize (decide (s≠a.off/p.cellsOf e*p.bytesOf e+l+i)||decide (bs.length≠d))=q;cases q<;>rfl
       |_::_::_=>rfl
theorem m9{p:Program}{d:Addr}{k:Addr}{b:Bool}{y:Array Value×TypeId×(Nat×Nat)×Nat×Value×List (Nat×Nat×List UInt8)}(a:w.seen p d u k b= .ok y):∃c e f,w.heap[d.block]?=some (.cells c e f):=by
 refine Mx λq=> ?_;unfold YY at a;by_cases j:(k.spot.isSome||d.spot.isSome)=true
 ·rw[if_pos j]at a;cases a
 rw[if_neg j]at a;cases n:plainCell p p.depth u k.off with
 |none=>rw[n]at a;cases a
 |some g=>
  simp only[n]at a;cases m:XS (λx=>x.length) g.bytes? with
  |none=>simp only[m]at a;cases a
  |some i=>
   simp only[m]at a;cases l:byteOfCell p p.depth u k.off with
   |none=>simp only[l]at a;cases a
   |some r=>
    simp only[l]at a;cases h:w.heap[d.block]? with
    |none=>simp only[h]at a;cases a
    |some o=>
     cases o<;>first|exact q ⟨_,_,_,h⟩|(simp only[h]at a;cases a)
theorem xy(p:Program)(g:Nat->Nat){a:Addr}{k:Addr}{b:Bool}{c:Array Value}{e:TypeId}{fr:Nat×Nat}(h:w.heap[a.block]?=some (.cells c e fr))(o:w'.heap[g a.block]?=some (.cells (c.map (aE g)) e fr)){j:List Addr}(hv:w.viewLoad p a u k b= .ok (v,j)):
 w'.viewLoad p (bC g a) u (bC g k) b= .ok (v,j.map (bC g))/\(∀i,aE i v=v)/\∀x∈j,x.block=a.block:=by
 unfold YI at hv⊢;rw[zp p g h o];cases m:w.seen p a u k b with
 |error x=>rw[m]at hv;cases hv
 |ok y=>
  obtain⟨t,s,q,first,d,f⟩:=y;rw[m]at hv;simp only[XT,bind,Zv]at hv⊢;cases l:d.ofBytes (f.flatMap λx=>(x.2.2.drop (first- x.2.1)).take (first+((d.bytes?.map (·.length)).getD 0)- max first x.2.1))with
  |none=>simp only[l]at hv;cases hv
  |some r=>
   simp only[l]at hv⊢;cases hv;refine⟨?_,oD l,λx n=> ?_⟩
   ·simp[bC,pure,Zw,Vz]
   ·obtain⟨y,_,rfl⟩:=VJ.1 n;rfl
theorem wP{b:Type}(a:Nat->Nat)(g:Array Value->b->Except String (Array Value))(d:∀c x,g (c.map (aE a)) x=(g c x).map (VX (aE a))):∀(xs:List b) (c:Array Value),xs.foldlM g (c.map (aE a))=(xs.foldlM g c).map (VX (aE a))
 |[],_=>rfl
 |x::xs,c=>by
  rw[Xr,Xr,d];cases g c x with
  |error y=>rfl
  |ok e=>exact wP a g d xs e
theorem iM(p:Program)(ρ:Nat->Nat){at_:Addr}{k:Addr}{b:Bool}{c:Array Value}{e:TypeId}{fr:Nat×Nat}(h:w.heap[at_.block]?=some (.cells c e fr))(h':w'.heap[ρ at_.block]?=some (.cells (c.map (aE ρ)) e fr)){w1:World}{tc:List Addr}(hv:w.viewStore p at_ u k v b= .ok (w1,tc)):
 ∃c1,w1={w with heap:=w.heap.setIfInBounds at_.block (.cells c1 e fr)}/\w'.viewStore p (bC ρ at_) u (bC ρ k) (aE ρ v) b= .ok ({w' with heap:=w'.heap.setIfInBounds (ρ at_.block) (.cells (c1.map (aE ρ)) e fr)},tc.map (bC ρ))/\∀x∈tc,x.block=at_.block:=by
 have hce:∀y,w.seen p at_ u k b= .ok y->y.1=c/\y.2.1=e/\y.2.2.1=fr:=by
  intro y hy;unfold YY at hy;simp only[h]at hy;by_cases hk:(k.spot.isSome||at_.spot.isSome)=true
  ·rw[if_pos hk]at hy;cases hy
  rw[if_neg hk]at hy;cases h1:plainCell p p.depth u k.off with
  |none=>rw[h1]at hy;cases hy
  |some like=>
   simp only[h1]at hy;cases h2:XS (λx=>x.length) like.bytes? with
   |none=>simp only[h2]at hy;cases hy
   |some size=>
    simp only[h2]at hy;cases h3:byteOfCell p p.depth u k.off with
    |none=>simp only[h3]at hy;cases hy
    |some β=>
     simp only[h3]at hy;by_cases hs:p.cellsOf e=0
     ·rw[if_pos hs]at hy;cases hy
     rw[if_neg hs]at hy;cases h4:byteOfCell p p.depth e (at_.off%p.cellsOf e)with
     |none=>simp only[h4]at hy;cases hy
     |some b0=>
      simp only[h4]at hy;cases h5:seenCells p c e (size+1) (at_.off/p.cellsOf e*p.bytesOf e+b0+β) (at_.off/p.cellsOf e*p.bytesOf e+b0+β+size)with
      |error x=>simp only[h5]at hy;cases hy
      |ok cells=>
       simp only[h5]at hy;cases b with
       |false=>cases hy;exact⟨rfl,rfl,rfl⟩
       |true=>
        match cells,hy with
        |[],hy=>cases hy
        |[(_,s,bs)],hy=>
         dsimp only[bind,Zv]at hy;rw[if_pos rfl]at hy;split at hy
         ·cases hy
         ·cases hy;exact⟨rfl,rfl,rfl⟩
        |_::_::_,hy=>cases hy
 unfold WP at hv⊢;rw[zp p ρ h h',wY];by_cases ht:(!tight p p.depth u)=true
 ·rw[if_pos ht]at hv;cases hv
 rw[if_neg ht]at hv⊢;cases hq:w.seen p at_ u k b with
 |error x=>rw[hq]at hv;cases hv
 |ok y=>
  obtain⟨h1,h2,h3⟩:=hce y hq;obtain⟨c1,e1,fr1,first,like,cells⟩:=y;dsimp only at h1 h2 h3;subst h1 h2 h3;rw[hq]at hv;simp only[XT,bind,Zv]at hv⊢;cases hb:v.bytes? with
  |none=>simp only[hb]at hv;cases hv
  |some bytes=>
   simp only[hb]at hv⊢;by_cases hn:some bytes.length≠XS (λx=>x.length) like.bytes?
   ·rw[if_pos hn]at hv;cases hv
   rw[if_neg hn]at hv⊢;rw[wP ρ]
   ·generalize (List.foldlM (m:=Except String) _ c1 cells)=q at hv⊢;cases q with
    |error x=>cases hv
    |ok c2=>
     cases hv;refine⟨c2,rfl, ?_,λx hx=> ?_⟩
     ·simp[bC,pure,Zw,XT,Vz]
     ·obtain⟨y,_,rfl⟩:=VJ.1 hx;rfl
   ·intro c x;by_cases h1:(decide (x.2.1<first)||decide (x.2.1+x.2.2.length>first+bytes.length))=true
    ·rw[if_pos h1,if_pos h1];rfl
    rw[if_neg h1,if_neg h1];by_cases h2:(decide (fr1.1<=x.1)&&decide (x.1<fr1.2))=true
    ·rw[if_pos h2,if_pos h2];rfl
    rw[if_neg h2,if_neg h2,wZ];cases c[x.1]? with
    |none=>rfl
    |some old=>
     simp only[d9,zU];cases ho:old.ofBytes (List.take x.2.2.length (List.drop (x.2.1- first) bytes))with
     |none=>rfl
     |some new=>
      simp[pure,Zw,XT,VA,oD ho ρ]
theorem cR.turn(h:cR G T D ρ wL wM)(d:D b){wL' wM':World}{o o':Obj}(A:cO o=true)(B:∀a,aR G D ρ a->o'=eC a o)
 (F:wL'.heap[b]?=some o) (E:wM'.heap[ρ b]?=some o') (q:∀k,k≠b->wL'.heap[k]?=wL.heap[k]?) (p:∀k,k≠ρ b->wM'.heap[k]?=wM.heap[k]?)
 (w:wL'.heap.size=wL.heap.size) (v:wM'.heap.size=wM.heap.size) (n:wL'.tape=wL.tape) (m:wM'.tape=wM.tape) (u:wL'.drawn=wL.drawn) (I:wM'.drawn=wM.drawn) (g:wM'.os=wM.os) (f:wM'.output=wM.output):
 ia G T D ρ wL wM D ρ wL' wM':=by
 refine⟨⟨h.inj,λx z=> ?_,λi C=>by rw[n,m,u,I];exact h.tape i (by rw[←u];exact C),h.glob,by rw[w,v];exact h.far,h.out⟩,λ_ d=>⟨d,rfl⟩,λ_ d=> .inl d,o_,o_,λr _ j=>p r λe=>j b d e.symm,g,f,m,n,λr _ j=>q r λe=>j (e▸d),λr t s=>o_,o_,o_⟩;by_cases c:x=b
 ·subst c;exact⟨o,F,A,λa l=>by rw[E,B a l]⟩
 ·obtain⟨y,t,s,H⟩:=h.obj x z;exact⟨y,by rw[q x c];exact t,s,λa l=>by rw[p _ λe=>c (h.inj _ _ e)];exact H a l⟩
theorem cR.viewDom(h:cR G T D ρ wL wM)(f:D b){a:Addr}(g:wL.heap[b]?=some (.view a u)):D a.block:=by obtain⟨o,e,_,d⟩:=h.obj b f;rw[g]at e;cases e;refine h.dom λc i=> ?_;have:=(d c i).symm.trans (d ρ h.self);simp only[eC,Option.some.injEq,Obj.view.injEq,and_true]at this;exact congrArg XU this
theorem vq(h:cR G T D ρ wL wM){p:Program}{a:Addr}{k:Bool}(t:D a.block){m:List Addr}(hv:wL.farLoad p a k= .ok (v,m)):
 wM.cell? (bC ρ a)=none/\wM.farLoad p (bC ρ a) k= .ok (v,m.map (bC ρ))/\(∀l,aE l v=v)/\∀x∈m,D x.block:=by
 obtain⟨o,w,C,E⟩:=h.obj _ t;have g:=E ρ h.self;unfold Pn at hv⊢;cases o<;>simp[cO]at C<;>simp only[w]at hv<;>first|(cases hv;done)|skip
 rename_i b u;have r:=h.viewDom t w;cases d:wL.viewLoad p b u a k with
 |error x=>rw[d]at hv;cases hv
 |ok y=>
  rw[d]at hv;cases hv;obtain⟨J,i,B,n⟩:=h.obj _ r;obtain⟨c,e,f,s⟩:∃c e f,wL.heap[b.block]?=some (.cells c e f):=by
   unfold YI at d;cases q:wL.seen p b u a k with
   |error x=>rw[q]at d;cases d
   |ok z=>exact m9 q
  rw[i]at s;cases s;obtain⟨I,H,F⟩:=xy p ρ i (n ρ h.self) d;refine⟨?_, ?_,H,λx A=>by rw[F x A];exact r⟩
  ·unfold AB;simp only[bC,g,eC]
  ·simp only[bC,g,eC];have j:=I;simp only[bC]at j;rw[j]
theorem ux(h:cR G T D ρ wL wM){p:Program}{a:Addr}{bb:Bool}(hb:D a.block){w1:World}{tc:List Addr}(hsame:∀ρ',aR G D ρ ρ'->aE ρ' v=aE ρ v)(hv:wL.farStore p a v bb= .ok (w1,tc)):
 ∃wM1,wM.cell? (bC ρ a)=none/\wM.farStore p (bC ρ a) (aE ρ v) bb= .ok (wM1,tc.map (bC ρ))/\ia G T D ρ wL wM D ρ w1 wM1/\∀x∈tc,D x.block:=by
 obtain⟨o,hL,hq,hM⟩:=h.obj _ hb;have hM0:=hM ρ h.self;unfold NE at hv⊢;cases o<;>simp[cO]at hq<;>simp only[hL]at hv<;>first|(cases hv;done)|skip
 rename_i at_ u;have hd:=h.viewDom hb hL;cases hl:wL.viewStore p at_ u a v bb with
 |error x=>rw[hl]at hv;cases hv
 |ok y=>
  rw[hl]at hv;cases hv;obtain⟨o2,hL2,hq2,hM2⟩:=h.obj _ hd;obtain⟨c,e,f,hc⟩:∃c e f,wL.heap[at_.block]?=some (.cells c e f):=by
   unfold WP at hl;by_cases ht:(!tight p p.depth u)=true
   ·rw[if_pos ht]at hl;cases hl
   rw[if_neg ht]at hl;cases hs:wL.seen p at_ u a bb with
   |error x=>rw[hs]at hl;cases hl
   |ok z=>exact m9 hs
  rw[hL2]at hc;cases hc;obtain⟨c1,rfl,h1,h3⟩:=iM p ρ hL2 (hM2 ρ h.self) hl;refine⟨{wM with heap:=wM.heap.setIfInBounds (ρ at_.block) (.cells (c1.map (aE ρ)) e f)}, ?_, ?_,h.turn hd (o:= .cells c1 e f) (o':= .cells (c1.map (aE ρ)) e f) rfl (λρ' hA=> ?_) ?_ ?_ (λk hk=> ?_) (λk hk=> ?_) s_ s_ rfl rfl rfl rfl rfl rfl,λx hx=>by rw[h3 x hx];exact hd⟩
  ·unfold AB;simp only[bC,hM0,eC]
  ·simp only[bC,hM0,eC];have h1':=h1;simp only[bC]at h1';rw[h1']
  ·obtain⟨c1',he,h1'',_⟩:=iM p ρ' hL2 (w':=wM) (by rw[hA.2 _ hd];exact hM2 ρ' hA) hl;have e1:bC ρ' at_=bC ρ at_:=(by simp[bC,hA.2 _ hd]);have e2:bC ρ' a=bC ρ a:=(by simp[bC,hA.2 _ hb]);rw[e1,e2,hsame ρ' hA,h1,hA.2 _ hd]at h1'';have hlt:=bH (hM2 ρ h.self);have ec:c1'=c1:=by have h5:=congrArg (λw:World=>w.heap[at_.block]?) he;simp only[kg (bH hL2),Option.some.injEq,Xs.injEq,and_true]at h5;exact h5.symm
   subst ec;simp only[Except.ok.injEq,Prod.mk.injEq,World.mk.injEq,and_true]at h1'';have h6:=congrArg (λhp:Array Obj=>hp[ρ at_.block]?) h1''.1;simp only[kg hlt,Option.some.injEq]at h6;exact h6
  ·simp[bH hL2]
  ·simp[bH (hM2 ρ h.self)]
  ·rw[Ll,if_neg (λe=>hk e.symm)]
  ·rw[Ll,if_neg (λe=>hk e.symm)]
theorem aR.of_ran{D':Nat->Prop}{a c:Nat->Nat}{wL' wM':World}(h:ia G T D ρ wL wM D' a wL' wM')(e:aR G D' a c):aR G D ρ c:=
 ⟨e.1,λb d=>(e.2 b (h.ext b d).1).trans (h.ext b d).2⟩
end
section
variable{α β:Type}
theorem kL{xs:Array Obj}{f:Obj->Obj}(h:k≠i):(xs.modify i f)[k]?=xs[k]?:=by grind
theorem tK{xs:Array Obj}{o:Obj}(h:k≠i):(xs.setIfInBounds i o)[k]?=xs[k]?:=by grind
theorem wb(a:Nat->Nat)(o:Obj):cO (eC a o)=cO o:=by
 cases o with
 |deferred b=>rcases b with _|_|⟨_,_⟩<;>rfl
 |_=>rfl
theorem u7{o:Obj}(h:cO o=true):o.isChan=false:=by cases o<;>simp[cO]at h<;>rfl
theorem dE{F:(Nat->Nat)->α->β}{G T:Nat}{k:Nat->Prop}{l d:Nat->Nat}{wL i g c:World}(n:ia G T D l wL i k d g c){s' s1:Sem β}{es1:Array Event}{r:Result α}{wL':World}
 (q:s'.runT PM i es=s1.runT PM c (es++es1)) (o:∀e∈es1,iL k d e)
 (h:∃D' a f wM' b,s1.runT PM c (es++es1)=(f,es++es1++b)/\Bm G F D' a r wL' f wM'/\ia G T k d g c D' a wL' wM'/\∀e∈b,iL D' a e):
 ∃D' a f wM' b,s'.runT PM i es=(f,es++b)/\Bm G F D' a r wL' f wM'/\ia G T D l wL i D' a wL' wM'/\∀e∈b,iL D' a e:=by
 obtain⟨D',a,f,wM',b,t,p,m,s⟩:=h;refine⟨D',a,f,wM',es1++b,by grind,p,n.trans m,λe j=> ?_⟩;rcases Hh.1 j with j|j
 ·exact(o e j).mono m.ext
 ·grind
theorem rk{x:Halt}(h:∀v,x≠ .panic v)(a:Dq (α:=α) (.halt x w) w'):False:=by cases x<;>first|exact a|exact h _ rfl
theorem kv{x:Halt}(h:eT x)(a:Dq (α:=α) (.halt x w) w'):False:=rk (λv e=>by rw[e]at h;exact h) a
theorem wu(w:World)(a:Addr)(b:String)(v:Value):w.noCell a b≠ .panic v:=by unfold World.noCell;split<;>simp
theorem pm{p:Program}{a:Addr}{b:Bool}{x:Halt}(e:w.farLoad p a b= .error x)(v:Value):x≠ .panic v:=by
 unfold Pn at e;split at e
 ·split at e<;>cases e;simp
 ·cases e;exact wu _ _ _ v
theorem Aq{p:Program}{a:Addr}{b:Bool}{x:Halt}(e:w.farStore p a v b= .error x)(u:Value):x≠ .panic u:=by
 unfold NE at e;split at e
 ·split at e<;>cases e;simp
 ·cases e;exact wu _ _ _ u
theorem IZ{b:Nat->Nat}{c:List Addr}{f:Bool}(h:∀x∈c,D x.block):∀e∈(c.map (bC b)).toArray.map (λa=>(⟨.cell a,f,false⟩:Event)),iL D b e:=by intro e d;simp only[Ye,List.mem_toArray,VJ]at d;obtain⟨a,⟨x,g,rfl⟩,rfl⟩:=d;exact⟨rfl,x.block,h x g,rfl⟩
theorem dN(hV:∀w a b,Pn PM w a b=Pn PL w a b)(hS:∀w a v b,NE PM w a v b=NE PL w a v b){G T:Nat}(F:(Nat->Nat)->α->β):∀(s:Sem α) (s':Sem β) (D:Nat->Prop) (l:Nat->Nat) (wL C:World),cR G T D l wL C->(∀g,aR G D l g->aF g PL PM (F g) s s')->
 ∀(es:Array Event) (r:Result α) (wL':World),s.run PL wL=r->Dq r wL'->wL'.drawn<=T->
  ∃D' g r' wM' a8,s'.runT PM C es=(r',es++a8)/\Bm G F D' g r wL' r' wM'/\ia G T D l wL C D' g wL' wM'/\∀e∈a8,iL D' g e:=by
 intro s;induction s with
 |pure a=>
  intro s' D l wL C z H es r wL' j I M;cases H l z.self;subst j;have:wL'=wL:=I;subst this;refine⟨D,l, .ok (F l a) C,C,#[],by simp[G4], .ok λg A=> ?_,ia.refl z,λe J=>by simp at J⟩;have:=H g A;generalize F l a=x at this;cases this;rfl
 |load m a k O=>
  intro s' D l wL C z H es r wL' j I M;cases H l z.self with
  | @load _ _ E h0=>
    have B:D a.block:=z.dom λg A=>by have:=H g A;generalize Q:bC l a=x at this;cases this;exact congrArg XU Q.symm
    obtain⟨o,U,R,P⟩:=z.obj _ B;rw[BY]at j;cases Y:wL.cell? a with
    |none=>
     simp only[Y]at j;cases Q:wL.farLoad PL a (Wh==VY)with
     |error x=>
      rw[Q]at j;subst j;exact(rk (pm Q) I).elim
     |ok y=>
      obtain⟨v,tc⟩:=y;rw[Q]at j;obtain⟨f1,f2,f3,f4⟩:=vq z B Q;refine dE (ia.refl z) (s1:=E v) (es1:=(tc.map (bC l)).toArray.map (⟨.cell ·,false,false⟩)) ?_ (IZ f4) (O v (E v) D l wL C z (λg A=> ?_) _ r wL' j I M)
      ·rw[G4,f1];simp only;rw[hV,f2];rfl
      ·have:=H g A;generalize bC l a=x at this;cases this with
       |load h=>
        have:=h v
        rwa [f3 g]at this
    |some v=>
     simp only[Y]at j;obtain⟨c,e,f,L,hs,hv⟩:=Ez Y;rw[U]at L;cases L;have a2:∀g,aR G D l g->C.cell? (bC l a)=some (aE g v):=λg A=>by rw[EA (w:=C) (a:=bC l a) (P g A) hs];show(c.map (aE g))[a.off]?=_;rw[wZ,hv];rfl
     have V:∀g,aR G D l g->aE g v=aE l v:=λg A=>Option.some.inj ((a2 g A).symm.trans (a2 l z.self));refine dE (ia.refl z) (s1:=E (aE l v)) (es1:=#[⟨.cell (bC l a),false,false⟩]) ?_ ?_ (O v (E (aE l v)) D l wL C z (λg A=> ?_) _ r wL' j I M)
     ·rw[G4,a2 l z.self];rfl
     ·intro e J;simp at J;subst J;exact⟨rfl,a.block,B,rfl⟩
     ·have:=H g A;rw[←V g A];generalize bC l a=x at this;cases this with
      |load h=>exact h v
 |store m a v k O=>
  intro s' D l wL C z H es r wL' j I M;cases H l z.self with
  | @store _ _ _ E h0=>
    have t:∀g,aR G D l g->bC l a=bC g a/\aE l v=aE g v/\aF g PL PM (F g) k E:=λg A=>by
     have:=H g A;generalize Q:bC l a=x at this;generalize hy:aE l v=y at this;cases this with
     |store h=>exact⟨rfl,rfl,h⟩
    have B:D a.block:=z.dom λg A=>(congrArg XU (t g A).1).symm;obtain⟨o,U,R,P⟩:=z.obj _ B;cases X:pW v with
    |false=>
     obtain⟨ac,hw⟩:=gV (p:=PL) (w:=wL) (m:= .plain) (a:=a) (k:=k) X;rw[hw]at j;subst j;exact I.elim
    |true=>
     rw[gn X]at j;cases Y:wL.cell? a with
     |none=>
      simp only[Y]at j;cases Q:wL.farStore PL a v (Wh==VY)with
      |error x=>
       rw[Q]at j;subst j;exact(rk (Aq Q) I).elim
      |ok y=>
       obtain⟨w1,tc⟩:=y;rw[Q]at j;obtain⟨ad,f1,f2,f3,f4⟩:=ux z B (λg A=>(t g A).2.1.symm) Q;refine dE f3 (s1:=E) (es1:=(tc.map (bC l)).toArray.map (⟨.cell ·,true,false⟩)) ?_ (IZ f4) (O E D l _ _ f3.rel (λg A=>(t g A).2.2) _ r wL' j I M);rw[ni (by rw[zS];exact X),f1];simp only;rw[hS,f2];rfl
     |some u=>
      simp only[Y]at j;obtain⟨c,e,f,L,hs,hv⟩:=Ez Y;rw[U]at L;cases L;by_cases hf:wL.frozen? a=true
      ·rw[if_pos hf]at j;subst j;exact I.elim
      ·rw[if_neg hf]at j;have a2:C.cell? (bC l a)=some (aE l u):=by rw[EA (w:=C) (a:=bC l a) (P l z.self) hs];show(c.map (aE l))[a.off]?=_;rw[wZ,hv];rfl
       have ab:C.frozen? (bC l a)=wL.frozen? a:=by have:=P l z.self;unfold Hv;simp only[bC,U,this,eC];rfl
       have K:ia G T D l wL C D l (wL.setCell a v) (C.setCell (bC l a) (aE l v)):=by
        refine z.turn B (o:= .cells (c.setIfInBounds a.off v) e f) (o':= .cells ((c.map (aE l)).setIfInBounds a.off (aE l v)) e f) rfl (λg A=> ?_) ?_ ?_ (λk hk=> ?_) (λk hk=> ?_) (by simp[BO]) (by simp[BO]) rfl rfl rfl rfl rfl rfl
        ·have Z:=(P g A).symm.trans (P l z.self);simp only[eC,Option.some.injEq,Xs.injEq,and_true]at Z;simp only[eC,Xs.injEq,and_true];rw[←Z,(t g A).2.1,VA]
        ·simp[BO,IN,U,hs]
        ·have:=P l z.self;simp[BO,IN,bC,this,hs,eC]
        ·exact kL hk
        ·exact kL hk
       refine dE K (s1:=E) (es1:=#[⟨.cell (bC l a),true,false⟩]) ?_ ?_ (O E D l _ _ K.rel (λg A=>(t g A).2.2) _ r wL' j I M)
       ·rw[ni (by rw[zS];exact X),a2,ab];simp only[hf];rfl
       ·intro e J;simp at J;subst J;exact⟨rfl,a.block,B,rfl⟩
 |new o k O=>
  intro s' D l wL C z H es r wL' j I M;cases H l z.self with
  | @new _ _ E R h0=>
    have t:∀g,aR G D l g->eC l o=eC g o/\∀b,aF g PL PM (F g) (k b) (E (g b)):=λg A=>by
     have:=H g A;generalize Q:eC l o=x at this;cases this with
     |new _ h=>exact⟨rfl,h⟩
    obtain⟨a5,hi,hn,J⟩:=z.fresh;have a6:∀g,aR G (λb=>D b\/b=wL.heap.size) a5 g->aR G D l g:=λg A=>⟨A.1,λb L=>(A.2 b (.inl L)).trans (J b L)⟩;have S:ia G T D l wL C (λb=>D b\/b=wL.heap.size) a5 {wL with heap:=wL.heap.push o} {C with heap:=C.heap.push (eC l o)}:=by
     refine⟨⟨hi.1,λb L=> ?_,z.tape,hi.2,by have:=z.far;simp only[Vs];omega,λb L=> ?_⟩,λb L=>⟨.inl L,J b L⟩,λb L=> ?_,s_,s_,λr hr _=> ?_,rfl,rfl,rfl,rfl,λr hr _=> ?_,λr Z h2=> .inr (by simp only[Vs]at h2;omega),d8 _,Z8 _ _⟩
     ·rcases L with L|rfl
      ·obtain⟨ob,Z,h2,h3⟩:=z.obj b L;refine⟨ob, ?_,h2,λg A=> ?_⟩
       ·rw[DY,if_neg (by have:=bH Z;omega)];exact Z
       ·rw[J b L,DY,if_neg (by have:=z.ltM L;omega)];exact h3 g (a6 g A)
      ·refine⟨o,s_,R,λg A=> ?_⟩;rw[hn,(t g (a6 g A)).1];simp
     ·rcases L with L|rfl
      ·exact z.out b L
      ·exact z.far.2.1
     ·rcases L with L|rfl
      ·exact .inl L
      ·exact .inr ⟨d8 _,by rw[hn];exact d8 _⟩
     ·rw[DY,if_neg o_]
     ·rw[DY,if_neg o_]
    refine dE S (s1:=E C.heap.size) (es1:=#[]) (by simp[G4]) (λe J=>by simp at J) (O wL.heap.size (E C.heap.size) _ a5 _ _ S.rel (λg A=> ?_) _ r wL' j I M);have Z:=(t g (a6 g A)).2 wL.heap.size;rwa [A.2 _ (.inr rfl),hn]at Z
 |shape N k O=>
  intro s' D l wL C z H es r wL' j I M;cases H l z.self with
  | @shape _ _ E h0=>
    have t:∀g,aR G D l g->l N=g N/\∀b,aF g PL PM (F g) (k b) (E b):=λg A=>by
     have:=H g A;generalize Q:l N=x at this;cases this with
     |shape h=>exact⟨rfl,h⟩
    have B:D N:=z.dom λg A=>(t g A).1.symm;obtain⟨o,U,R,P⟩:=z.obj _ B;have a9:C.shape? (l N)=wL.shape? N:=by have:=P l z.self;unfold World.shape?;rw[U,this];cases o<;>simp[cO]at R<;>simp[eC]
    refine dE (ia.refl z) (s1:=E (wL.shape? N)) (es1:=#[]) (by simp[G4,a9]) (λe J=>by simp at J) (O _ (E (wL.shape? N)) D l wL C z (λg A=>(t g A).2 _) _ r wL' j I M)
 |freeze a n k O=>
  intro s' D l wL C z H es r wL' j I M;cases H l z.self with
  | @freeze _ _ _ E h0=>
    have t:∀g,aR G D l g->bC l a=bC g a/\aF g PL PM (F g) k E:=λg A=>by
     have:=H g A;generalize Q:bC l a=x at this;cases this with
     |freeze h=>exact⟨rfl,h⟩
    have B:D a.block:=z.dom λg A=>(congrArg XU (t g A).1).symm;obtain⟨o,U,R,P⟩:=z.obj _ B;have K:ia G T D l wL C D l (wL.freeze a n) (C.freeze (bC l a) n):=by
     by_cases hn:n=0
     ·have e1:wL.freeze a n=wL:=(by simp[VZ,hn]);have e2:C.freeze (bC l a) n=C:=(by simp[VZ,hn]);rw[e1,e2];exact ia.refl z
     ·have a4:=P l z.self;refine z.turn B (o:=match o with| .cells c a3 (lo,hi)=> .cells c a3 (if lo==hi then(a.off,a.off+n)else(min lo a.off,max hi (a.off+n)))|o=>o) (o':=match eC l o with| .cells c a3 (lo,hi)=> .cells c a3 (if lo==hi then(a.off,a.off+n)else(min lo a.off,max hi (a.off+n)))|o=>o) ?_ (λg A=> ?_) ?_ ?_ (λk hk=> ?_) (λk hk=> ?_) ?_ ?_ ?_ ?_ ?_ ?_ ?_ ?_
      ·cases o<;>first|exact R|(simp[cO]at R;done)|rfl
      ·have Z:=(P g A).symm.trans (P l z.self);rw[Option.some.injEq]at Z;rw[←Z];cases o<;>simp[cO]at R<;>rfl
      ·simp only[VZ,if_neg hn,IN,U];cases o<;>simp[cO]at R<;>simp
      ·simp only[VZ,if_neg hn,IN,bC,a4];cases o<;>simp[cO]at R<;>simp[eC]
      ·simp only[VZ,if_neg hn];exact kL hk
      ·simp only[VZ,if_neg hn];exact kL hk
      all_goals simp[VZ,hn]
    refine dE K (s1:=E) (es1:=#[]) (by simp[G4]) (λe J=>by simp at J) (O E D l _ _ K.rel (λg A=>(t g A).2) _ r wL' j I M)
 |frozen a k O=>
  intro s' D l wL C z H es r wL' j I M;cases H l z.self with
  | @frozen _ _ E h0=>
    have t:∀g,aR G D l g->bC l a=bC g a/\∀b,aF g PL PM (F g) (k b) (E b):=λg A=>by
     have:=H g A;generalize Q:bC l a=x at this;cases this with
     |frozen h=>exact⟨rfl,h⟩
    have B:D a.block:=z.dom λg A=>(congrArg XU (t g A).1).symm;obtain⟨o,U,R,P⟩:=z.obj _ B;have aa:C.frozen? (bC l a)=wL.frozen? a:=by have:=P l z.self;unfold Hv;simp only[bC,U,this];cases o<;>simp[cO]at R<;>rfl
    refine dE (ia.refl z) (s1:=E (wL.frozen? a)) (es1:=#[]) (by simp[G4,aa]) (λe J=>by simp at J) (O _ (E (wL.frozen? a)) D l wL C z (λg A=>(t g A).2 _) _ r wL' j I M)
 |getObj N k O=>
  intro s' D l wL C z H es r wL' j I M;cases H l z.self with
  | @getObj _ _ E h0=>
    have t:∀g,aR G D l g->l N=g N/\∀o,cO o=true->aF g PL PM (F g) (k o) (E (eC g o)):=λg A=>by
     have:=H g A;generalize Q:l N=x at this;cases this with
     |getObj h=>exact⟨rfl,h⟩
    have B:D N:=z.dom λg A=>(t g A).1.symm;obtain⟨o,U,R,P⟩:=z.obj _ B;have V:∀g,aR G D l g->eC g o=eC l o:=λg A=>Option.some.inj ((P g A).symm.trans (P l z.self));rw[BY,U]at j;have a1:∀c e f,o≠ .cells c e f:=λc e f h=>by subst h;simp only at j;subst j;exact I.elim
    have W:(k o).run PL wL=r:=by cases o<;>first|exact j|exact absurd rfl (a1 _ _ _)
    refine dE (ia.refl z) (s1:=E (eC l o)) (es1:=#[⟨.obj (l N),false,false⟩]) ?_ ?_ (O o (E (eC l o)) D l wL C z (λg A=>by rw[←V g A];exact(t g A).2 o R) _ r wL' W I M)
    ·have:=P l z.self;have Y:=u7 (o:=eC l o) (by rw[wb];exact R);rw[G4,this];cases o<;>simp[cO]at R<;>first|exact absurd rfl (a1 _ _ _)|(simp only[eC]at Y⊢;rw[Y];rfl)
    ·intro e J;simp at J;subst J;exact⟨rfl,N,B,rfl⟩
 |setObj N o k O=>
  intro s' D l wL C z H es r wL' j I M;cases H l z.self with
  | @setObj _ _ _ E a7 h0=>
    have t:∀g,aR G D l g->l N=g N/\eC l o=eC g o/\aF g PL PM (F g) k E:=λg A=>by
     have:=H g A;generalize Q:l N=x at this;generalize hy:eC l o=y at this;cases this with
     |setObj _ h=>exact⟨rfl,rfl,h⟩
    have B:D N:=z.dom λg A=>(t g A).1.symm;obtain⟨o0,U,R,P⟩:=z.obj _ B;rw[BY,U]at j;have a1:∀c e f,o0≠ .cells c e f:=λc e f h=>by subst h;simp only at j;subst j;exact I.elim
    have W:k.run PL {wL with heap:=wL.heap.setIfInBounds N o}=r:=by cases o0<;>first|exact j|exact absurd rfl (a1 _ _ _)
    have a4:=P l z.self;have K:ia G T D l wL C D l {wL with heap:=wL.heap.setIfInBounds N o} {C with heap:=C.heap.setIfInBounds (l N) (eC l o)}:=by
     refine z.turn B (o:=o) (o':=eC l o) a7 (λg A=>(t g A).2.1) ?_ ?_ (λk hk=> ?_) (λk hk=> ?_) s_ s_ rfl rfl rfl rfl rfl rfl
     ·simp[bH U]
     ·simp[bH a4]
     ·exact tK hk
     ·exact tK hk
    refine dE K (s1:=E) (es1:=#[⟨.obj (l N),true,false⟩]) ?_ ?_ (O E D l _ _ K.rel (λg A=>(t g A).2.2) _ r wL' W I M)
    ·have Y:=u7 (o:=eC l o) (by rw[wb];exact a7);generalize eC l o=x at Y⊢;rw[G4,a4];cases o0<;>simp[cO]at R<;>first|exact absurd rfl (a1 _ _ _)|(simp only[eC,Y];rfl)
    ·intro e J;simp at J;subst J;exact⟨rfl,N,B,rfl⟩
 |choose q k O=>
  intro s' D l wL C z H es r wL' j I M;cases H l z.self with
  | @choose _ _ E h0=>
    have t:∀g,aR G D l g->∀b,aF g PL PM (F g) (k b) (E b):=λg A=>by
     cases H g A with
     |choose h=>exact h
    rw[BY]at j;by_cases hf:q.forced=true
    ·rw[if_pos hf]at j;refine dE (ia.refl z) (s1:=E 0) (es1:=#[]) (by simp[G4,hf]) (λe J=>by simp at J) (O 0 (E 0) D l wL C z (λg A=>t g A 0) _ r wL' j I M)
    ·rw[if_neg hf]at j;have S:ia G T D l wL C D l {wL with drawn:=wL.drawn+1} {C with drawn:=C.drawn+1}:=by refine⟨⟨z.inj,z.obj,λi hi=> ?_,z.glob,z.far,z.out⟩,λ_ L=>⟨L,rfl⟩,λ_ L=> .inl L,d8 _,d8 _,λ_ _ _=>rfl,rfl,rfl,rfl,rfl,λ_ _ _=>rfl,λr Z h2=>absurd h2 (Nat.not_lt.2 Z),Nat.le_succ _,by show C.drawn+1+wL.drawn=wL.drawn+1+C.drawn;omega⟩;have:=z.tape (1+i) (by have:wL.drawn+1+i<T:=hi;omega);rwa [←Y9,←Y9]at this
     have a0:=λes1=>O _ (E (q.cut (wL.tape wL.drawn q))) D l _ _ S.rel (λg A=>t g A _) es1 r wL' j I M;have ht:C.tape C.drawn=wL.tape wL.drawn:=by obtain⟨_,_,_,_,_,_,_,h3,_⟩:=a0 #[];have:wL.drawn+1<=wL'.drawn:=h3.drawn;exact z.tape 0 o_
     exact dE S (s1:=E (q.cut (wL.tape wL.drawn q))) (es1:=#[]) (by simp[G4,hf,ht]) (λe J=>by simp at J) (a0 _)
 |sys c k O=>
  intro s' D l wL C z H es r wL' j I M;cases H l z.self with
  |sys d=>
   obtain⟨x,w',Q,hd,_⟩:=d (wL.sys c).1 (wL.sys c).2;rw[BY,Q]at j;subst j;exact(kv hd I).elim
 |program k O=>
  intro s' D l wL C z H es r wL' j I M;cases H l z.self with
  | @program _ E h0=>
    have t:∀g,aR G D l g->aF g PL PM (F g) (k PL) (E PM):=λg A=>by
     cases H g A with
     |program h=>exact h
    exact dE (ia.refl z) (s1:=E PM) (es1:=#[]) (by simp[G4]) (λe J=>by simp at J) (O PL (E PM) D l wL C z t _ r wL' j I M)
 |mark m k O=>
  intro s' D l wL C z H es r wL' j I M;cases H l z.self with
  | @mark _ _ E hm h0=>
    have t:∀g,aR G D l g->aF g PL PM (F g) k E:=λg A=>by
     cases H g A with
     |mark _ h=>exact h
     |deadMark d=>rw[BY,BY]at j;subst j;exact(kv d I).elim
    refine dE (ia.refl z) (s1:=E) (es1:=#[⟨.mark m,false,true⟩]) rfl ?_ (O E D l wL C z t _ r wL' j I M);intro e J;simp at J;subst J;exact hm
  |deadMark d=>rw[BY,BY]at j;subst j;exact(kv d I).elim
 |halt h=>
  intro s' D l wL C z H es r wL' j I M;subst j;cases H l z.self with
  | @panic v hp=>
    have:wL'=wL:=I;subst this;exact⟨D,l,_,C,#[],by simp[G4], .panic hp,ia.refl z,λe J=>by simp at J⟩
  |dead d=>exact(kv d I).elim
end
structure bN (PL PM:Program):Prop where
 info:∀t,PL.info? t=PM.info? t
 under:∀t,PL.underlying t=PM.underlying t
 zero:∀t i z,PL.info? t=some i->i.zero=some z->bO z=true
 rt:PL.rt=PM.rt
 cells:∀t,PL.cellsOf t=PM.cellsOf t
 bytes:∀t,PL.bytesOf t=PM.bytesOf t
 byteOf:∀t o,byteOfCell PL PL.depth t o=byteOfCell PM PM.depth t o
 lies:∀e n o u m,liesAt PL PL.depth e n o u m=liesAt PM PM.depth e n o u m
 atBytes:∀e n o b,cellAtBytes PL PL.depth e n o b=cellAtBytes PM PM.depth e n o b
 held:∀e,PL.holdsStoodIn PL.depth e=PM.holdsStoodIn PM.depth e
 guard:∀t,PL.eqGuardType PL.depth t=PM.eqGuardType PM.depth t
 stood:∀t,PL.stoodInHeld t=PM.stoodInHeld t
 types:PL.types.size=PM.types.size
 packed:∀t,PL.holdsPacked PL.depth t=PM.holdsPacked PM.depth t
section
variable{α β:Type}{f:α->β}
theorem aO(a:α){b:β}(h:b=f a):aF ρ PL PM f (pure a:Sem α) (pure b):=h▸aF.pure a
theorem ff(a:String)(s:Sem β):aF ρ PL PM f (stuck a) s:= .dead trivial
theorem de(a:bN PL PM)(t:TypeId):aF ρ PL PM id (typeInfo t) (typeInfo t):=by
 refine .program ?_;show aF ρ PL PM id (match PL.info? t with|some i=>pure i|none=>stuck "no such type") (match PM.info? t with|some i=>pure i|none=>stuck "no such type");rw[a.info t];split
 ·exact aO _ rfl
 ·exact ff _ _
theorem aX(a:bN PL PM)(t:TypeId):aF ρ PL PM id (underlying t) (underlying t):=by
 refine .program ?_;show aF ρ PL PM id (match PL.underlying t with|some i=>pure i|none=>stuck "no such type") (match PM.underlying t with|some i=>pure i|none=>stuck "no such type");rw[a.under t];split
 ·exact aO _ rfl
 ·exact ff _ _
theorem my(a:bN PL PM)(t:TypeId):aF ρ PL PM (aE ρ) (zeroValue t) (zeroValue t):=by
 unfold zeroValue;show aF ρ PL PM (aE ρ) (typeInfo t>>=λi=>match i.zero with|some v=>pure v|none=>unsupported _) (typeInfo t>>=λi=>match i.zero with|some v=>pure v|none=>unsupported _);refine .program ?_;show aF ρ PL PM _ ((match PL.info? t with|some i=>pure i|none=>stuck "no such type" :Sem TypeInfo).bind _) ((match PM.info? t with|some i=>pure i|none=>stuck "no such type" :Sem TypeInfo).bind _);rw[←a.info t];cases c:PL.info? t with
 |none=>exact ff _ _
 |some i=>
  show aF ρ PL PM _ (match i.zero with|some v=>pure v|none=>unsupported _) (match i.zero with|some v=>pure v|none=>unsupported _);cases b:i.zero with
  |none=>exact .dead trivial
  |some z=>exact aO _ (dG ρ z (a.zero t i z c b)).symm
theorem eb(a:bN PL PM)(t:TypeId):aF ρ PL PM id (sizeOf t) (sizeOf t):=
 (de a t).bind λ_=>aO _ rfl
theorem uP(a:bN PL PM)(t:TypeId):aF ρ PL PM id (isAgg t) (isAgg t):=
 (aX a t).bind λd=>by show aF ρ PL PM id _ _;cases d<;>exact aO _ rfl
theorem jB(b:Nat->Nat)(a:Addr)(n:Nat):bC b (a.add n)=(bC b a).add n:=by unfold Addr.add bC;split<;>rfl
theorem ft(a:Nat->Nat)(v:Value):(aE a v).cells=v.cells.map (aE a):=by cases v<;>simp[aE,Value.cells]
theorem tj(a:Addr):aF ρ PL PM (aE ρ) (load a) (load (bC ρ a)):= .load λv=> .pure v
theorem Jr(a:Addr)(v:Value):aF ρ PL PM id (store a v) (store (bC ρ a) (aE ρ v)):= .store (.pure ())
theorem De(o:Obj)(a:cO o=true):aF ρ PL PM ρ (newObj o) (newObj (eC ρ o)):= .new a λb=> .pure b
theorem lP(a:Addr):∀(n i:Nat) (b:Array Value),aF ρ PL PM (VX (aE ρ)) (loadCellsFrom a i n b) (loadCellsFrom (bC ρ a) i n (b.map (aE ρ)))
 |0,_,b=>aO _ rfl
 |n+1,i,b=>by unfold loadCellsFrom;refine aF.bind (f:=aE ρ) (by rw[←jB];exact tj _) λv=> ?_;have:=lP a n (i+1) (b.push v);rwa [ZK]at this
theorem i9(a:Addr)(n:Nat):aF ρ PL PM (VX (aE ρ)) (loadCells a n) (loadCells (bC ρ a) n):=by have:=lP (ρ:=ρ) (PL:=PL) (PM:=PM) a n 0 #[];simpa[loadCells]using this
theorem iR(a:Addr):∀(b:List Value) (i:Nat),aF ρ PL PM id (storeCells a b i) (storeCells (bC ρ a) (b.map (aE ρ)) i)
 |[],_=>by unfold storeCells;exact aO _ rfl
 |v::r,i=>by unfold storeCells;exact aF.bind (f:=id) (by rw[←jB];exact Jr _ _) λ_=>iR a r (i+1)
theorem jV(c:bN PL PM)(t:TypeId)(a:Addr):aF ρ PL PM (aE ρ) (loadVar t a) (loadVar t (bC ρ a)):=by
 unfold loadVar;refine(uP c t).bind λb=> ?_;cases b with
 |true=>exact(eb c t).bind λn=>(i9 a n).bind λd=>aO _ (by simp[aE])
 |false=>exact tj a
theorem B1(b:bN PL PM)(t:TypeId)(a:Addr)(v:Value):aF ρ PL PM id (storeVar t a v) (storeVar t (bC ρ a) (aE ρ v)):=by
 unfold storeVar;refine(eb b t).bind λn=> ?_;rw[ft,M1];show aF ρ PL PM id (if v.cells.size≠n then _ else _) (if v.cells.size≠n then _ else _);split
 ·exact(ff (f:=id) _ _:aF ρ PL PM id _ _).bind λa=>by rw[Oj];exact iR _ _ _
 ·rw[Oj];exact iR _ _ _
theorem g8(e:TypeId)(cs:Array Value):aF ρ PL PM (bC ρ) (newRow e cs) (newRow e (cs.map (aE ρ))):=
 (De (.cells cs e) rfl).bind λ_=>aO _ rfl
theorem GI(t:TypeId)(v:Value):aF ρ PL PM (bC ρ) (newVar t v) (newVar t (aE ρ v)):=by unfold newVar;rw[ft];exact g8 _ _
theorem yJ(a:bN PL PM)(t:TypeId)(cs:Array Value)(off:Nat):aF ρ PL PM (aE ρ) (part t cs off) (part t (cs.map (aE ρ)) off):=by
 unfold part;refine(uP a t).bind λb=> ?_;cases b with
 |true=>exact(eb a t).bind λn=>aO _ (by simp[aE,X6])
 |false=>
  show aF ρ PL PM (aE ρ) (match cs[off]? with|some v=>pure v|none=>stuck _) (match (cs.map (aE ρ))[off]? with|some v=>pure v|none=>stuck _);rw[wZ];cases cs[off]? with
  |none=>exact ff _ _
  |some v=>exact aO _ rfl
theorem pA(v:Value):aF ρ PL PM id (asIntOf v) (asIntOf (aE ρ v)):=by
 cases v<;>simp only[aE,asIntOf]<;>first|exact aO _ rfl|exact ff _ _|skip
 rename_i a;cases a with
 |none=>exact ff _ _
 |some a=>exact .dead trivial
theorem lR(v:Value):aF ρ PL PM id (asInt v) (asInt (aE ρ v)):=(pA v).bind λ_=>aO _ rfl
theorem xp(v:Value):aF ρ PL PM id (asBool v) (asBool (aE ρ v)):=by cases v<;>simp only[aE,asBool]<;>first|exact aO _ rfl|exact ff _ _
theorem SF(v:Value):aF ρ PL PM id (asString v) (asString (aE ρ v)):=by cases v<;>simp only[aE,asString]<;>first|exact aO _ rfl|exact ff _ _
theorem JA(v:Value):aF ρ PL PM (VX (aE ρ)) (asAgg v) (asAgg (aE ρ v)):=by cases v<;>simp only[aE,asAgg]<;>first|exact aO _ rfl|exact ff _ _
theorem B0(v:Value):aF ρ PL PM (bC ρ) (NK v) (NK (aE ρ v)):=by
 cases v<;>simp only[aE,NK]<;>first|exact ff _ _|skip
 rename_i a;cases a with
 |none=>exact ff _ _
 |some a=>exact aO _ rfl
end
section
variable{α β:Type}{f:α->β}
theorem cE{c:Prop}[Decidable c]{A B:Sem α}{b a:Sem β}(e:aF ρ PL PM f A b)(d:aF ρ PL PM f B a):aF ρ PL PM f (if c then A else B) (if c then b else a):=by split<;>assumption
theorem xg(a:Addr):(bC ρ a).block=ρ a.block:=rfl
theorem Rs(a:Addr):(bC ρ a).off=a.off:=rfl
theorem MU(a:Addr):(bC ρ a).spot=a.spot:=rfl
def zK:RuntimeError->Bool
 | .bounds _ _ _ _| .error _| .plain _| .nilDeref=>true
 |_=>false
theorem jU(hP:bN PL PM){e:RuntimeError}(a:zK e=true):aF ρ PL PM f (runtimePanic e) (runtimePanic e):= .program (by simp only[BW,hP.rt];cases e<;>cases a<;>exact .panic (by rfl))
theorem kS(hP:bN PL PM){e:RuntimeError}(d:zK e=true){b a:Type}(k:b->Sem α)(c:a->Sem β):aF ρ PL PM f (runtimePanic e>>=k) (runtimePanic e>>=c):= .program (by simp only[BW,hP.rt];cases e<;>cases d<;>exact .panic (by rfl))
theorem aL{s:Sem α}{s':Sem β}(h:aF ρ PL PM f s s':=by
 first
 |exact nS hP _ _ _ _ _ none
 |with_reducible first
  |exact aX hP _
  |exact eb hP _
  |exact de hP _
  |exact B0 _
  |exact pA _
  |exact lR _
  |exact uP hP _
  |exact my hP _
  |exact xp _
  |exact JA _
  |exact SF _
  |exact GI _ _
  |exact g8 _ _
  |exact jV hP _ _
  |exact B1 hP _ _ _
  |exact tj _
  |exact i9 _ _
  |exact iR _ _ _
  |exact yJ hP _ _ _
  |exact lN _
  |exact xi _
  |exact xf _
  |exact GH _
  |exact lQ hP _
  |exact xo hP _ _ _ _
  |exact GG hP _ _ _
  |exact kT hP _ _
  |exact vB hP _ _ _
  |exact nS hP _ _ _ _ _ _
  |exact lS hP _
  |exact Js hP _ _ _ _ _
  |exact jY _
  |exact xn hP _
  |exact uL hP _ _ _
  |exact qI _ _ _
  |exact PU _
  |exact Qm hP _
  |exact sG _
  |exact MW _ _
  |exact iI _
  |exact Mb _
  |exact MV _ _
  |exact MS hi _ _
  |exact MS hF.1 _ _
  |exact uM hF.1 _ _
  |exact vD _ _
  |exact Ba hi _ _ _ _ _
  |exact mJ _ _ _
  |exact ih _ _ _
  |exact SI _ _ _ _
  |exact Qn hP _ _ _ _
  |exact SK _ _ _ _
  |exact Rr hP _ _ _ _ _
  |exact SL _ _ _
  |exact MR _ _ _
  |exact Bd _
  |exact iT _ _ _
  |exact lO _
  |exact ry _ _
  |exact rx _ _
  |exact rF _
  |exact rz _
  |exact vE _ _ _
  |exact mJ _ _ _
  |exact oz _ _ _ _
  |exact JU _ _ _ _
  |exact SJ _ _ _ _
  |exact Mg _ _ _ _ _ _
  |exact Dl hP hF _ _ _
  |exact Dm hP hF _ _ _
  |exact PY hP _ _ _
  |exact qH hP hF _ _
 |exact De _ rfl
 ):aF ρ PL PM f s s':=h
theorem aU{s:Sem α}{s':Sem β}(h:aF ρ PL PM f s s':=by
 try simp only[id,aE,xg,Rs,MU,Option.map_none,Option.map_some,Option.isSome_map,Array.getElem?_map,pure_bind,bind_assoc]
 first
 |exact .dead trivial
 |exact .program (.dead trivial)
 |with_reducible exact jU hP rfl
 |with_reducible exact kS hP rfl _ _
 |exact aO _ (by first|rfl|(simp[aE,goInt,jB,Function.comp_def,apply_ite (bC ρ),apply_ite (Option.map (bC ρ))];done)|(simp[aE,bC];done))
 |exact aL
 |refine cE ?_ ?_
 |(apply aF.bind;(· exact aL);intro a)
 |refine .choose λn=> ?_
 |exact .getObj λo ho=>by cases o<;>first|exact .dead trivial|(simp[cO]at ho;done)
 |(refine .program ?_;try simp only[Sem.bind,hP.held,hP.cells,hP.bytes,hP.byteOf,hP.lies,hP.atBytes,hP.guard,hP.stood,hP.packed])
 |cases (a:TypeDesc)
 |cases (x:Value)
 |cases (y:Value)
 |cases (op:BinOp)
 |cases (a:Option _)
 |cases (a:Bool)
 |(split<;>try simp_all only[Option.map_some,Option.map_none,Option.some.injEq,reduceCtorEq,Value.slice.injEq,Value.pointer.injEq,Value.map.injEq,Value.chan.injEq])
 all_goals first|contradiction|exact aU
 ):aF ρ PL PM f s s':=h
theorem xo(hP:bN PL PM)(k:IntKind)(x y:Int)(c:BoundsCode):aF ρ PL PM f (boundsPanic k x y c) (boundsPanic k x y c):=by
 unfold boundsPanic;dsimp only;split
 ·exact .choose λn=>jU (e:= .bounds (A8.wrap x) y (n==1) c) hP rfl
 ·exact jU (e:= .bounds (A8.wrap x) y _ c) hP rfl
theorem JB(hP:bN PL PM)(t:TypeId):aF ρ PL PM (aE ρ) (Ee t true (.tuple #[])) (Ee t true (.tuple #[])):=by unfold Ee;exact aU
theorem PW(t:TypeId)(v:Value):aF ρ PL PM (aE ρ) (YQ t v) (YQ t (aE ρ v)):=by unfold YQ;exact aU
theorem gO(hP:bN PL PM)(t:TypeId)(v:Value):aF ρ PL PM (aE ρ) (r8 t v) (r8 t (aE ρ v)):=by unfold r8;exact aU
theorem Dc(hP:bN PL PM)(t:TypeId)(v z:Value):aF ρ PL PM id (Rl t v z) (Rl t (aE ρ v) (aE ρ z)):=by unfold Rl;exact aU
theorem lN(r:Nat):aF ρ PL PM id (shape r) (shape (ρ r)):= .shape λs=> .pure s
theorem xf(r:Nat):aF ρ PL PM (XS λx=>(bC ρ x.1,x.2)) (viewAt r) (viewAt (ρ r)):=by
 unfold viewAt;refine(lN r).bind λs=> ?_;cases s
 ·exact .getObj λo _=>by cases o<;>exact aO _ rfl
 ·exact aO _ rfl
theorem GH(a:Addr):aF ρ PL PM id (noView a) (noView (bC ρ a)):=by unfold noView;exact aU
theorem lQ(hP:bN PL PM)(a:Addr):aF ρ PL PM id (byteOf a) (byteOf (bC ρ a)):=by unfold byteOf;rw[MU];cases a.spot<;>exact aU
theorem GG(d:bN PL PM)(a:Addr)(c b:Nat):aF ρ PL PM (bC ρ) (partAt a c b) (partAt (bC ρ a) c b):=by unfold partAt;refine(lQ d a).bind λx=> ?_;refine(lQ d {block:=a.block,off:=a.off+c}).bind λy=>aO _ ?_;simp only[id];split<;>rfl
theorem kT(hP:bN PL PM)(a:Addr)(b:Field):aF ρ PL PM (bC ρ) (fieldPlace a b) (fieldPlace (bC ρ a) b):=by unfold fieldPlace;exact aU
theorem Dg(hP:bN PL PM)(t:TypeId)(v:Value)(i:Nat):aF ρ PL PM (aE ρ) (we t v i) (we t (aE ρ v) i):=by unfold we;exact aU
theorem jW(hP:bN PL PM)(t:TypeId)(x a:Value):aF ρ PL PM (aE ρ) (M2 t x a) (M2 t (aE ρ x) (aE ρ a)):=by unfold M2;exact aU
theorem vB(hP:bN PL PM)(v:Value)(y:Nat)(c:BoundsCode):aF ρ PL PM id (LY v y c) (LY (aE ρ v) y c):=by unfold LY;exact aU
theorem nS(hP:bN PL PM)(s:Bool)(len cap:Nat)(b hi a:Option Value):aF ρ PL PM id (Kg s len cap b hi a) (Kg s len cap (b.map (aE ρ)) (hi.map (aE ρ)) (a.map (aE ρ))):=by unfold Kg;cases a<;>cases hi<;>cases b<;>exact aU
theorem lS(b:bN PL PM)(v:Value):aF ρ PL PM (bC ρ) (asAddr v) (asAddr (aE ρ v)):=by
 cases v<;>simp only[aE,asAddr]<;>first|exact ff _ _|skip
 rename_i a;cases a with
 |none=>exact jU b rfl
 |some a=>exact aO _ rfl
theorem Js(hP:bN PL PM)(t:TypeId)(x:Value)(b hi a:Option Value):aF ρ PL PM (aE ρ) (Vh t x b hi a) (Vh t (aE ρ x) (b.map (aE ρ)) (hi.map (aE ρ)) (a.map (aE ρ))):=by unfold Vh;exact aU
theorem Dd(hP:bN PL PM)(t:TypeId)(x:Value)(b hi a:Option Value):aF ρ PL PM (aE ρ) (JR t x b hi a) (JR t (aE ρ x) (b.map (aE ρ)) (hi.map (aE ρ)) (a.map (aE ρ))):=by unfold JR;exact aU
theorem Ju(hP:bN PL PM)(t:TypeId)(x a:Value):aF ρ PL PM (aE ρ) (WC t x a) (WC t (aE ρ x) (aE ρ a)):=by unfold WC;exact aU
theorem Jw(hP:bN PL PM)(t:TypeId)(v:Value)(i:Nat):aF ρ PL PM (aE ρ) (Ef t v i) (Ef t (aE ρ v) i):=by unfold Ef;exact aU
theorem Dh(x:Value)(i:Nat):aF ρ PL PM (aE ρ) (Ya x i) (Ya (aE ρ x) i):=by unfold Ya;exact aU
theorem Bc(fn:Fn)(b:oh fn=true)(first a:Array Value):aF ρ PL PM (aE ρ) (X8 fn first a) (X8 fn (first.map (aE ρ)) (a.map (aE ρ))):=
 aO _ (by rw[aE,rY ρ b])
theorem jY(n:Nat):aF ρ PL PM id (askRoom n) (askRoom n):=by
 unfold askRoom;split
 ·exact .mark rfl (.pure ())
 ·exact aO _ rfl
theorem Ln(a:Nat->Nat)(z:Array Value)(i:Nat):(z.map (aE a))[i]! =aE a (z[i]!):=by
 have b:aE a (default:Value)=default:=dG a _ (by rfl);by_cases h:i<z.size
 ·simp[h]
 ·simp[h,b]
theorem qb(a:Nat->Nat)(z:Array Value)(n:Nat):((XC n).map λx=>(z.map (aE a))[x%(z.map (aE a)).size]!)=((XC n).map λx=>z[x%z.size]!).map (aE a):=by rw[Xw];apply Vx;intro i _;rw[Ln,M1];rfl
end
section
variable{α β:Type}{f:α->β}
theorem yL(e:bN PL PM)(t:TypeId)(l c:Value):aF ρ PL PM (aE ρ) (Po t l c) (Po t (aE ρ l) (aE ρ c)):=by
 unfold Po;refine(aX e t).bind λd=> ?_;cases d with
 |slice b=>
  refine(lR l).bind λl=>(lR c).bind λc=>(de e b).bind λi=> ?_;dsimp only[id];refine cE ?_ ?_
  ·refine cE (kS e rfl _ _) (cE (kS e rfl _ _) ?_);exact aF.bind (f:=id) (.choose λn=> .pure n) λn=>kS e rfl _ _
  ·refine(jY _).bind λ_=>(eb e b).bind λg=> ?_;dsimp only[id];refine cE ?_ ?_
   ·have h:=qb ρ #[] ((A8.wrap c).toNat*g);rw[ZE]at h;refine aF.bind (f:=bC ρ) ?_ λa=>aO _ (by simp[aE]);have:=g8 (ρ:=ρ) (PL:=PL) (PM:=PM) b ((XC ((A8.wrap c).toNat*g)).map λx=>(#[]:Array Value)[x%(#[]:Array Value).size]!);rwa [←h]at this
   ·refine(my e b).bind λz=> ?_;refine aF.bind (f:=bC ρ) ?_ λa=>aO _ (by simp[aE]);rw[ft,qb];exact g8 _ _
 |_=>exact .dead trivial
theorem su(a:Nat->Nat)(off:Nat):∀(l:List (Value×Nat)) (cs:Array Value),
 (l.map λx=>(aE a x.1,x.2)).foldl (λcs x=>cs.setIfInBounds (off+x.2) x.1) (cs.map (aE a))=(l.foldl (λcs x=>cs.setIfInBounds (off+x.2) x.1) cs).map (aE a)
 |[],_=>rfl
 |x::l,cs=>by rw[rn,XF,XF,←VA,su a off l]
theorem nD(c:Nat->Nat)(a:Nat->Option (Nat×Nat)):∀(b:List (Nat×Value)) (cells:Array Value),
 W3 a (cells.map (aE c)) (b.map λx=>(x.1,aE c x.2))=(W3 a cells b).map (VX (aE c))
 |[],_=>rfl
 |(i,v)::rest,cells=>by
  rw[rn];unfold W3;cases a i with
  |none=>rfl
  |some p=>
   obtain⟨off,size⟩:=p;simp only[ft,M1];split
   ·rfl
   ·rw[←nD c a rest]
    congr 1
    have h:=su c off v.cells.zipIdx.toList cells;simp only[←XV];rw[←h]
    congr 1
    simp[List.zipIdx_map]
theorem EJ{a b:Type}{g g':a->Sem b}(h:∀x,aF ρ PL PM id (g x) (g' x)):∀l:List a,aF ρ PL PM id (l.mapM g) (l.mapM g')
 |[]=>by simp only[List.mapM_nil];exact aO _ rfl
 |x::l=>by simp only[List.mapM_cons];exact(h x).bind λy=>(EJ h l).bind λc=>aO _ rfl
theorem Me{a b:Type}{g g':a->Sem b}(h:∀x,aF ρ PL PM id (g x) (g' x))(xs:Array a):aF ρ PL PM id (xs.mapM g) (xs.mapM g'):=by rw[VU,VU,map_eq_pure_bind,map_eq_pure_bind];exact(EJ h _).bind λc=>aO _ rfl
theorem Jz(hP:bN PL PM)(t:TypeId)(b:Array (Nat×Value)):aF ρ PL PM (aE ρ) (C9 t b) (C9 t (b.map λx=>(x.1,aE ρ x.2))):=by
 unfold C9;refine(my hP t).bind λz=>(aX hP t).bind λd=> ?_;have e:(b.map λx=>(x.1,aE ρ x.2)).toList=b.toList.map λx=>(x.1,aE ρ x.2):=s_
 cases d<;>try exact aU
 ·refine(eb hP _).bind λg=> ?_;rw[ft,e,nD];dsimp only[id];generalize W3 _ _ _=a;cases a<;>exact aU
 ·refine aF.bind (f:=id) (Me (λx=>by exact aU) _) λc=> ?_;dsimp only[id];rw[ft,e,nD];generalize W3 _ _ _=a;cases a<;>exact aU
theorem vF(j:bN PL PM)(t:TypeId)(f:Nat)(b:Array (Nat×Value)):aF ρ PL PM (aE ρ) (Fi t f b) (Fi t f (b.map λx=>(x.1,aE ρ x.2))):=by
 unfold Fi;have k:(b.map λx=>(x.1,aE ρ x.2)).toList=b.toList.map λx=>(x.1,aE ρ x.2):=s_
 refine(aX j t).bind λd=> ?_;cases d with
 |slice e=>
  refine(eb j e).bind λg=> ?_;dsimp only[id];refine cE (.dead trivial) (cE ?_ ?_)
  ·have h:=qb ρ #[] (f*g);rw[ZE]at h;have l:=nD ρ (λi=>some (i*g,g)) b.toList ((XC (f*g)).map λx=>(#[]:Array Value)[x%(#[]:Array Value).size]!);rw[←h]at l;show aF ρ PL PM (aE ρ) (match W3 _ _ _ with|some c=>_|_=>_) (match W3 _ _ _ with|some c=>_|_=>_);rw[k,l];cases W3 (λi=>some (i*g,g)) ((XC (f*g)).map λx=>(#[]:Array Value)[x%(#[]:Array Value).size]!) b.toList with
   |none=>exact .dead trivial
   |some c=>exact(g8 e c).bind λa=>aO _ (by simp[aE])
  ·refine(my j e).bind λz=> ?_;show aF ρ PL PM (aE ρ) (match W3 _ _ _ with|some c=>_|_=>_) (match W3 _ _ _ with|some c=>_|_=>_);rw[ft,qb,k,nD];cases W3 (λi=>some (i*g,g)) ((XC (f*g)).map λx=>z.cells[x%z.cells.size]!) b.toList with
   |none=>exact .dead trivial
   |some c=>exact(g8 e c).bind λa=>aO _ (by simp[aE])
 |_=>exact .dead trivial
theorem SI(op:BinOp)(k:IntKind)(x y:Int):aF ρ PL PM (aE ρ) (Zy op k x y) (Zy op k x y):=by unfold Zy;exact aU
theorem Qn(hP:bN PL PM)(op:BinOp)(k:IntKind)(x y:Int):aF ρ PL PM (aE ρ) (a01 op k x y) (a01 op k x y):=by unfold a01;exact aU
theorem SK(op:BinOp)(k:IntKind)(x y:Int):aF ρ PL PM (aE ρ) (ZL op k x y) (ZL op k x y):=by unfold ZL;exact aU
theorem Rr(hP:bN PL PM)(op:BinOp)(k:IntKind)(x:Int)(k2:IntKind)(y:Int):aF ρ PL PM (aE ρ) (a09 op k x k2 y) (a09 op k x k2 y):=by unfold a09;exact aU
theorem SL(op:BinOp)(x y:Int):aF ρ PL PM (aE ρ) (a02 op x y) (a02 op x y):=by unfold a02;exact aU
theorem MR(op:BinOp)(x y:ByteArray):aF ρ PL PM (aE ρ) (Zz op x y) (Zz op x y):=by unfold Zz;exact aU
theorem Jq(op:UnOp)(x:Value):aF ρ PL PM (aE ρ) (Op.unary op x) (Op.unary op (aE ρ x)):=by cases x<;>cases op<;>first|exact aU|(rename_i a;cases a<;>exact aU)
end
section
variable{α β:Type}{f:α->β}
theorem tZ(k:∀x y,ρ x=ρ y->x=y)(a b:Addr):(bC ρ a==bC ρ b)=(a==b):=by
 obtain⟨j,i,g⟩:=a;obtain⟨f,d,c⟩:=b;by_cases h:(⟨j,i,g⟩:Addr)=⟨f,d,c⟩
 ·rw[h];simp
 ·have l:bC ρ ⟨j,i,g⟩≠bC ρ ⟨f,d,c⟩:=λe=>h (by simp only[bC,Addr.mk.injEq]at e⊢;exact⟨k _ _ e.1,e.2⟩)
  rw[beq_eq_false_iff_ne.2 h,beq_eq_false_iff_ne.2 l]
theorem lK(c:∀x y,ρ x=ρ y->x=y)(a b:Nat):(ρ a==ρ b)=(a==b):=by
 by_cases h:a=b
 ·subst h;simp
 ·rw[beq_eq_false_iff_ne.2 h,beq_eq_false_iff_ne.2 λe=>h (c _ _ e)]
theorem xi(a:Addr):aF ρ PL PM id (frozen a) (frozen (bC ρ a)):= .frozen λb=> .pure b
theorem Mb(a:Addr):aF ρ PL PM id (stringish a) (stringish (bC ρ a)):=by
 unfold stringish;refine(xi a).bind λb=>cE aU ((lN a.block).bind λs=> ?_);cases s
 ·exact aU
 ·exact .frozen λb=> .pure b
theorem MV(a b:Addr):aF ρ PL PM id (mayBeOne a b) (mayBeOne (bC ρ a) (bC ρ b)):=by unfold mayBeOne;exact aU
theorem MS(hi:∀x y,ρ x=ρ y->x=y)(a b:Addr):aF ρ PL PM id (sameAddr a b) (sameAddr (bC ρ a) (bC ρ b)):=by unfold sameAddr;rw[xg,xg,lK hi,tZ hi];exact aU
theorem uM(hi:∀x y,ρ x=ρ y->x=y)(a b:Option Addr):aF ρ PL PM id (samePointer a b) (samePointer (a.map (bC ρ)) (b.map (bC ρ))):=by cases a<;>cases b<;>unfold samePointer<;>exact aU
end
section
variable{α β:Type}{f:α->β}
theorem rB{a d:Type}(r:a->a){g g':a->d->Sem (ForInStep d)}(h:∀c s,aF ρ PL PM id (g c s) (g' (r c) s)):∀(l:List a) (b:d),aF ρ PL PM id (forIn l b g) (forIn (l.map r) b g')
 |[],b=>by simp only[Xa,List.forIn_nil];exact aO _ rfl
 |c::l,b=>by
  simp only[rn,List.forIn_cons];refine(h c b).bind λs=> ?_;cases s with
  |done x=>exact aO _ rfl
  |yield x=>exact rB r h l x
theorem rC{a d:Type}(r:a->a){g g':a->d->Sem (ForInStep d)}(h:∀c s,aF ρ PL PM id (g c s) (g' (r c) s))(xs:Array a)(b:d):aF ρ PL PM id (forIn xs b g) (forIn (xs.map r) b g'):=by rw[←XW,←XW,Oj];exact rB r h _ _
theorem rF(x:Value):aF ρ PL PM (aE ρ) (Wi x) (Wi (aE ρ x)):=by
 unfold Wi;cases x<;>try exact aU
 rename_i a l c;cases a
 ·exact aU
 ·simp only[aE,d9];refine(i9 _ l).bind λb=>(rC (aE ρ) (λx s=> ?_) b VD).bind λs=>aU;cases x<;>exact aU
theorem lO(a:Addr):aF ρ PL PM id (markStringish a) (markStringish (bC ρ a)):=by
 unfold markStringish;refine(lN a.block).bind λs=> ?_;cases s
 ·exact aU
 ·exact aF.freeze (a:=⟨_,_,none⟩) (.pure ())
theorem ry(e:TypeId)(s:ByteArray):aF ρ PL PM (aE ρ) (XX e s) (XX e s):=by
 unfold XX;refine aF.bind (f:=id) (.choose λn=> .pure n) λc=> ?_;dsimp only[id];refine aF.bind (f:=bC ρ) ?_ λa=>(lO a).bind λ_=>aO _ (by simp[aE]);have h:=g8 (ρ:=ρ) (PL:=PL) (PM:=PM) e ((s.data.map λb:UInt8=>Value.int .u8 b.toNat)++kx (c- s.size) (Value.int .u8 0));have g:((s.data.map λb:UInt8=>Value.int .u8 b.toNat)++kx (c- s.size) (Value.int .u8 0)).map (aE ρ)=(s.data.map λb:UInt8=>Value.int .u8 b.toNat)++kx (c- s.size) (Value.int .u8 0):=by
  refine jJ λv d=> ?_;rcases Hh.1 d with d|d
  ·obtain⟨b,_,rfl⟩:=ZZ.1 d;simp[aE]
  ·obtain⟨_,rfl⟩:=Array.mem_replicate.1 d;simp[aE]
 rwa [g]at h
theorem PT(hP:bN PL PM)(a:Array TypeId)(t:TypeId)(args:Array Value):aF ρ PL PM (aE ρ) (Pr a t args) (Pr a t (args.map (aE ρ))):=by unfold Pr;rw[wZ];cases a[0]?<;>cases args[0]?<;>exact aU
theorem PV(hP:bN PL PM)(a:Array TypeId)(t:TypeId)(args:Array Value):aF ρ PL PM (aE ρ) (Z9 a t args) (Z9 a t (args.map (aE ρ))):=by unfold Z9;rw[wZ];cases a[0]?<;>cases args[0]?<;>exact aU
theorem Bd(x:Value):aF ρ PL PM id (Xx x) (Xx (aE ρ x)):=by unfold Xx;exact aU
theorem iT(size n:Nat)(x:Value):aF ρ PL PM (VX (aE ρ)) (VM size n x) (VM size n (aE ρ x)):=by
 cases x with
 |slice a l c=>
  cases a with
  |none=>simp only[aE,WQ];exact aO _ s_
  |some a=>simp only[aE,d9];exact i9 a _
 |string s=>
  simp only[aE];refine aO _ (jJ λv d=> ?_).symm;obtain⟨b,_,rfl⟩:=ZZ.1 d;simp[aE]
 |_=>simp only[aE];exact .dead trivial
theorem Mf(hP:bN PL PM)(b:Array TypeId)(t:TypeId)(args:Array Value):aF ρ PL PM (aE ρ) (W4 b t args) (W4 b t (args.map (aE ρ))):=by
 unfold W4;rw[wZ,wZ];cases b[0]?<;>cases args[0]?<;>cases args[1]?<;>try exact .dead trivial
 rename_i x v;refine(aX hP _).bind λa=> ?_;cases a<;>try exact .dead trivial
 cases x<;>try exact .dead trivial
 simp only[aE];refine(Bd v).bind λn=>(eb hP _).bind λc=>(iT _ _ v).bind λd=> ?_;rename_i a _ _;cases a
 ·exact aU
 ·simp only[d9,Oj];exact aU
theorem Mc(x y:Value):aF ρ PL PM (aE ρ) (Xb x y) (Xb (aE ρ x) (aE ρ y)):=by cases x<;>cases y<;>unfold Xb<;>first|exact aU|(rename_i b;cases b<;>exact aU)
theorem xm:∀(l:List Value) (x:Value),aF ρ PL PM (aE ρ) (l.foldlM Xb x) ((l.map (aE ρ)).foldlM Xb (aE ρ x))
 |[],x=>aO _ rfl
 |y::l,x=>by simp only[rn,Xr];exact(Mc x y).bind λz=>xm l z
theorem PR(a:Array TypeId)(t:TypeId)(args:Array Value):aF ρ PL PM (aE ρ) (Yn a t args) (Yn a t (args.map (aE ρ))):=by
 unfold Yn;rw[Oj];cases args.toList
 ·exact aU
 ·exact xm _ _
theorem Md(x y:Value):aF ρ PL PM (aE ρ) (Xc x y) (Xc (aE ρ x) (aE ρ y)):=by cases x<;>cases y<;>unfold Xc<;>first|exact aU|(rename_i b;cases b<;>exact aU)
theorem xl:∀(l:List Value) (x:Value),aF ρ PL PM (aE ρ) (l.foldlM Xc x) ((l.map (aE ρ)).foldlM Xc (aE ρ x))
 |[],x=>aO _ rfl
 |y::l,x=>by simp only[rn,Xr];exact(Md x y).bind λz=>xl l z
theorem PS(a:Array TypeId)(t:TypeId)(args:Array Value):aF ρ PL PM (aE ρ) (Yo a t args) (Yo a t (args.map (aE ρ))):=by
 unfold Yo;rw[Oj];cases args.toList
 ·exact aU
 ·exact xl _ _
theorem rA(hP:bN PL PM)(t:TypeId)(v:Value):aF ρ PL PM (aE ρ) (Vr t v) (Vr t (aE ρ v)):=by unfold Vr;exact aU
def nW(P:Program)(s:Sem α):Prop:=∀w,∃h w',s.run P w= .halt h w'/\True
theorem nW.after{c:Type}{s:Sem c}{k:c->Sem α}(h:∀a,nW PL (k a)):nW PL (s>>=k):=λw=>by
 rw[K8];cases e:s.run PL w with
 |ok a b=>exact h a b
 |halt x b=>exact⟨x,b,rfl,trivial⟩
theorem nH(v:Value):nW PL (goPanic v:Sem α):=λw=>⟨_,w,rfl,trivial⟩
theorem bE.push(h:bE w){o:Obj}(c:cO o=true):bE {w with heap:=w.heap.push o}:=by
 intro b x a;simp only[DY]at a;split at a
 ·cases a;exact c
 ·exact h b x a
theorem lI(e:RuntimeError):nW PL (runtimePanic e:Sem α):=by unfold runtimePanic;refine nW.after λp=> ?_;cases e<;>first|exact nH _|exact nW.after λ_=>nW.after λ_=>nH _
end
section
variable{α β:Type}{f:α->β}
theorem vD(a:Addr)(n:Nat):aF ρ PL PM id (XY a n) (XY (bC ρ a) n):=by unfold XY;exact aU
theorem Ba(hi:∀x y,ρ x=ρ y->x=y)(size l n:Nat)(base:Option Addr)(x:Value):aF ρ PL PM id (Yf size l n base x) (Yf size l n (base.map (bC ρ)) (aE ρ x)):=by
 unfold Yf;cases base with
 |none=>
  simp only[WQ,pure_bind,Wr,qD,↓reduceIte,Option.any_none];cases x<;>try exact aU
  rename_i b _ _;cases b<;>exact aU
 |some a=>
  refine(vD a _).bind λh=> ?_;refine aF.bind (f:=id) (by rw[←jB];exact xi _) λc=> ?_;simp only[id,d9,pure_bind,Option.any_some];refine cE aU ?_;cases x<;>try exact aU
  rename_i b _ _;cases b
  ·exact aU
  ·simp only[aE,d9,xg,lK hi];exact aU
theorem mx(a:Nat->Nat)(z:Array Value)(n:Nat):Wx (z.map (aE a)) n=(Wx z n).map (aE a):=by unfold Wx;have:=qb a z (n*z.size);rwa [M1]at this⊢
theorem oL(size n:Nat)(b:Option Addr)(l c:Nat):aF ρ PL PM (VX (aE ρ)) (VM size n (.slice b l c)) (VM size n (.slice (b.map (bC ρ)) l c)):=by have:=iT (ρ:=ρ) (PL:=PL) (PM:=PM) size n (.slice b l c);simpa only[aE]using this
theorem xe(b:bN PL PM)(e:TypeId)(n size:Nat){k:Array Value->Sem α}{a:Array Value->Sem β}(h:∀cs,aF ρ PL PM f (k cs) (a (cs.map (aE ρ)))):
 aF ρ PL PM f ((if n*size=0 then pure #[]else do pure (Wx (←zeroValue e).cells n))>>=k) ((if n*size=0 then pure #[]else do pure (Wx (←zeroValue e).cells n))>>=a):=by refine aF.bind (f:=VX (aE ρ)) (cE (aO _ s_) ?_) h;exact(my b e).bind λz=>aO _ (by rw[ft,mx])
theorem GJ(hP:bN PL PM)(hi:∀x y,ρ x=ρ y->x=y)(m:Array TypeId)(t:TypeId)(args:Array Value):aF ρ PL PM (aE ρ) (XG m t args) (XG m t (args.map (aE ρ))):=by
 unfold XG;rw[wZ,wZ];cases m[0]?<;>cases args[0]?<;>cases args[1]?<;>try exact .dead trivial
 rename_i s x;refine(aX hP _).bind λe=> ?_;cases e<;>try exact .dead trivial
 cases s<;>try exact .dead trivial
 rename_i e g f h;simp only[aE];refine(eb hP e).bind λb=> ?_;dsimp only[id];cases m[1]?
 case' some t1=>
  refine(aX hP t1).bind λd=> ?_;dsimp only[id];cases d
  case int k=>
   simp only[pure_bind,qD,↓reduceIte,Wr];refine(lR x).bind λl=>cE (kS hP rfl _ _) ((de hP e).bind λi=>cE (.choose λn=>kS (e:= .error (if n==1 then "makeslice: len out of range" else "growslice: len out of range")) hP rfl _ _) (cE (xe hP e _ b λj=> ?_) ?_))
   ·rcases g with _|a
    ·exact aU
    ·simp only[d9,←jB,Oj];exact aU
   ·refine(de hP e).bind λi=>cE (kS hP rfl _ _) ((de hP e).bind λr=>cE (kS hP rfl _ _) (.choose λc=>(de hP e).bind λp=>(jY _).bind λ_=>(oL b f g f h).bind λo=>xe hP e _ b λj=>(my hP e).bind λz=> ?_));rw[ft,mx,←MG,←MG];exact aU
 all_goals
  simp only[pure_bind,qD,↓reduceIte,Xd];refine(Bd x).bind λn=>cE ((iT b n x).bind λj=> ?_) ((de hP e).bind λi=>cE (kS hP rfl _ _) ((de hP e).bind λr=>cE ?_ (.choose λc=>(de hP e).bind λp=>(jY _).bind λ_=>(oL b f g f h).bind λo=>(iT b n x).bind λj=>(my hP e).bind λz=> ?_)))
  ·rcases g with _|a
   ·exact aU
   ·simp only[d9,←jB,Oj];exact aU
  ·rw[bind_assoc,bind_assoc];refine(Ba hi b f n g x).bind λq=> ?_;cases q
   ·exact .mark rfl (.dead trivial)
   ·exact .dead trivial
  ·rw[ft,mx,←MG,←MG];exact aU
end
section
variable{α β:Type}{f:α->β}
theorem xn(hP:bN PL PM)(t:TypeId):aF ρ PL PM id (elemOf t) (elemOf t):=by unfold elemOf;exact aU
theorem uL(hP:bN PL PM)(a:Addr)(u:TypeId)(n:Nat):aF ρ PL PM id (variablesAt a u n) (variablesAt (bC ρ a) u n):=by unfold variablesAt;exact aU
theorem qI:∀(n:Nat) (a:Addr) (c:ByteArray),aF ρ PL PM id (loadBytes a c n) (loadBytes (bC ρ a) c n)
 |0,a,c=>aO _ rfl
 |n+1,a,c=>by
  unfold loadBytes;refine(tj a).bind λv=> ?_;cases v with
  |int k b=>
   simp only[aE];cases k with
   |u8=>rw[←jB];exact qI n _ _
   |_=>exact .dead trivial
  |_=>simp only[aE];exact .dead trivial
theorem PU(r:Nat):aF ρ PL PM id (cellsIn r) (cellsIn (ρ r)):=by
 unfold cellsIn;refine(lN r).bind λs=> ?_;cases s
 ·refine aF.getObj λo _=> ?_;cases o<;>first|exact aO _ rfl|exact aO _ s_
 ·exact aU
theorem sS(hP:bN PL PM)(a:Array TypeId)(t:TypeId)(args:Array Value):aF ρ PL PM (aE ρ) (Xo a t args) (Xo a t (args.map (aE ρ))):=by
 rcases args with⟨_|⟨x,_|⟨v,_|_⟩⟩⟩<;>try exact .dead trivial
 rw[show(Array.mk [x,v]).map (aE ρ)=#[aE ρ x,aE ρ v] by simp];cases x<;>try exact .dead trivial
 rename_i p;simp only[aE];unfold Xo;refine aF.bind (lR v) λn=> ?_;cases a[0]?<;>try exact .dead trivial
 refine cE aU (cE aU ?_);cases p
 ·exact aU
 ·refine cE aU ((xn hP _).bind λe=>(uL hP _ e _).bind λq=>cE ((qI _ _ _).bind λs=> .freeze aU) aU)
theorem pz(f:bN PL PM)(d:Array TypeId)(t:TypeId)(args:Array Value):aF ρ PL PM (aE ρ) (WL d t args) (WL d t (args.map (aE ρ))):=by
 rcases args with⟨l⟩;rcases l with _|⟨x,_|⟨y,l⟩⟩
 ·exact .dead trivial
 ·rw[show(Array.mk [x]).map (aE ρ)=#[aE ρ x] by simp];cases x with
  |slice b l c=>
   rw[show aE ρ (.slice b l c)= .slice (b.map (bC ρ)) l c by simp only[aE]];cases b with
   |none=>exact aO (Xy none) (by simp[aE])
   |some a=>
    unfold WL;show aF ρ PL PM (aE ρ) (if c≠0 then _ else _) (if c≠0 then _ else _);refine cE (aO _ (by simp[aE])) ?_;refine(xf a.block).bind λv=> ?_;rw[Za];refine cE (aO _ (by simp[aE])) ?_;refine(xn f t).bind λe=> ?_;refine(De (.view a e) rfl).bind λn=> ?_;exact aO _ (by simp[aE,bC])
  |_=>exact .dead trivial
 ·exact .dead trivial
theorem vE(s:FloatKind)(b:Nat)(k:IntKind):aF ρ PL PM (aE ρ) (Yy s b k) (Yy s b k):=by unfold Yy;exact aU
theorem mJ(s:FloatKind)(b:Nat)(k:FloatKind):aF ρ PL PM (aE ρ) (Wy s b k) (Wy s b k):=by unfold Wy;exact aU
theorem oz(s:FloatKind)(a b:Nat)(k:FloatKind):aF ρ PL PM (aE ρ) (Xp s a b k) (Xp s a b k):=by unfold Xp;refine(mJ s a k).bind λx=> ?_;cases x<;>exact aU
theorem rz(x:Value):aF ρ PL PM (aE ρ) (Wj x) (Wj (aE ρ x)):=by
 unfold Wj;cases x<;>try exact aU
 rename_i a l c;cases a
 ·exact aU
 ·simp only[aE,d9];refine(i9 _ l).bind λb=>(rC (aE ρ) (λx s=> ?_) b VD).bind λs=>aU;cases x<;>exact aU
theorem vV(b:Nat->Nat)(s:ByteArray):∀(n i:Nat) (a:Array Value),a.map (aE b)=a->(W9 s n i a).map (aE b)=W9 s n i a
 |0,i,a,h=>h
 |n+1,i,a,h=>by
  unfold W9;split
  ·exact vV b s n _ _ (by rw[ZK,h];simp[aE])
  ·exact h
theorem rx(e:TypeId)(s:ByteArray):aF ρ PL PM (aE ρ) (XZ e s) (XZ e s):=by
 unfold XZ;refine .choose λc=> ?_;have b:∀n,(W9 s s.size 0 #[]++kx n (Value.int .i32 0)).map (aE ρ)=W9 s s.size 0 #[]++kx n (Value.int .i32 0):=λn=>by rw[MG,vV ρ s s.size 0 #[] s_,XL];simp[aE]
 refine aF.bind (f:=bC ρ) (by have:=g8 (ρ:=ρ) (PL:=PL) (PM:=PM) e (W9 s s.size 0 #[]++kx (c-(W9 s s.size 0 #[]).size) (.int .i32 0));rw[b]at this;exact this) λa=>aO _ (by simp[aE])
theorem Qm(hP:bN PL PM)(a:Addr):aF ρ PL PM (bC ρ) (ZA a) (ZA (bC ρ a)):=by unfold ZA;exact aU
theorem MW(a:Addr)(b:Bool):aF ρ PL PM (aE ρ) (asNumber a b) (asNumber (bC ρ a) b):=by unfold asNumber;exact aU
theorem AZ(hP:bN PL PM)(src dst:TypeId)(x:Value):aF ρ PL PM (aE ρ) (Y0 src dst x) (Y0 src dst (aE ρ x)):=by unfold Y0;refine(aX hP src).bind λd=>(aX hP dst).bind λa=> ?_;cases x<;>cases d<;>cases a<;>exact aU
theorem iU(b:Option Addr)(l c:Nat):aF ρ PL PM (aE ρ) (Wi (.slice b l c)) (Wi (.slice (b.map (bC ρ)) l c)):=by
 have:=rF (ρ:=ρ) (PL:=PL) (PM:=PM) (.slice b l c)
 rwa [show aE ρ (.slice b l c)= .slice (b.map (bC ρ)) l c by simp only[aE]]at this
theorem iS(b:Option Addr)(l c:Nat):aF ρ PL PM (aE ρ) (Wj (.slice b l c)) (Wj (.slice (b.map (bC ρ)) l c)):=by
 have:=rz (ρ:=ρ) (PL:=PL) (PM:=PM) (.slice b l c)
 rwa [show aE ρ (.slice b l c)= .slice (b.map (bC ρ)) l c by simp only[aE]]at this
theorem Dj(g:bN PL PM)(src dst:TypeId)(x:Value):aF ρ PL PM (aE ρ) (convert src dst x) (convert src dst (aE ρ x)):=by
 have f:=AZ (ρ:=ρ) g src dst x;unfold convert;refine(aX g src).bind λd=> ?_;refine(aX g dst).bind λh=> ?_;dsimp only[id];cases x with
 |slice b l c=>
  rw[show aE ρ (.slice b l c)= .slice (b.map (bC ρ)) l c by simp only[aE]]at f⊢;cases b with
  |none=>cases h<;>first|exact f|(cases d<;>first|exact .dead trivial|exact f|(refine(aX g _).bind λe=> ?_;cases e<;>first|exact .dead trivial|(rename_i k;cases k<;>first|exact .dead trivial|exact iU _ _ _|exact iS _ _ _)))
  |some a=>cases h<;>first|exact f|(cases d<;>first|exact .dead trivial|exact f|(refine(aX g _).bind λe=> ?_;cases e<;>first|exact .dead trivial|(rename_i k;cases k<;>first|exact .dead trivial|exact iU _ _ _|exact iS _ _ _))|(refine(aX g _).bind λe=> ?_;cases src==dst<;>first|exact .dead trivial|(cases e<;>first|exact .dead trivial|(rename_i k;cases k<;>first|exact .dead trivial|exact(lO a).bind λ_=>aO _ (by simp[aE])))))
 |pointer p=>
  rw[show aE ρ (.pointer p)= .pointer (p.map (bC ρ)) by simp only[aE]]at f⊢;cases p<;>cases h<;>first|exact f|(cases d<;>first|exact .dead trivial|exact f|(refine(aX g _).bind λe=> ?_;cases e<;>first|exact .dead trivial|(rename_i k;cases k<;>first|exact .dead trivial|exact iU _ _ _|exact iS _ _ _)))
 |_=>
  simp only[aE]at f⊢;cases h<;>first|exact aO _ (by simp[aE])|exact vE _ _ _|exact mJ _ _ _|exact oz _ _ _ _|exact f|(refine(aX g _).bind λe=> ?_;cases e<;>first|exact .dead trivial|(rename_i k;cases k<;>first|exact .dead trivial|exact ry _ _|exact rx _ _))|(cases d<;>first|exact .dead trivial|exact f|(refine(aX g _).bind λe=> ?_;cases e<;>first|exact .dead trivial|(rename_i k;cases k<;>first|exact .dead trivial|exact iU _ _ _|exact iS _ _ _)))
end
inductive dV {α:Type}:Sem α->Prop
 |pure (a:α):dV (.pure a)
 |choose {q:Question} {k:Nat->Sem α} (h:∀n,dV (k n)):dV (.choose q k)
 |halt {h:Halt} (d:eT h):dV (.halt h)
theorem dV.bind{b c:Type}{s:Sem b}{k:b->Sem c}(h:dV s)(f:∀a,dV (k a)):dV (s>>=k):=by
 show dV (s.bind k);induction h with
 |pure a=>exact f a
 |choose _ e=>exact .choose e
 |halt d=>exact .halt d
theorem dV.ite{a:Type}{c:Prop}[Decidable c]{A B:Sem a}(d:dV A)(b:dV B):dV (if c then A else B):=by split<;>assumption
theorem sU{α:Type}{s:Sem α}(h:dV s:=by
 try simp only[pure_bind]
 first
 |exact .pure _
 |exact .halt trivial
 |with_reducible exact ki _ _ _ _
 |with_reducible exact sM _ _ _ _ _
 |refine dV.ite ?_ ?_
 |refine .choose λn=> ?_
 |refine dV.bind (ki _ _ _ _) λ_=> ?_
 |refine dV.bind (SD _ _ _ _) λ_=> ?_
 |refine dV.bind (qO _ _ _ _) λv=> ?_
 |refine dV.bind (SE _ _ _ _) λv=> ?_
 |refine dV.bind (oW _ _ _) λv=> ?_
 |cases (v:Value)
 |cases (op:BinOp)
 |split
 all_goals exact sU):dV s:=h
theorem qO(op:BinOp)(k:FloatKind)(x y:Nat):dV (Xz op k x y):=by unfold Xz;exact sU
theorem SE(op:BinOp)(k:FloatKind)(x y:Nat):dV (Y6 op k x y):=by unfold Y6;exact sU
theorem oW(s:FloatKind)(b:Nat)(k:FloatKind):dV (Wy s b k):=by unfold Wy;exact sU
theorem ki(op:BinOp)(k:FloatKind)(x y:Nat):dV (Zn op k x y):=by unfold Zn;exact sU
theorem SD(op:BinOp)(k:FloatKind)(x y:Nat):dV (ZM op k x y):=by unfold ZM;exact sU
theorem io(s:FloatKind)(x:Nat)(k:FloatKind):dV (ZF s x k):=by unfold ZF;exact sU
theorem vd(a b c d:Nat):dV (YZ a b c d):=by unfold YZ;exact sU
theorem sM(s a b c d:Nat):dV (YJ s a b c d):=by unfold YJ;exact sU
theorem tF(a b c d:Nat):dV (YR a b c d):=by unfold YR;exact sU
section
variable{α β:Type}{f:α->β}
theorem dV.alike{s:Sem α}(h:dV s):aF ρ PL PM id s s:=by
 induction h with
 |pure a=>exact .pure a
 |choose _ b=>exact .choose b
 |halt d=>exact .dead d
theorem JU(op:BinOp)(k:FloatKind)(x y:Nat):aF ρ PL PM (aE ρ) (Xz op k x y) (Xz op k x y):=by unfold Xz;exact aU
theorem SJ(op:BinOp)(k:FloatKind)(x y:Nat):aF ρ PL PM (aE ρ) (Y6 op k x y) (Y6 op k x y):=by unfold Y6;exact aU
theorem Mg(op:BinOp)(k:FloatKind)(a b c d:Nat):aF ρ PL PM (aE ρ) (Zb op k a b c d) (Zb op k a b c d):=by
 unfold Zb;cases op<;>first
  |exact aU
  |exact(ki _ _ _ _).alike.bind λ_=>(ki _ _ _ _).alike.bind λ_=>aU
  |exact(SD _ _ _ _).alike.bind λ_=>(SD _ _ _ _).alike.bind λ_=>aU
  |(refine(io _ _ _).alike.bind λ_=>(io _ _ _).alike.bind λ_=>(io _ _ _).alike.bind λ_=>(io _ _ _).alike.bind λ_=> ?_
    first
     |refine(vd _ _ _ _).alike.bind λ_=> ?_
     |refine(tF _ _ _ _).alike.bind λ_=> ?_
    exact(io _ _ _).alike.bind λ_=>(io _ _ _).alike.bind λ_=>aU)
theorem sG(r:Nat):aF ρ PL PM (XS λx=>(bC ρ x.1,x.2)) (numberAt r) (numberAt (ρ r)):=by unfold numberAt;exact(lN r).bind λs=>cE aU (.getObj λo _=>by cases o<;>exact aO _ rfl)
theorem iI(a:Addr):aF ρ PL PM (λx=>(bC ρ x.1,x.2)) (behindNumber a) (behindNumber (bC ρ a)):=by unfold behindNumber;refine(sG a.block).bind λx=> ?_;cases x<;>exact aU
theorem mz(hP:bN PL PM)(a:Array TypeId)(t:TypeId)(x y:Value):aF ρ PL PM (aE ρ) (Y1 a t #[x,y]) (Y1 a t #[aE ρ x,aE ρ y]):=by
 cases x<;>try exact .dead trivial
 rename_i p;simp only[aE];unfold Y1;refine aF.bind (lR y) λn=> ?_;cases p<;>exact aU
theorem nT(hP:bN PL PM)(t:TypeId)(x y:Value):aF ρ PL PM (aE ρ) (movedNumber t x y) (movedNumber t (aE ρ x) (aE ρ y)):=by
 unfold movedNumber;refine(aX hP t).bind λd=>cE aU ?_;have b:=mz (ρ:=ρ) hP #[] t x y;cases x<;>simp only[aE]at b⊢<;>try exact b
 rename_i p;cases p
 ·exact b
 rename_i a;refine(iI a).bind λz=> ?_;have c:=mz (ρ:=ρ) hP #[] t (.pointer (some z.1)) y;simp only[aE,d9]at c;refine c.bind λv=> ?_;cases v<;>try exact aU
 rename_i q;cases q
 ·exact aU
 ·simp only[aE,d9];exact aU
theorem sT(hP:bN PL PM)(t:TypeId)(x y:Value):aF ρ PL PM (aE ρ) (movedPointer t x y) (movedPointer t (aE ρ x) (aE ρ y)):=by
 unfold movedPointer;have a:=mz (ρ:=ρ) hP #[] t x y;cases x<;>simp only[aE]at a⊢<;>try exact a
 rename_i p;cases p
 ·exact a
 refine(sG _).bind λz=> ?_;rw[Za];exact cE aU a
def JM(PL PM:Program)(ρ:Nat->Nat):Prop:=(∀x y,ρ x=ρ y->x=y)/\∀b,b<PL.globals.size↔ρ b<PM.globals.size
theorem qH(c:bN PL PM)(d:JM PL PM ρ)(a b:Addr):aF ρ PL PM id (Zc a b) (Zc (bC ρ a) (bC ρ b)):=by
 unfold Zc;refine .program ?_;simp only[BW];have f:((bC ρ a).block !=(bC ρ b).block)=(a.block !=b.block):=by have:=lK d.1 a.block b.block;simp only[bne,bC,this]
 have e:decide ((bC ρ a).block≥PM.globals.size)=decide (a.block≥PL.globals.size):=by have:=d.2 a.block;exact decide_eq_decide.2 (by simp only[bC];omega)
 rw[f,e];refine cE (.dead trivial) ?_;refine(lQ c a).bind λx=>(lQ c b).bind λy=>aO _ rfl
theorem Dl(c:bN PL PM)(d:JM PL PM ρ)(k:IntKind)(a b:Addr):aF ρ PL PM (aE ρ) (Op.addrSub k a b) (Op.addrSub k (bC ρ a) (bC ρ b)):=
 (qH c d a b).bind λx=>aO _ (by simp[aE])
theorem Dm(c:bN PL PM)(d:JM PL PM ρ)(op:BinOp)(a b:Addr):aF ρ PL PM (aE ρ) (Op.addrCmp op a b) (Op.addrCmp op (bC ρ a) (bC ρ b)):=
 (qH c d a b).bind λx=>by cases op<;>first|exact aO _ (by simp[aE])|exact .dead trivial
theorem PY(hP:bN PL PM)(k:IntKind)(a:Addr)(n:Int):aF ρ PL PM (aE ρ) (ZN k a n) (ZN k (bC ρ a) n):=by unfold ZN;exact aU
end
section
variable{α β:Type}{f:α->β}
theorem xj{d a:Type}{g g':d->a->Sem (ForInStep a)}(h:∀c s,aF ρ PL PM id (g c s) (g' c s))(xs:Array d)(b:a):aF ρ PL PM id (forIn xs b g) (forIn xs b g'):=by
 have:=rC (ρ:=ρ) (PL:=PL) (PM:=PM) id h xs b
 rwa [Array.map_id]at this
theorem xk{a:Type}{g g':Nat->a->Sem (ForInStep a)}(h:∀c s,aF ρ PL PM id (g c s) (g' c s))(r:Std.Legacy.Range)(b:a):aF ρ PL PM id (forIn r b g) (forIn r b g'):=by rw[WE,WE];have:=rB (ρ:=ρ) (PL:=PL) (PM:=PM) id h (List.range' r.start r.size r.step) b;rwa [List.map_id]at this
def Mm(ρ:Nat->Nat)(PL PM:Program)(d:Nat):Prop:=∀(t:TypeId) (x y:Value),aF ρ PL PM id (W5 d t x y) (W5 d t (aE ρ x) (aE ρ y))
theorem Jy(hP:bN PL PM){d:Nat}(ih:Mm ρ PL PM d)(t:TypeId)(xs:Array Value)(y:Value):aF ρ PL PM id (W5 (d+1) t (.agg xs) y) (W5 (d+1) t (aE ρ (.agg xs)) (aE ρ y)):=by
 unfold Mm at ih;unfold W5;refine(aX hP t).bind λe=> ?_;cases e<;>cases y<;>try exact aU
 ·simp only[aE,id];refine(eb hP _).bind λz=> ?_;exact(xk (λi a=>by exact aU) _ (none,())).bind λa=>by exact aU
 ·simp only[aE,id];refine .program ?_;simp only[BW];rw[←hP.stood];exact cE aU ((xj (λb a=>by exact aU) _ (none,())).bind λa=>by exact aU)
theorem Di(hP:bN PL PM){d:Nat}(ih:Mm ρ PL PM d)(t:TypeId)(a:TypeId)(v1:Value)(y:Value):aF ρ PL PM id (W5 (d+1) t (.iface a v1) y) (W5 (d+1) t (aE ρ (.iface a v1)) (aE ρ y)):=by
 unfold W5;refine(aX hP t).bind λe=> ?_;cases e<;>cases y<;>try exact aU
 simp only[aE,id];refine cE aU ((de hP a).bind λi=>cE (.program (.program ?_)) (ih a v1 _));simp only[BW];rw[←hP.packed];unfold typeStr;exact aU
theorem Jx(hP:bN PL PM)(hF:JM PL PM ρ)(d:Nat)(t:TypeId)(a:Option Addr)(y:Value):aF ρ PL PM id (W5 (d+1) t (.pointer a) y) (W5 (d+1) t (aE ρ (.pointer a)) (aE ρ y)):=by
 unfold W5;refine(aX hP t).bind λe=> ?_;cases y
 case pointer b=>
  have hi:=hF.1;simp only[aE];cases e<;>cases a<;>cases b<;>try exact aU
  ·rename_i a b;simp only[id,d9];refine(iI a).bind λu=>(iI b).bind λv=> .program ?_;have c:decide (ρ u.1.block<PM.globals.size)=decide (u.1.block<PL.globals.size):=decide_eq_decide.2 (hF.2 u.1.block).symm;simp only[BW];rw[xg,xg,lK hF.1,c,tZ hF.1];exact aU
  ·exact uM hF.1 (some _) (some _)
  ·simp only[id,d9,tZ hF.1];exact aU
 case int k n=>cases e<;>cases a<;>rcases n with(_|n)|n<;>exact aU
 all_goals cases e<;>cases a<;>exact aU
end
section
variable{α β:Type}{f:α->β}
theorem NZ(c:∀x y,ρ x=ρ y->x=y)(a b:Option Nat):(a.map ρ==b.map ρ)=(a==b):=by cases a<;>cases b<;>first|rfl|exact lK c _ _
theorem eQ{s s':Sem Bool}(h:aF ρ PL PM id s s':=by simp only[aE,Option.map_none,Option.map_some];unfold Op.equalIn;refine(aX hP t).bind λe=> ?_;dsimp only[id];cases e<;>first|exact .dead trivial|exact aO _ rfl|with_reducible exact jU hP rfl|exact cE (aO _ rfl) (jU hP rfl)|exact cE (aO _ rfl) (.dead trivial)|exact aO _ (NZ hF.1 _ _)):aF ρ PL PM id s s':=h
theorem uR(hP:bN PL PM)(hF:JM PL PM ρ):∀d:Nat,Mm ρ PL PM d
 |0=>λ_ _ _=> .dead trivial
 |d+1=>λt x y=>by
  have ih:=uR hP hF d;cases x<;>first|exact Jy hP ih t _ y|exact Di hP ih t _ _ y|exact Jx hP hF d t _ y|skip
  all_goals cases y<;>first|exact eQ|(rename_i a;cases a<;>exact eQ)|(rename_i a p;cases a<;>cases p<;>exact eQ)|(rename_i a p;cases p<;>rcases a with(_|a)|a<;>exact eQ)|(rename_i a _ _;cases a<;>exact eQ)|(rename_i a _ _ _ _;cases a<;>exact eQ)|(rename_i a _ _ _ _ _;cases a<;>exact eQ)|(rename_i a _ _ p;cases a<;>cases p<;>exact eQ)|(rename_i a _ _ p _ _;cases a<;>cases p<;>exact eQ)
end
section
variable{α β:Type}{f:α->β}
theorem uQ(hP:bN PL PM):∀(d:Nat) (t:TypeId) (x y:Value),aF ρ PL PM id (Zd d t x y) (Zd d t (aE ρ x) (aE ρ y))
 |0,t,x,y=> .dead trivial
 |d+1,t,x,y=>by
  have ih:=uQ hP d;unfold Zd;refine(aX hP t).bind λe=> ?_;cases e<;>try exact aU
  all_goals cases x<;>cases y<;>try exact aU
  ·simp only[aE,id];refine(eb hP _).bind λz=> ?_;exact(xk (λi st=>by exact aU) _ (none,())).bind λst=>by exact aU
  ·simp only[aE,id];exact(xj (λfd st=>by exact aU) _ (none,())).bind λst=>by exact aU
theorem Jv(hP:bN PL PM)(op:BinOp)(t:TypeId)(a b:Operand)(x y:Value):aF ρ PL PM id (eqGuard op t a b x y) (eqGuard op t a b (aE ρ x) (aE ρ y)):=by unfold eqGuard;have c:=uQ (ρ:=ρ) hP Op.maxDepth t x y;refine cE aU ?_;cases x<;>cases y<;>simp only[aE]at c⊢<;>first|exact aO _ rfl|exact cE aU (c.bind λq=>aU)|(refine .program (.program ?_);simp only[BW];rw[←hP.guard];exact cE aU (c.bind λq=>aU))
def gw(x y:Value):Bool:=
 match x,y with
 | .int _ _, .int _ _| .float _ _, .float _ _| .complex _ _ _, .complex _ _ _| .string _, .string _=>true
 |_,_=>false
theorem zi(x y:Value):gw (aE ρ x) (aE ρ y)=gw x y:=by cases x<;>cases y<;>simp only[aE,gw]
theorem EF(t:TypeId){x y:Value}(h:gw x y=false):binOp .eql t x y=(do pure (.bool (←Op.equal t x y))):=by cases x<;>cases y<;>first|rfl|(simp[gw]at h;done)
theorem EE(t:TypeId){x y:Value}(h:gw x y=false):binOp .neq t x y=(do pure (.bool (!(←Op.equal t x y)))):=by cases x<;>cases y<;>first|rfl|(simp[gw]at h;done)
theorem vG(hP:bN PL PM)(op:BinOp)(t:TypeId){x y:Value}(h:gw x y=true):aF ρ PL PM (aE ρ) (binOp op t x y) (binOp op t (aE ρ x) (aE ρ y)):=by
 cases x<;>cases y<;>first|(cases h;done)|skip
 all_goals cases op<;>simp only[aE,binOp]<;>exact aU
theorem yO(hP:bN PL PM)(op:BinOp)(t:TypeId)(k:IntKind)(n:Int)(p:Option Addr)(c:op≠ .eql)(b:op≠ .neq):aF ρ PL PM (aE ρ) (binOp op t (.int k n) (.pointer p)) (binOp op t (.int k n) (.pointer (p.map (bC ρ)))):=by have a:=nT (ρ:=ρ) hP t (.pointer p) (.int k n);simp only[aE]at a;cases op<;>first|exact a|contradiction|(cases p<;>simp only[WQ,d9,binOp]<;>exact aU)
theorem yN(hP:bN PL PM)(op:BinOp)(t:TypeId)(k:IntKind)(n:Int)(p:Option Addr)(e:op≠ .eql)(c:op≠ .neq):aF ρ PL PM (aE ρ) (binOp op t (.pointer p) (.int k n)) (binOp op t (.pointer (p.map (bC ρ))) (.int k n)):=by have a:=λn=>nT (ρ:=ρ) hP t (.pointer p) (.int k n);have b:=sT (ρ:=ρ) hP t (.pointer p) (.int k n);simp only[aE]at a b;cases op<;>first|exact a _|exact(aX hP t).bind λd=>cE b (a n)|contradiction|(cases p<;>simp only[WQ,d9,binOp]<;>exact aU)
theorem yM(hP:bN PL PM)(hF:JM PL PM ρ)(op:BinOp)(t:TypeId)(p q:Option Addr)(b:op≠ .eql)(a:op≠ .neq):aF ρ PL PM (aE ρ) (binOp op t (.pointer p) (.pointer q)) (binOp op t (.pointer (p.map (bC ρ))) (.pointer (q.map (bC ρ)))):=by cases op<;>first|contradiction|(cases p<;>cases q<;>first|exact .dead trivial|exact(iI _).bind λx=>(iI _).bind λy=>Dl hP hF _ x.1 y.1|exact(iI _).bind λx=>(iI _).bind λy=>Dm hP hF _ x.1 y.1)
theorem Jh(op:BinOp)(t:TypeId){x y:Value}(c:gw x y=false)(b:op≠ .eql)(a:op≠ .neq)(g:∀p,x= .pointer p->(∀k n,y≠ .int k n)/\∀q,y≠ .pointer q)(f:∀p,y= .pointer p->∀k n,x≠ .int k n):∃h,binOp op t x y= .halt h/\eT h:=by
 cases x with
 |pointer p=>
  obtain⟨e,d⟩:=g p rfl;cases y with
  |int k n=>exact absurd rfl (e k n)
  |pointer q=>exact absurd rfl (d q)
  |_=>cases p<;>cases op<;>first|exact⟨_,rfl,trivial⟩|exact absurd rfl b|exact absurd rfl a
 |int k n=>
  cases y with
  |pointer q=>exact absurd rfl (f q rfl k n)
  |_=>cases op<;>first|exact⟨_,rfl,trivial⟩|exact absurd rfl b|exact absurd rfl a|(simp[gw]at c;done)
 |_=>
  cases y with
  |pointer q=>cases q<;>cases op<;>first|exact⟨_,rfl,trivial⟩|exact absurd rfl b|exact absurd rfl a
  |_=>cases op<;>first|exact⟨_,rfl,trivial⟩|exact absurd rfl b|exact absurd rfl a|(simp[gw]at c;done)
theorem PX(a:bN PL PM)(j:JM PL PM ρ)(op:BinOp)(t:TypeId)(x y:Value):aF ρ PL PM (aE ρ) (binOp op t x y) (binOp op t (aE ρ x) (aE ρ y)):=by
 cases d:gw x y with
 |true=>exact vG a op t d
 |false=>
  have c:=(zi (ρ:=ρ) x y).trans d;by_cases i:op= .eql
  ·subst i;rw[EF t d,EF t c];exact aF.bind (uR a j _ t x y) λb=>aO _ (by simp[aE])
  ·by_cases g:op= .neq
   ·subst g;rw[EE t d,EE t c];exact aF.bind (uR a j _ t x y) λb=>aO _ (by simp[aE])
   ·by_cases f:(∀p,x= .pointer p->(∀k n,y≠ .int k n)/\∀q,y≠ .pointer q)/\∀p,y= .pointer p->∀k n,x≠ .int k n
    ·obtain⟨h,e,l⟩:=Jh op t d i g f.1 f.2;rw[e];exact .dead l
    ·cases x with
     |pointer p=>
      cases y with
      |int k n=>
       have:=yN (ρ:=ρ) a op t k n p i g
       rwa [show aE ρ (.pointer p)= .pointer (p.map (bC ρ)) by simp only[aE],show aE ρ (.int k n)= .int k n by simp only[aE]]
      |pointer q=>
       have:=yM (ρ:=ρ) a j op t p q i g
       rwa [show aE ρ (.pointer p)= .pointer (p.map (bC ρ)) by simp only[aE],show aE ρ (.pointer q)= .pointer (q.map (bC ρ)) by simp only[aE]]
      |_=>exact absurd ⟨λ_ _=>⟨λ_ _ h=>by simp at h,λ_ h=>by simp at h⟩,λ_ h=>by simp at h⟩ f
     |int k n=>
      cases y with
      |pointer q=>
       have:=yO (ρ:=ρ) a op t k n q i g
       rwa [show aE ρ (.pointer q)= .pointer (q.map (bC ρ)) by simp only[aE],show aE ρ (.int k n)= .int k n by simp only[aE]]
      |_=>exact absurd ⟨λ_ h=>by simp at h,λ_ h=>by simp at h⟩ f
     |_=>exact absurd ⟨λ_ h=>by simp at h,λ_ _ _ _ h=>by simp at h⟩ f
end
def HF(ρ:Nat->Nat):Place->Place
 | .val v=> .val (aE ρ v)
 | .var a=> .var (bC ρ a)
section
variable{α β:Type}{f:α->β}
theorem Df(b:bN PL PM)(t:TypeId)(x:Place):aF ρ PL PM (aE ρ) (x.get t) ((HF ρ x).get t):=by
 cases x with
 |val v=>exact aO _ rfl
 |var a=>exact jV b t a
theorem rE(hP:bN PL PM):∀(l:List FieldStep) (t:TypeId) (x:Place),aF ρ PL PM (λy=>(y.1,HF ρ y.2)) (follow l t x) (follow l t (HF ρ x))
 |[],t,x=>aO _ rfl
 |s::rest,t,x=>by
  have ih:=rE hP rest;unfold follow;refine(aX hP s.struct).bind λe=> ?_;dsimp only[id];cases e<;>try exact aU
  rename_i fs;dsimp only;cases fs[s.index]? with
   |none=>exact .dead trivial
   |some fd=>
    dsimp only;refine cE ?_ ?_
    ·refine(Df hP t x).bind λv=> ?_;refine(lS hP v).bind λa=> ?_;refine(kT hP a fd).bind λb=> ?_;exact ih fd.type (.var b)
    ·cases x with
     |var a=>
      refine(kT hP a fd).bind λb=> ?_;exact ih fd.type (.var b)
     |val v=>
      cases v with
      |agg cs=>
       simp only[HF,aE];refine(yJ hP fd.type cs fd.offset).bind λu=> ?_;exact ih fd.type (.val u)
      |_=>exact .dead trivial
theorem jX(l:Nat){k:Loop->Sem α}{a:Loop->Sem β}(h:∀r,cO (.loop r)=true->aF ρ PL PM f (k r) (a (xX ρ r))):aF ρ PL PM f (Rm l>>=k) (Rm (ρ l)>>=a):=by
 unfold Rm;refine .getObj λo b=> ?_;cases o with
 |loop r=>exact h r b
 |_=>exact .dead trivial
theorem oM(b:bN PL PM)(l:Nat):aF ρ PL PM id (Ol l) (Ol (ρ l)):=by
 unfold Ol;refine jX l λr a=> ?_;refine .setObj (o:= .loop {r with state:= .busy}) a ?_;show aF ρ PL PM id (match r.state with| .ready=>_| .done=>_| .busy=>_| .exhausted=>_) (match r.state with| .ready=>_| .done=>_| .busy=>_| .exhausted=>_);cases r.state with
 |ready=>exact aO _ rfl
 |_=>exact jU b rfl
theorem sJ(l:Nat)(a:Option Code)(c:a.all (jb 0)=true):aF ρ PL PM (aE ρ) (IQ l a) (IQ (ρ l) a):=by unfold IQ;refine jX l λr b=> ?_;refine .setObj (o:= .loop {r with state:=if a.isNone then .ready else .done,pending:=a}) ?_ (aO _ (by simp[aE]));simp only[cO,d7]at b⊢;exact⟨⟨b.1.1,c⟩,b.2⟩
theorem mB(b:bN PL PM)(l:Nat):aF ρ PL PM id (Iz l) (Iz (ρ l)):=by unfold Iz;refine jX l λr a=> ?_;show aF ρ PL PM id (if (r.state==ZO)=true then _ else _) (if (r.state==ZO)=true then _ else _);refine cE (kS b rfl _ _) ?_;exact .setObj (o:= .loop {r with state:= .exhausted}) a (aO _ rfl)
theorem mI(b:Nat):aF ρ PL PM (YH (kb ρ)) (Jd b) (Jd (ρ b)):=by
 unfold Jd;refine .getObj λo c=> ?_;cases o with
 |deferred a=>
  cases a with
  |none=>exact .dead trivial
  |some a=>exact .setObj (o:= .deferred none) rfl (aO _ rfl)
 |_=>exact .dead trivial
theorem mA(fn:FuncId)(tmps:Array Value)(params:Array Tmp)(assign body:Code)(a:Option Nat)(g:jb 0 assign=true)(f:jb 0 body=true)(e:dt fn=0):
 aF ρ PL PM (λx=>(ρ x.1,x.2.map (kb ρ))) (Am fn tmps params assign body a) (Am fn (tmps.map (aE ρ)) params assign body (a.map ρ)):=by
 unfold Am;have c:∀d,cO (.loop {state:= .ready,pending:=none,fn,tmps,params,assign,body,defers:=d})=true:=λd=>by simp[cO,g,f,e]
 cases a with
 |none=>
  refine .new (o:= .deferred (some [])) rfl λb=> ?_;exact .new (o:= .loop {state:= .ready,pending:=none,fn,tmps,params,assign,body,defers:=b}) (c b) λn=>aO _ (by simp[kb,NR])
 |some l=>
  simp only[d9];refine jX l λr h=> ?_;exact .new (o:= .loop {state:= .ready,pending:=none,fn,tmps,params,assign,body,defers:=r.defers}) (c _) λn=>aO _ rfl
end
def fy(ρ:Nat->Nat):Next->Next
 | .value v=> .value (aE ρ v)
 | .enter f args=> .enter f (args.map (aE ρ))
 | .round l f tmps a b=> .round (ρ l) f (tmps.map (aE ρ)) a b
 |n=>n
section
variable{α β:Type}{f:α->β}
theorem Db(hP:bN PL PM)(c:Array TypeId)(t:TypeId)(p:Value)(a b:ByteArray):aF ρ PL PM (aE ρ) (Xe c t #[p, .s a, .s b]) (Xe c t #[aE ρ p, .s a, .s b]):=by
 cases p<;>try exact .dead trivial
 rename_i p;simp only[aE];unfold Xe;cases p
 ·refine .choose λn=>cE aU ?_;cases c[0]?<;>exact aU
 ·show aF ρ PL PM (aE ρ) (pure (Xy (some _))) (pure (Xy (some (bC ρ _))));exact aU
theorem oK(hP:bN PL PM)(t:TypeId)(x:Place)(b:Bool)(w:Option String):aF ρ PL PM (aE ρ) (receiverAt t x b w) (receiverAt t (HF ρ x) b w):=by
 unfold receiverAt;refine(aX hP t).bind λd=> ?_;have c:=Df (ρ:=ρ) hP t x;cases d<;>cases b<;>try (cases x<;>first|exact c|exact aU)
 refine c.bind λv=> ?_;cases w
 ·simp only[pure_bind];exact(lS hP v).bind λa=>jV hP _ a
 ·exact(Db hP _ _ v _ _).bind λp=>(lS hP p).bind λa=>jV hP _ a
theorem uO(b:bN PL PM)(t:TypeId)(v:Value)(path:Array FieldStep)(a:Bool):aF ρ PL PM (aE ρ) (receiverVia t v path a) (receiverVia t (aE ρ v) path a):=by unfold receiverVia;exact(rE b path.toList t (.val v)).bind λy=>oK b y.1 y.2 a none
theorem xh(a:bN PL PM):∀(n:Nat) (t:TypeId) (v:Value) (name:String),aF ρ PL PM (λy=>(y.1,aE ρ y.2)) (method n t v name) (method n t (aE ρ v) name)
 |0,t,v,name=> .dead trivial
 |n+1,t,v,name=>by
  have d:=xh a n;unfold method;refine(de a t).bind λi=> ?_;dsimp only[id];cases i.methods.find? (·.name==name)with
  |none=>exact .dead trivial
  |some m=>
   refine(rE a m.path.toList t (.val v)).bind λy=> ?_;dsimp only;cases m.func with
   |none=>
    refine(Df a y.1 y.2).bind λu=> ?_;cases u with
    |iface c b=>simp only[aE];exact d c b name
    |nilIface=>simp only[aE];exact jU a rfl
    |_=>simp only[aE];exact .dead trivial
   |some p=>exact(oK a y.1 y.2 p.2 _).bind λr=>aO _ rfl
theorem Bf(hP:bN PL PM):∀(l:List FieldStep) (t:TypeId) (x:Option Value),aF ρ PL PM (λy=>y.map λz=>(z.1,z.2.map (aE ρ))) (followBlind l t x) (followBlind l t (x.map (aE ρ)))
 |[],t,x=>aO _ rfl
 |s::rest,t,x=>by
  have ih:=Bf hP rest;unfold followBlind;refine(aX hP s.struct).bind λe=> ?_;dsimp only[id];cases e<;>try exact .dead trivial
  rename_i fs;dsimp only;cases fs[s.index]?<;>try exact .dead trivial
  rename_i fd;dsimp only;cases s.deref<;>cases x<;>try first|exact aO _ rfl|exact ih fd.type none
  ·rename_i v;cases v<;>try exact .dead trivial
   simp only[d9,aE];exact(yJ hP fd.type _ fd.offset).bind λu=>ih fd.type (some u)
  ·rename_i v;cases v<;>try exact .dead trivial
   rename_i p;simp only[d9,aE];cases p
   ·exact aO _ rfl
   ·exact ih fd.type none
theorem sH(hP:bN PL PM):∀(n:Nat) (t:TypeId) (v:Value) (name:String),aF ρ PL PM id (nilAhead n t v name) (nilAhead n t (aE ρ v) name)
 |0,t,v,name=>aO _ rfl
 |n+1,t,v,name=>by
  have ih:=sH hP n;unfold nilAhead;refine(de hP t).bind λi=> ?_;dsimp only[id];cases i.methods.find? (·.name==name)with
  |none=>exact .dead trivial
  |some m=>
   refine(Bf hP m.path.toList t (some v)).bind λy=> ?_;cases y
   ·exact aO _ rfl
   rename_i z;obtain⟨xt,x⟩:=z;simp only[XT];cases m.func
   ·cases x
    ·exact aO _ rfl
    rename_i u;cases u<;>simp only[d9,aE]<;>first|exact ih _ _ name|exact aO _ rfl|exact .dead trivial
   rename_i p;obtain⟨g,b⟩:=p;cases b
   ·refine(aX hP xt).bind λd=> ?_;cases d<;>cases x<;>try exact aO _ rfl
    rename_i u;cases u<;>simp only[id,d9,aE]<;>first|exact aO _ rfl|(rename_i q;cases q<;>exact aO _ rfl)
   ·cases x<;>exact aO _ rfl
def iK(ρ:Nat->Nat)(PL PM:Program)(g:FuncId):Prop:=
 ∀fn,PL.funcs[g]?=some fn→fn.name≠ "runtime.NumGoroutine" ∧
  ((fn.body.isSome=true∧∃fn',PM.funcs[g]?=some fn'∧fn'.body.isSome=true∧fn'.name≠ "runtime.NumGoroutine")∨
   (fn.body=none∧Wo fn=none∧XD fn=none∧(fn.name.endsWith ".init" && !fn.name.startsWith "(" && !fn.name.startsWith "gosem.")=false)∨
   (fn.body=none/\Wo fn=none/\PM.funcs[g]?=some fn/\∃e,XD fn=some e/\∀args,aF ρ PL PM (aE ρ) (e args) (e (args.map (aE ρ)))))
theorem nU(g:FuncId)(q:iK ρ PL PM g)(args:Array Value):aF ρ PL PM (fy ρ) (callFunc g args) (callFunc g (args.map (aE ρ))):=by
 unfold callFunc;refine .program ?_;simp only[BW];cases s:PL.funcs[g]? with
 |none=>exact .dead trivial
 |some j=>
  obtain⟨p,r⟩:=q j s;have b:(j.name== "runtime.NumGoroutine")=false:=by simpa using p
  dsimp only;rw[b];simp only[qD,↓reduceIte];rcases r with⟨c,d,i,h,f⟩|⟨c,m,l,k⟩|⟨c,m,i,e,l,k⟩
  ·have a:(d.name== "runtime.NumGoroutine")=false:=(by simpa using f);rw[i];dsimp only;rw[a];have o:j.body.isNone=false:=(by rw[Vo];exact c);have n:d.body.isNone=false:=(by rw[Vo];exact h);rw[o,n];simp only[qD,↓reduceIte];exact aO _ rfl
  ·rw[c,m,l,k];exact .deadMark trivial
  ·rw[i];dsimp only;rw[b,c,m,l];refine .mark rfl ?_;exact(k args).bind λv=>aO _ rfl
theorem kU(a:bN PL PM)(b:∀g,iK ρ PL PM g)(r:Value)(name:String)(args:Array Value):aF ρ PL PM (fy ρ) (callMethod r name args) (callMethod (aE ρ r) name (args.map (aE ρ))):=by
 unfold callMethod;cases r with
 |iface t v=>
  simp only[aE];refine .program ?_;simp only[BW];rw[←a.types];refine(xh a _ t v name).bind λy=> ?_;have:=nU y.1 (b y.1) (#[y.2]++args);simpa only[MG,Ye,rn,Xa]using this
 |nilIface=>simp only[aE];exact jU a rfl
 |_=>simp only[aE];exact .dead trivial
theorem Dt(a:Nat->Nat):∀(l:List (Tmp×Value)) (tmps:Array Value),(l.map λx=>(x.1,aE a x.2)).foldl (λb x=>b.setIfInBounds x.1 x.2) (tmps.map (aE a))=(l.foldl (λb x=>b.setIfInBounds x.1 x.2) tmps).map (aE a)
 |[],tmps=>rfl
 |x::l,tmps=>by simp only[rn,XF];rw[←VA,Dt a l]
theorem Jp(l:Nat)(args:Array Value):aF ρ PL PM (fy ρ) (Vi l args) (Vi (ρ l) (args.map (aE ρ))):=by
 unfold Vi;refine jX l λr a=> ?_;rw[M1];refine cE (.dead trivial) (aO _ ?_);simp only[fy,xX,Next.round.injEq,true_and,and_true];have:=Dt ρ (r.params.zip args).toList r.tmps;rw[←XV,←XV];rw[←this]
 congr 1
 simp[Array.zip_eq_zipWith,List.zipWith_map_right,List.map_zipWith]
end
section
variable{α β:Type}{f:α->β}
theorem ce{s s':Sem Value}(h:aF ρ PL PM (aE ρ) s s'):aF ρ PL PM (fy ρ) (do pure (.value (←s))) (do pure (.value (←s'))):=h.bind λ_=>aO _ rfl
theorem yI{s s':Sem Unit}(h:aF ρ PL PM id s s'):aF ρ PL PM (fy ρ) (do s;pure .skip) (do s';pure .skip):=h.bind λ_=>aO _ rfl
theorem Dk(hP:bN PL PM)(hF:JM PL PM ρ)(b:Builtin)(c:KZ b=true)(a:Array TypeId)(t:TypeId)(cs:Array Bool)(args:Array Value):aF ρ PL PM (fy ρ) (builtin b a t cs args) (builtin b a t cs (args.map (aE ρ))):=by
 cases b with
 |append=>exact ce (GJ hP hF.1 a t args)
 |cap=>exact ce (PV hP a t args)
 |copy=>exact ce (Mf hP a t args)
 |len=>exact ce (PT hP a t args)
 |min=>exact ce (PR a t args)
 |max=>exact ce (PS a t args)
 |unsafeSliceData=>exact ce (pz hP a t args)
 |unsafeString=>exact ce (sS hP a t args)
 |_=>simp[KZ]at c
theorem sI(e:bN PL PM)(c:∀g,iK ρ PL PM g)(fn:Fn)(cap args:Array Value):aF ρ PL PM (fy ρ) (invoke (.fn fn cap) args) (invoke (.fn (jA ρ fn) (cap.map (aE ρ))) (args.map (aE ρ))):=by
 cases fn with
 |func g=>
  have:=nU g (c g) (args++cap);rw[MG]at this;exact this
 |method a=>
  unfold invoke;simp only[jA];rw[wZ];cases args[0]? with
  |none=>exact .dead trivial
  |some r=>
   have:=kU e c r a (args.extract 1 args.size);rw[X6]at this;simp only[d9,M1];exact this
 |methodOf t a=>
  unfold invoke;simp only[jA];rw[wZ];cases args[0]? with
  |none=>exact .dead trivial
  |some r=>
   simp only[d9,M1];refine(aX e t).bind λd=> ?_;dsimp only[id];have i:=kU e c r a (args.extract 1 args.size);have h:=kU e c (.iface t r) a (args.extract 1 args.size);rw[X6]at i h;rw[show aE ρ (.iface t r)= .iface t (aE ρ r) by simp only[aE]]at h;cases d with
   |interface j=>exact i
   |_=>exact h
 |via t b g f=>
  unfold invoke;simp only[jA];rw[wZ];cases args[0]? with
  |none=>exact .dead trivial
  |some r=>
   simp only[d9,M1];refine(uO e t r b f).bind λv=> ?_;have:=nU g (c g) (#[v]++args.extract 1 args.size);rw[MG,X6]at this;simpa only[Ye,rn,Xa]using this
 |yield l=>exact Jp l args
variable{ev':Operand->Value}{z:Nat}
theorem evs(b:∀x,lV z x=true->ev' x=aE ρ (ev x)){xs:Array Operand}(h:xs.all (lV z)=true):xs.map ev'=(xs.map ev).map (aE ρ):=by rw[Xw];refine Vx λx a=> ?_;exact b x (ET.1 h x a)
theorem evo(a:∀x,lV z x=true->ev' x=aE ρ (ev x)){x:Option Operand}(h:x.all (lV z)=true):x.map ev'=(x.map ev).map (aE ρ):=by
 cases x with
 |none=>rfl
 |some x=>simp only[d9];rw[a x h]
theorem evp(c:∀x,lV z x=true->ev' x=aE ρ (ev x)){a:Array (Nat×Operand)}(h:(a.all λx=>lV z x.2)=true):(a.map λ(i,x)=>(i,ev' x))=(a.map λ(i,x)=>(i,ev x)).map λx=>(x.1,aE ρ x.2):=by rw[Xw];refine Vx λx b=> ?_;have:=c x.2 (ET.1 h x b);simp only[Function.comp,this]
theorem Mh(i:bN PL PM)(n:JM PL PM ρ)(m:∀g,iK ρ PL PM g)(l:∀x,lV z x=true->ev' x=aE ρ (ev x))(c:Call)(t:TypeId)(h:SV z c=true):
 aF ρ PL PM (fy ρ) (do let d←resolve ev c t;invoke d.target d.args) (do let d←resolve ev' c t;invoke d.target d.args):=by
 unfold resolve;simp only[SV,d7]at h;rw[evs l h.1];have f:=h.2;cases a:c.callee with
 |builtin b=>
  rw[a]at f;exact Dk i n b f _ _ _ _
 |invoke r k=>rw[a]at f;cases f
 |value g=>
  rw[a]at f;dsimp only;rw[l g f];unfold NP;cases ev g with
  |func o first j=>
   simp only[aE,pure_bind];rw[←MG];exact sI i m o j _
  |nilFunc=>
   simp only[aE,pure_bind];exact jU (e:= .nilDeref) i rfl
  |_=>simp only[aE];exact .dead trivial
theorem B9(hP:bN PL PM)(v:Value)(x f:Operand)(g:ev x=v)(c:ev' f=aE ρ v){o':Oper}(h:o.op= .nilCheck x)(e:o'.op= .nilCheck f):aF ρ PL PM (fy ρ) (execOp ev o) (execOp ev' o'):=by
 unfold execOp;rw[h,e];dsimp only;rw[g,c];cases v<;>simp only[aE]<;>try first|exact jU hP rfl|exact aO _ (by simp[fy,aE];done)
 ·rename_i p;cases p
  ·exact jU hP rfl
  ·exact aO (Z0 (.pointer (some _))) (by simp[fy,aE])
 ·rename_i i first b
  cases i<;>try exact aO (Z0 (.func _ first b)) (by simp[fy,aE])
  rename_i a;have d:aF ρ PL PM (fy ρ) (pure (.value (.func (.method a) first b))) (pure (.value (.func (.method a) (first.map (aE ρ)) (b.map (aE ρ))))):=aO _ (by simp[fy,aE,jA]);simp only[jA];rw[wZ];cases first[0]?
  ·exact d
  rename_i u;cases u<;>simp only[d9,aE]<;>try first|exact jU hP rfl|exact d
  refine .program ?_;simp only[BW];rw[←hP.types];exact(sH hP _ _ _ a).bind λq=>cE (.dead trivial) d
theorem yK(hP:bN PL PM)(hF:JM PL PM ρ)(f:∀g,iK ρ PL PM g)(b:∀x,lV z x=true->ev' x=aE ρ (ev x))(o:Oper)(a:mN z o.op=true):aF ρ PL PM (fy ρ) (execOp ev o) (execOp ev' o):=by
 by_cases e:∃x,o.op= .nilCheck x
 ·obtain⟨x,d⟩:=e;rw[d]at a;exact B9 hP (ev x) x x rfl (b x a) d d
 unfold execOp;cases c:o.op
 case nilCheck x=>exact absurd ⟨x,c⟩ e
 all_goals rw[c]at a
 all_goals try simp only[mN,d7]at a
 all_goals try simp only[b,evs b,evp b,evo b,a]
 all_goals first
  |(cases a;done)
  |exact aO _ rfl
  |exact Mh hP hF f b _ o.type a
  |exact ce (JB hP _)
  |exact ce (PW _ _)
  |exact ce (Jz hP _ _)
  |exact ce (vF hP _ _ _)
  |exact ce (gO hP _ _)
  |exact yI (Dc hP _ _ _)
  |exact ce ((Jv hP _ _ _ _ _ _).bind λ_=>PX hP hF _ _ _ _)
  |exact ce (Jq _ _)
  |exact ce (Dj hP _ _ _)
  |exact ce (rA hP _ _)
  |exact ce (Bc _ a.1.1 _ _)
  |exact ce (yL hP _ _ _)
  |exact ce (Dd hP _ _ _ _ _)
  |exact ce (Dg hP _ _ _)
  |exact ce (Jw hP _ _ _)
  |exact ce (jW hP _ _ _)
  |exact ce (Ju hP _ _ _)
  |exact ce (Dh _ _)
  |exact(xp _).bind λq=>aO _ (by cases q<;>rfl)
end
def cV(ρ:Nat->Nat):Item->Item
 | .inRangeFunc l=> .inRangeFunc (ρ l)
 | .endRangeFunc l=> .endRangeFunc (ρ l)
 | .call d w r s=> .call (kb ρ d) w r (s.map (aE ρ))
 | .extern r a=> .extern r (a.map (aE ρ))
 |i=>i
def jL:Value->Bool
 | .pointer (some a)=>a.block==eP
 |_=>false
def iP(ρ:Nat->Nat)(v:Value):Value:=if jL v=true then v else aE ρ v
def mF(z:Nat)(ρ:Nat->Nat)(v:Value):Value:=if z=1 then iP ρ v else v
def ka(ρ:Nat->Nat)(fn:FuncId)(tmps:Array Value):Array Value:=
 tmps.mapIdx λi v=>if qL (dt fn) i=true then mF (dt fn) ρ v else aE ρ v
def bF(ρ:Nat->Nat)(fr:Frame):Frame:=
 {fr with tmps:=ka ρ fr.fn fr.tmps,todo:=fr.todo.map (cV ρ),defers:=fr.defers.map (kb ρ),roundOf:=fr.roundOf.map ρ}
def kJ(z:Nat):Item->Bool
 | .code c=>jb z c
 | .inLoop b| .inScope b=>jb z b
 | .inBlock _=>true
 | .inRegion ops l=>ops.all (yS z)||(dH z ops&&(l==[0,1]||l==[1]||l==[]))
 | .inRangeFunc _| .endRangeFunc _| .beginRound=>z==0
 | .call ..| .extern ..=>false
def dx(ds:List Deferred):Bool:=ds.all λd=>match d.target with
 | .collected _=>true
 | .fn (.func g) _=>g==fM
 |_=>false
def O1:FrameMode->Bool
 | .panicking ch=> !ch.isEmpty&&ch.all λe=>bO e.v&& !e.goexit
 |_=>true
structure OkB (fr:Frame):Prop where
 defers:dx fr.defers=true
 mode:O1 fr.mode=true
 kind:fr.kind= .normal\/fr.kind= .deferred
 round:dt fr.fn≠0->fr.roundOf=none
def E4(z:Nat):Item->Bool
 | .inRegion _ _=>false
 |i=>kJ z i
def kt(z:Nat):List Item->Bool
 |[]=>true
 |i::k=>kJ z i&&k.all (E4 z)
theorem QP{z:Nat}{i:Item}(h:E4 z i=true):kJ z i=true:=by cases i<;>first|exact h|cases h
theorem ya{z:Nat}{k:List Item}(h:k.all (E4 z)=true):kt z k=true:=by
 cases k with
 |nil=>rfl
 |cons i k=>
  simp only[Su,d7]at h;simp only[kt,d7];exact⟨QP h.1,h.2⟩
structure j3 (fr:Frame):Prop extends OkB fr where
 todo:kt (dt fr.fn) fr.todo=true
def mQ(fr:Frame):Prop:=fr.mode= .run->∀ops k,fr.todo= .inRegion ops [1]::k->dH 3 ops=true->∃(o:Oper) (d:Tmp),ops[1]?=some o/\o.guard=none/\o.dst=none/\
 ((o.op= .panic (.tmp d)/\(fr.tmps[d]?=none\/∃t s,fr.tmps[d]?=some (.iface t (.string s))))\/(∃c,o.op= .defer c/\c.args.isEmpty=true/\c.callee= .value (.tmp d)/\(fr.tmps[d]?=none\/∃a b,fr.tmps[d]?=some (.func (.func fM) a b))))
theorem gH(h:∀ops k,fr.todo≠ .inRegion ops [1]::k):mQ fr:=λ_ ops k e=>absurd e (h ops k)
theorem ri(h:fr.mode≠ .run):mQ fr:=λe=>absurd e h
theorem Eb(b:∀ops k,fr.todo= .inRegion ops [1]::k->dH 3 ops=false):mQ fr:=λ_ ops k e a=>by rw[b ops k e]at a;cases a
theorem pS{z:Nat}(h:ops.all (yS z)=true):dH 3 ops=false:=by
 cases a:dH 3 ops with
 |false=>rfl
 |true=>
  obtain⟨l⟩:=ops;unfold dH at a;split at a
  ·rename_i o p e;simp only at e;subst e;have c:yS z p=true:=ET.1 h p s_;simp only[d7]at a;have a:=a.2;split at a
   ·rename_i b;simp[yS,mN,E2,b]at c
   ·rename_i b;simp[yS,mN,E2,b]at c
   ·cases a
  ·cases a
theorem wa(a:Nat->Nat)(fn:FuncId)(tmps:Array Value):(ka a fn tmps).size=tmps.size:=by simp[ka]
theorem fF(a:Nat->Nat)(fn:FuncId)(tmps:Array Value)(t:Nat)(h:qL (dt fn) t=false):(ka a fn tmps)[t]?=(tmps[t]?).map (aE a):=by simp only[ka,VS,h,qD,↓reduceIte]
theorem mg(a:Nat->Nat)(fn:FuncId)(tmps:Array Value)(t:Nat)(h:qL (dt fn) t=true):(ka a fn tmps)[t]?=(tmps[t]?).map (mF (dt fn) a):=by simp only[ka,VS,h,↓reduceIte]
theorem mf(a:Nat->Nat){fn:FuncId}(h:dt fn=0)(tmps:Array Value):ka a fn tmps=tmps.map (aE a):=by
 have:dt fn=0:=by simpa using h
 apply Wq
 ·simp[ka]
 ·intro i c b;simp[ka,this,SH]
theorem fS(a:Nat->Nat):aE a undef=undef:=dG a undef rfl
theorem fc(fr:Frame)(x:Operand)(h:lV (dt fr.fn) x=true):(bF ρ fr).eval x=aE ρ (fr.eval x):=by
 cases x with
 |tmp t=>
  have a:qL (dt fr.fn) t=false:=by simp only[lV,Bool.not_eq_true']at h;exact h
  have:=fF ρ fr.fn fr.tmps t a;simp only[VE,bF,Array.getD_eq_getD_getElem?];rw[this];cases fr.tmps[t]? with
  |none=>exact(fS ρ).symm
  |some v=>rfl
 |const v=>simp only[VE];exact(dG ρ v h).symm
 |func g=>simp[VE,aE,jA]
 |global g=>cases h
theorem zB(a:Nat->Nat)(fn:FuncId)(tmps:Array Value)(d:Nat)(v:Value)(h:qL (dt fn) d=false):(ka a fn tmps).setIfInBounds d (aE a v)=ka a fn (tmps.setIfInBounds d v):=by
 apply Wl;intro i;by_cases f:qL (dt fn) i=true
 ·rw[mg a fn _ i f];have b:d≠i:=λe=>by subst e;rw[h]at f;cases f
  rw[sN b,sN b,mg a fn _ i f]
 ·have c:qL (dt fn) i=false:=by simpa using f
  rw[fF a fn _ i c];by_cases g:d=i
  ·subst g;rw[Ll,Ll,wa];simp only[↓reduceIte];split<;>rfl
  ·rw[sN g,sN g,fF a fn _ i c]
def rc(fr:Frame):Prop:=∀ops j rest k,fr.todo= .inRegion ops (j::rest)::k->ops.all (yS (dt fr.fn))=true
theorem j3.noPair{fr:Frame}(h:j3 fr)(hz:dt fr.fn=1):rc fr:=λops j rest k e=>by
 have:=h.todo;rw[e]at this;simp only[kt,d7,kJ,No]at this;rcases this.1 with h|h
 ·exact h
 ·have h1:=h.1;unfold dH at h1;split at h1
  ·simp[hz]at h1
  ·cases h1
def dT(fr:Frame):Prop:=(∀o d,fr.oper?=some o->o.dst=some d->qL (dt fr.fn) d=false)/\rc fr
theorem rv(h:∀ops j rest k,fr.todo≠ .inRegion ops (j::rest)::k):dT fr:=by
 refine⟨λo d a=> ?_,λops j rest k e=>absurd e (h ops j rest k)⟩;unfold Frame.oper? at a;split at a
 ·rename_i e;exact absurd e (h _ _ _ _)
 ·cases a
theorem fK(fr:Frame)(v:Value)(h:j3 fr)(z:dT fr):(bF ρ fr).finish (aE ρ v)=bF ρ (fr.finish v):=by
 obtain⟨y,f,b,m,u,x,g⟩:=fr;cases b with
 |nil=>rfl
 |cons i k=>
  have p:=h.todo;simp only[kt,d7]at p;cases i with
  |inRegion c b=>
   cases b with
   |nil=>rfl
   |cons j t=>
    have q:∀d,(c[j]?).bind (·.dst)=some d->qL (dt y) d=false:=λd e=>by
     cases n:c[j]? with
     |none=>rw[n]at e;cases e
     |some o=>rw[n]at e;exact z.1 o d n e
    simp only[bF,Vf,rn,cV];cases e:(c[j]?).bind (·.dst)with
    |none=>simp
    |some d=>simp[zB ρ y f d v (q d e)]
  |inRangeFunc l=>rfl
  |beginRound=>rfl
  |call d w r s=>cases p.1
  |extern r a=>cases p.1
  |_=>rfl
theorem ws(fr:Frame)(v:Value)(h:j3 fr)(F:rc fr):j3 (fr.finish v)/\(mQ fr->mQ (fr.finish v)):=by
 obtain⟨G,y,b,o,A,B,g⟩:=fr;have x:=h;obtain⟨⟨u,t,q,p⟩,c⟩:=h;cases b with
 |nil=>exact⟨x,id⟩
 |cons i k=>
  simp only[kt,d7]at c;cases i with
  |inRegion n b=>
   cases b with
   |nil=>exact⟨x,id⟩
   |cons j m=>
    have f:=F n j m k rfl;refine⟨⟨⟨u,t,q,p⟩, ?_⟩,λ_ _ z E e C=> ?_⟩
    ·simp only[Vf,kt,d7];exact⟨by simp only[kJ,f,Xf],c.2⟩
    ·simp only[Vf,List.cons.injEq,WM.injEq]at e;rw[←e.1.1,pS f]at C;cases C
  |inRangeFunc l=>exact⟨⟨⟨u,t,q,p⟩,by simp only[Vf,kt,d7];exact⟨c.1,c.2⟩⟩,λ_=>gH λ_ _ e=>by simp[Vf]at e⟩
  |beginRound=>
   refine⟨⟨⟨u,t,q,p⟩,ya c.2⟩,λ_=>gH λn E e=> ?_⟩;simp only[Vf]at e;have D:=c.2;rw[e]at D;simp[E4]at D
  |call d w r s=>cases c.1
  |extern r a=>cases c.1
  |_=>exact⟨x,id⟩
theorem dm(fr:Frame)(v:Value):(fr.finish v).kind=fr.kind:=by unfold Vf;split<;>rfl
def kW:CallKind->List Frame->Prop
 |_,[]=>True
 |kd,c::r=>j3 c/\(dT c\/(kd= .deferred/\c.mode≠ .run))/\kW c.kind r
theorem ou(m:∃fn a,PL.funcs[f]?=some fn/\PM.funcs[f]?=some a/\fn.ntmps=a.ntmps/\fn.body=a.body)(args:Array Value)(l:∀v∈args,jL v=false)(j:dt f≠2)(e:CallKind):t4 PM f (args.map (aE ρ)) e=bF ρ (t4 PL f args e):=by
 obtain⟨fn,a,s,r,q,p⟩:=m;simp only[t4,bF,s,r,d9,y9,Hk,q,p,rn,Xa,cV,WQ,M1]
 congr 1
 apply Wl;intro i;by_cases b:qL (dt f) i=true
 ·rw[mg ρ f _ i b,←wZ,MG,XL];have c:dt f=1:=by
   unfold qL at b;simp only[No,d7,beq_iff_eq]at b;rcases b with h|h
   ·exact h.1
   ·exact absurd h.1 j
  have g:∀v,mF (dt f) ρ v=iP ρ v:=λv=>by simp[mF,c]
  have o:args.map (mF (dt f) ρ)=args.map (aE ρ):=Vx λv k=>by rw[g];simp[iP,l v k]
  have n:mF (dt f) ρ undef=undef:=(g _).trans (fS ρ);rw[o,n]
 ·have d:qL (dt f) i=false:=by simpa using b
  rw[fF ρ f _ i d,←wZ,MG,XL,fS]
def zT:Next->Bool
 | .value _| .skip| .enter ..| .round ..=>true
 |_=>false
def cK(P:Program)(s:Sem Next):Prop:=∀w n w',s.run P w= .ok n w'->zT n=true
theorem cK.pure{n:Next}(h:zT n=true):cK P (pure n):=λw m a e=>by cases e;exact h
theorem cK.halt(x:Halt):cK P (.halt x):=λw m a e=>by cases e
theorem cK.after{b:Type}{s:Sem b}{k:b->Sem Next}(h:∀a,cK P (k a)):cK P (s>>=k):=λw n f e=>by
 rw[K8]at e;cases d:s.run P w with
 |ok a c=>rw[d]at e;exact h a c n f e
 |halt x c=>rw[d]at e;cases e
theorem cK.ite{c:Prop}[Decidable c]{A B:Sem Next}(b:cK P A)(a:cK P B):cK P (if c then A else B):=by
 split
 ·exact b
 ·exact a
theorem cK.rt(e:RuntimeError):cK P (runtimePanic e):=λw n c h=>by obtain⟨x,b,a,_⟩:=lI (PL:=P) (α:=Next) e w;rw[a]at h;cases h
theorem fJ(s:Sem Value):cK P (do pure (.value (←s))):=cK.after λ_=> .pure rfl
theorem rp(s:Sem Unit):cK P (do s;pure .skip):=cK.after λ_=> .pure rfl
theorem kO(g:FuncId)(m:iK ρ P PM g)(args:Array Value):cK P (callFunc g args):=by
 unfold callFunc;intro w n j h;rw[K8]at h
 change (match P.funcs[g]? with|none=>_|some b=>_:Sem Next).run P w=_ at h
 cases d:P.funcs[g]? with
 |none=>rw[d]at h;cases h
 |some b=>
  rw[d]at h;obtain⟨l,o⟩:=m b d;have c:(b.name== "runtime.NumGoroutine")=false:=by simpa using l
  simp only[c,qD,↓reduceIte]at h;rcases o with⟨a,_⟩|⟨a,i,f,p⟩|⟨a,i,_,e,f,_⟩
  ·have k:b.body.isNone=false:=(by rw[Vo];exact a);simp only[k,qD,↓reduceIte]at h;cases h;rfl
  ·rw[a,i,f,p]at h;cases h
  ·rw[a,i,f]at h;exact cK.after (P:=P) (s:=mark (.extern g)) (λ_=>fJ (e args)) w n j h
theorem mH(a:∀g,iK ρ P PM g)(r:Value)(name:String)(args:Array Value):cK P (callMethod r name args):=by
 unfold callMethod;cases r with
 |iface t v=>exact cK.after λp=>cK.after λy=>kO y.1 (a y.1) _
 |nilIface=>exact cK.rt _
 |_=>exact cK.halt _
theorem CJ(l:Nat)(args:Array Value):cK P (Vi l args):=by unfold Vi;refine cK.after λr=> ?_;exact cK.ite (cK.halt _) (.pure rfl)
theorem oH(b:∀g,iK ρ P PM g)(fn:Fn)(cap args:Array Value):cK P (invoke (.fn fn cap) args):=by
 cases fn with
 |func g=>exact kO g (b g) _
 |method a=>
  unfold invoke;dsimp only;cases args[0]? with
  |none=>exact cK.halt _
  |some r=>exact mH b _ _ _
 |methodOf t a=>
  unfold invoke;dsimp only;cases args[0]? with
  |none=>exact cK.halt _
  |some r=>exact cK.after λd=>mH b _ _ _
 |via t c g e=>
  unfold invoke;dsimp only;cases args[0]? with
  |none=>exact cK.halt _
  |some r=>exact cK.after λd=>kO g (b g) _
 |yield l=>exact CJ l args
theorem ym(b:Builtin)(c:KZ b=true)(a:Array TypeId)(t:TypeId)(cs:Array Bool)(args:Array Value):cK P (builtin b a t cs args):=by cases b<;>first|exact fJ _|(simp[KZ]at c;done)
theorem G6(j:∀g,iK ρ P PM g)(ev:Operand->Value){z:Nat}(c:Call)(t:TypeId)(i:SV z c=true):cK P (do let d←resolve ev c t;invoke d.target d.args):=by
 unfold resolve;simp only[SV,d7]at i;have e:=i.2;cases a:c.callee with
 |builtin b=>rw[a]at e;exact ym b e _ _ _ _
 |invoke r h=>rw[a]at e;cases e
 |value g=>
  dsimp only;unfold NP;cases ev g with
  |func k first f=>exact oH j k f _
  |nilFunc=>exact cK.rt .nilDeref
  |_=>exact cK.halt _
theorem wN(f:∀g,iK ρ P PM g)(ev:Operand->Value){z:Nat}(o:Oper)(e:mN z o.op=true):cK P (execOp ev o):=by
 unfold execOp;cases d:o.op with
 |move x=>exact .pure rfl
 |assign x=>exact .pure rfl
 |pick a b c=>exact cK.after λ_=> .pure rfl
 |store t a x=>exact rp _
 |nilCheck x=>
  dsimp only;split<;>first
   |exact cK.rt _
   |exact .pure rfl
   |(split<;>first
      |exact cK.rt _
      |exact .pure rfl
      |(refine cK.after λ_=>cK.after λ_=> ?_;exact cK.ite (cK.halt _) (.pure rfl)))
 |call c=>rw[d]at e;exact G6 f ev c o.type e
 |_=>first
  |exact fJ _
  |(rw[d]at e;cases e)
def iJ(P:Program)(fr:Frame)(cs:List Frame):Next->Goroutine
 | .value v=>{frame:=fr.finish v,callers:=cs,status:= .running,dying:=none}
 | .enter f args=>{frame:=t4 P f args .normal,callers:=fr::cs,status:= .running,dying:=none}
 | .round l f tmps a b=>{frame:=OX l f tmps a b .normal,callers:=fr::cs,status:= .running,dying:=none}
 |_=>{frame:=fr.finish undef,callers:=cs,status:= .running,dying:=none}
def ek(fr:Frame):Prop:=∀d w r s k,fr.todo≠ .call d w r s::k
theorem j3.noCall{fr:Frame}(h:j3 fr):ek fr:=λd w r s k e=>by have:=h.todo;rw[e]at this;simp[kt,kJ]at this
section
variable{s:Sem Next}
theorem dD(g:ek fr){n:Next}(b:s.runT P w #[]=(.ok n w',es))(c:zT n=true):
 stepG.apply P true fr cs none s w= .go (iJ P fr cs n) w' (seen P fr.fn (if fr.kind== .early then #[]else es)):=by
 have d:=g;unfold stepG.apply;simp only[b,↓reduceIte];cases n with
 |enter f a=>
  simp only[mX,iJ,Hq];split
  ·rename_i e;exact absurd e (d _ _ _ _ _)
  ·rfl
 |_=>first
  |(simp[zT]at c;done)
  |simp[mX,iJ]
theorem lU{a:Array Event}{x:GStep}(h:mX es x= .go g w a):∃es1,x= .go g w es1:=by cases x<;>simp only[mX,Vj.injEq,reduceCtorEq]at h;obtain⟨rfl,rfl,_⟩:=h;exact⟨_,rfl⟩
theorem sw{m:String}(h:endFatal P fr cs none m w= .go g w' es)(a:g.dying=none):False:=by
 unfold endFatal at h;dsimp only at h;split at h
 ·simp only[dieOf,Vj.injEq]at h;obtain⟨rfl,_,_⟩:=h;cases a
 ·cases h
 ·cases h
theorem ly(d:Nat->Nat)(fr:Frame)(h:List PanicEntry):(bF d fr).raise h=bF d (fr.raise h):=by obtain⟨i,f,e,c,b,g,a⟩:=fr;cases b<;>rfl
def Cc(ch:List PanicEntry):Bool:= !ch.isEmpty&&ch.all λe=>bO e.v&& !e.goexit
theorem OkB.raise{fr:Frame}(h:OkB fr){i:List PanicEntry}(c:Cc i=true):OkB (fr.raise i):=by
 obtain⟨o,k,j,d,b,l,a⟩:=fr;obtain⟨g,m,f,e⟩:=h;cases b with
 |panicking n=>
  refine⟨g, ?_,f,e⟩;simp only[O1,Cc,d7,a1_,List.all_append]at m c⊢;exact⟨by cases i<;>simp at c⊢,c.2,m.2⟩
 |run=>exact⟨g,c,f,e⟩
 |returning=>exact⟨g,c,f,e⟩
theorem u6(fr:Frame)(g:List PanicEntry):(fr.raise g).todo=fr.todo/\(fr.raise g).fn=fr.fn:=by obtain⟨h,e,d,c,b,f,a⟩:=fr;cases b<;>exact⟨rfl,rfl⟩
theorem j3.raise{fr:Frame}(h:j3 fr){a:List PanicEntry}(b:Cc a=true):j3 (fr.raise a):=⟨h.toOkB.raise b,by rw[(u6 fr a).1,(u6 fr a).2];exact h.todo⟩
theorem jI(fr:Frame)(g:List PanicEntry):mQ (fr.raise g):=ri (by obtain⟨h,e,d,c,b,f,a⟩:=fr;cases b<;>simp[a1_])
theorem jC(fr:Frame)(g:List PanicEntry):(fr.raise g).kind=fr.kind:=by obtain⟨h,e,d,c,b,f,a⟩:=fr;cases b<;>rfl
theorem wX{fr:Frame}(h:dT fr):mQ fr:=λ_ b k e a=>by rw[pS (h.2 _ _ _ _ e)]at a;cases a
theorem SR{fr:Frame}(h:j3 fr)(a:dT fr)(v:Value):j3 (fr.finish v)/\mQ (fr.finish v):=⟨(ws fr v h a.2).1,(ws fr v h a.2).2 (wX a)⟩
def iw(fr:Frame)(cs:List Frame)(v:Value):Goroutine:={frame:=fr.raise [{v,recovered:=false}],callers:=cs,status:= .running,dying:=none}
theorem zO(a:s.runT P w #[]=(.halt (.panic v) w',es)):
 stepG.apply P true fr cs none s w= .go (iw fr cs v) w' (seen P fr.fn (if fr.kind== .early then #[]else es)):=by unfold stepG.apply;simp only[a,↓reduceIte,mX,Hq];rfl
theorem qE(p:ek fr)(y:cK P s)(h:stepG.apply P listen fr cs none s w= .go g w' es)
 (C:g.status= .running) (t:∀x a,s.run P w= .halt x a->eT x\/∃v,x= .panic v)
 (j:g.dying=none):(∃n,s.run P w= .ok n w'/\zT n=true/\g=iJ P fr cs n)\/∃v,s.run P w= .halt (.panic v) w'/\g=iw fr cs v:=by
 have i:(if listen=true then s.runT P w #[]else(s.run P w,#[])).1=s.run P w:=by
  split
  ·exact Sem.runT_fst P s w #[]
  ·rfl
 unfold stepG.apply at h;generalize (if listen=true then s.runT P w #[]else(s.run P w,#[]))=q at h i;obtain⟨r,A⟩:=q;simp only at i;subst i;simp only at h;cases d:s.run P w with
 |ok n a=>
  rw[d]at h;have o:=y w n a d;cases n with
  |enter f l=>
   simp only[mX,Vj.injEq]at h;obtain⟨rfl,rfl,_⟩:=h;refine .inl ⟨_,rfl,rfl, ?_⟩;simp only[iJ];split
   ·rename_i e;exact absurd e (p _ _ _ _ _)
   ·rfl
  |_=>first
   |(simp[zT]at o;done)
   |(simp only[mX,Vj.injEq]at h
     obtain⟨rfl,rfl,_⟩:=h;exact .inl ⟨_,rfl,rfl,rfl⟩)
 |halt x a=>
  rw[d]at h;have b:=t x a d;cases x with
  |panic v=>
   simp only[mX,Vj.injEq]at h;obtain⟨rfl,rfl,_⟩:=h;exact .inr ⟨v,rfl,rfl⟩
  |goexit=>rcases b with h|⟨_,h⟩<;>cases h
  |blocked=>rcases b with h|⟨_,h⟩<;>cases h
  |waiting=>rcases b with h|⟨_,h⟩<;>cases h
  |unsupported u=>
   cases u with
   |initOrder k=>rcases b with h|⟨_,h⟩<;>cases h
   |_=>simp[mX]at h
  |stuck m=>simp[mX]at h
  |exit c=>simp[mX]at h
  |throw m=>
   simp only[endThrow,dieOf,mX,Vj.injEq]at h;obtain⟨rfl,_,_⟩:=h;cases j
  |fatal m=>
   obtain⟨z,B⟩:=lU h;exact(sw B j).elim
end
theorem dp(P:Program)(fn:FuncId)(es:Array Event):∀e∈seen P fn es,e∈es:=by
 intro e b;unfold seen at b;dsimp only at b;revert b;refine Array.foldl_induction (motive:=λ_ (x:Bool×Array Event)=>e∈x.2->e∈es) s_ ?_;intro i c a;obtain⟨q,d⟩:=c;dsimp only;split
 ·exact a
 ·intro h;dsimp only at h;split at h
  ·exact a h
  ·rcases Array.mem_push.1 h with h|h
   ·exact a h
   ·rw[h];exact Ww _
structure ew (G:Nat) (D:Nat->Prop) (ρ:Nat->Nat) (base:List Frame) (gL gM:Goroutine):Prop where
 frame:∀ρ',aR G D ρ ρ'->gM.frame=bF ρ' gL.frame
 callers:∀ρ',aR G D ρ ρ'->gM.callers=gL.callers.map (bF ρ')++base
 ok:j3 gL.frame/\mQ gL.frame
 oks:kW gL.frame.kind gL.callers
 run:gL.status= .running/\gM.status= .running/\gL.dying=none/\gM.dying=none
theorem E3(a:Nat->Nat)(n:Next):zT (fy a n)=zT n:=by cases n<;>rfl
theorem mp{f g:Value->Value}{xs:Array Value}(h:xs.map f=xs.map g)(hv:v∈xs):f v=g v:=by obtain⟨i,hi,rfl⟩:=Array.mem_iff_getElem.1 hv;have:=congrArg (λys:Array Value=>ys[i]?) h;simpa[hi]using this
theorem cR.noTab{G T:Nat}{c:Nat->Nat}{wL d:World}(h:cR G T D c wL d)(g:eP<G)(hv:∀b,aR G D c b->aE b v=aE c v):jL v=false:=by
 cases v with
 |pointer p=>
  cases p with
  |none=>rfl
  |some a=>
   have e:D a.block:=h.dom λb f=>by have:=hv b f;simp only[aE,d9,Xy.injEq,Option.some.injEq]at this;exact congrArg XU this
   have:=h.out _ e;simp only[jL,beq_eq_false_iff_ne];omega
 |_=>rfl
section
variable{G T:Nat}{base:List Frame}
def jc(PL PM:Program)(f:FuncId):Prop:=∃fn fn',PL.funcs[f]?=some fn/\PM.funcs[f]?=some fn'/\fn.ntmps=fn'.ntmps/\fn.body=fn'.body/\∃c,fn.body=some c/\pE f c=true
theorem kB(hG:eP<G)(hV:∀w a b,Pn PM w a b=Pn PL w a b)(hS:∀w a v b,NE PM w a v b=NE PL w a v b)(Q:cR G T D ρ wL wM)
 {fr':Frame} {cs':List Frame} (y:∀g,aR G D ρ g->fr'=bF g fr) (B:∀g,aR G D ρ g->cs'=cs.map (bF g)++base) (ok:j3 fr) (A:kW fr.kind cs) (o:dT fr)
 {s s':Sem Next} (hs:∀g,aR G D ρ g->aF g PL PM (fy g) s s') (h4:cK PL s) (hI:∀x C,s.run PL wL= .halt x C->eT x\/∃v,x= .panic v)
 (hE:∀f args C,s.run PL wL= .ok (.enter f args) C->jc PL PM f)
 (hR:∀l f tmps a b C,s.run PL wL= .ok (.round l f tmps a b) C->jb 0 a=true/\jb 0 b=true/\dt f=0)
  {J:Goroutine} {wL':World} {S:Array Event} (h:stepG.apply PL listen fr cs none s wL= .go J wL' S) (hT:wL'.drawn<=T) (hq:J.status= .running) (hd:J.dying=none):
 ∃D' g gM wM' H,stepG.apply PM true fr' cs' none s' wM= .go gM wM' H/\ew G D' g base J gM/\ia G T D ρ wL wM D' g wL' wM'/\∀e∈H,iL D' g e:=by
 rcases qE ok.noCall h4 h hq hI hd with⟨n,u,Z,rfl⟩|⟨v,u,rfl⟩
 rotate_left
 ·obtain⟨D',p,r',wM',U,X,W,z,V⟩:=dN hV hS fy s s' D ρ wL wM Q hs #[] _ wL' u rfl hT;cases W with
  |panic hp=>
   have q:=λg (j:aR G D' p g)=>aR.of_ran z j;refine⟨D',p,_,wM',_,zO X,⟨λg j=> ?_,λg j=>B g (q g j),⟨ok.raise (by simp[Cc,hp]),jI _ _⟩,by rw[iw,jC];exact A,rfl,rfl,rfl,rfl⟩,z,λe O=> ?_⟩
   ·show fr'.raise _=bF g (fr.raise _);rw[y g (q g j),ly]
   ·have:=dp _ _ _ e O;split at this
    ·simp at this
    ·exact V e (by simpa using this)
 obtain⟨D',p,r',wM',U,X,W,z,V⟩:=dN hV hS fy s s' D ρ wL wM Q hs #[] _ wL' u rfl hT;cases W with
 | @ok _ n' _ _ m=>
   have F:=y ρ Q.self;have P:ek fr':=by
    intro d w r s k e;rw[F]at e;have:=ok.noCall;cases L:fr.todo with
    |nil=>simp[bF,L]at e
    |cons i t=>
     simp only[bF,L,rn,List.cons.injEq]at e;cases i<;>simp[cV]at e;exact this _ _ _ _ _ L
   have N:zT n'=true:=(by rw[m p z.rel.self,E3];exact Z);have M:=dD (cs:=cs') P X N;refine⟨D',p,_,wM',_,M, ?_,z,λe O=> ?_⟩
   ·have q:=λg (j:aR G D' p g)=>aR.of_ran z j;cases n with
    |value v=>
     refine⟨λg j=> ?_,λg j=> ?_,SR ok o v,by show kW (fr.finish v).kind cs;rw[dm];exact A, ?_⟩
     ·rw[m g j];show fr'.finish (aE g v)=bF g (fr.finish v);rw[y g (q g j),fK fr v ok o]
     ·rw[m g j];exact B g (q g j)
     ·rw[m p z.rel.self];exact⟨rfl,rfl,rfl,rfl⟩
    |skip=>
     refine⟨λg j=> ?_,λg j=> ?_,SR ok o undef,by show kW (fr.finish undef).kind cs;rw[dm];exact A, ?_⟩
     ·rw[m g j];show fr'.finish undef=bF g (fr.finish undef);rw[y g (q g j),←fK fr undef ok o,fS]
     ·rw[m g j];exact B g (q g j)
     ·rw[m p z.rel.self];exact⟨rfl,rfl,rfl,rfl⟩
    |enter f args=>
     obtain⟨fn,R,I,K,E,q4,c,q5,Y⟩:=hE f args wL' u;have ha:∀v∈args,jL v=false:=λv hv=>by refine z.rel.noTab hG λg j=> ?_;have:=(m g j).symm.trans (m p z.rel.self);simp only[fy,Next.enter.injEq,true_and]at this;exact mp this hv
     refine⟨λg j=> ?_,λg j=> ?_, ?_, ?_, ?_⟩
     ·rw[m g j];exact ou ⟨fn,R,I,K,E,q4⟩ args ha (E5 Y) .normal
     ·rw[m g j];show fr'::cs'=_;rw[y g (q g j),B g (q g j)];rfl
     ·refine⟨⟨⟨rfl,rfl, .inl rfl,λ_=>rfl⟩, ?_⟩,gH λ_ _ e=>by cases e⟩;simp only[iJ,t4,I,Hk,q5,y9,kt,List.all_nil,Bool.and_true];exact E6 Y
     ·exact⟨ok, .inl o,A⟩
     ·rw[m p z.rel.self];exact⟨rfl,rfl,rfl,rfl⟩
    |round l f tmps a b=>
     obtain⟨I,K,E⟩:=hR l f tmps a b wL' u;refine⟨λg j=> ?_,λg j=> ?_, ?_, ?_, ?_⟩
     ·rw[m g j];show OX (g l) f (tmps.map (aE g)) a b .normal=bF g (OX l f tmps a b .normal);simp only[OX,bF,mf g E,rn,Xa,cV,d9]
     ·rw[m g j];show fr'::cs'=_;rw[y g (q g j),B g (q g j)];rfl
     ·have hz:dt f=0:=(by simpa using E);refine⟨⟨⟨rfl,rfl, .inl rfl,λe=>absurd E e⟩, ?_⟩,gH λ_ _ e=>by cases e⟩;simp[iJ,OX,hz,kt,kJ,E4,I,K]
     ·exact⟨ok, .inl o,A⟩
     ·rw[m p z.rel.self];exact⟨rfl,rfl,rfl,rfl⟩
    |_=>simp[zT]at Z
   ·have:=dp _ _ _ e O;split at this
    ·simp at this
    ·exact V e (by simpa using this)
end
theorem pn(a:Nat->Nat)(id:Nat):∀k:List Item,exitTo id (k.map (cV a))=(exitTo id k).map (YH (cV a))
 |[]=>rfl
 |i::k=>by
  have b:=pn a id k;cases i with
  |inBlock c=>
   simp only[rn,cV,exitTo];split
   ·rfl
   ·exact b
  |_=>simp only[rn,cV,exitTo];exact b
theorem rq(z:Nat)(id:Nat):∀(k:List Item) {t:List Item},exitTo id k=some t->k.all (E4 z)=true->t.all (E4 z)=true
 |[],t,h,_=>by cases h
 |i::k,t,h,ha=>by
  simp only[Su,d7]at ha;cases i with
  |inBlock a=>
   simp only[exitTo]at h;split at h
   ·cases h;exact ha.2
   ·exact rq z id k h ha.2
  |_=>simp only[exitTo]at h;exact rq z id k h ha.2
theorem eH(a:Nat->Nat)(fn:FuncId)(ops:Array Oper)(tmps:Array Value)(j:Nat):yielded ops (ka a fn tmps) j=yielded ops tmps j:=by
 unfold yielded;cases (ops[j]?).bind (·.dst)with
 |none=>rfl
 |some d=>
  simp only[Hk];by_cases h:qL (dt fn) d=true
  ·rw[mg a fn tmps d h];cases tmps[d]? with
   |none=>rfl
   |some v=>
    by_cases b:dt fn=1
    ·by_cases c:jL v=true
     ·simp[mF,b,iP,c]
     ·simp only[d9,mF,b,iP,c];cases v<;>simp[aE]
    ·simp[mF,b]
  ·rw[fF a fn tmps d (by simpa using h)];cases tmps[d]? with
   |none=>rfl
   |some v=>cases v<;>simp[aE]
theorem BF{G:Nat}{base:List Frame}{fr':Frame}{cs':List Frame}(f:∀a,aR G D ρ a->fr'=bF a fr)(g:∀a,aR G D ρ a->cs'=cs.map (bF a)++base)(c:j3 fr)(d:kW fr.kind cs)
 {t h:List Item} (j:∀a,aR G D ρ a->h=t.map (cV a)) (e:kt (dt fr.fn) t=true) (b:∀ops k,t= .inRegion ops [1]::k->dH 3 ops=false):
 ew G D ρ base {frame:={fr with todo:=t},callers:=cs,status:= .running,dying:=none} {frame:={fr' with todo:=h},callers:=cs',status:= .running,dying:=none}:=by refine⟨λa i=> ?_,g,⟨⟨⟨c.defers,c.mode,c.kind,c.round⟩,e⟩,Eb b⟩,d,rfl,rfl,rfl,rfl⟩;rw[f a i,j a i];rfl
section
variable{G T:Nat}{base:List Frame}
def bZ(fr:Frame):Option (List Item):=
 match fr.todo with
 | .inRegion _ []::k=>some k
 | .inScope _::k=>some k
 | .inBlock _::k=>some k
 | .inLoop b::k=>some (.code b:: .inLoop b::k)
 | .code c::k=>
   match c with
   | .label _=>some k
   | .skip=>some k
   | .region _ ops false=>some (.inRegion ops (Ak ops.size)::k)
   | .exit id=>exitTo id k
   | .scope b=>some (.code b:: .inScope b::k)
   | .loop b=>some (.code b:: .inLoop b::k)
   | .block id b=>some (.code b:: .inBlock id::k)
   | .cond x a b=>match fr.eval x with| .bool q=>some (.code (if q then a else b)::k)|_=>none
   | .seq a b=>some (.code a:: .code b::k)
   |_=>none
 |_=>none
theorem jF{t:List Item}(h:bZ fr=some t):
 stepG.exec P main listen fr cs none w= .go {frame:={fr with todo:=t},callers:=cs,status:= .running,dying:=none} w:=by
 obtain⟨o,l,todo,g,m,n,d⟩:=fr;unfold bZ at h;unfold stepG.exec;cases todo with
 |nil=>cases h
 |cons i k=>
  cases i with
  |code c=>
   cases c with
   |region id j f=>cases f<;>first|(cases h;rfl)|cases h
   |exit id=>simp only at h⊢;rw[h];rfl
   |cond c a b=>
    simp only at h⊢;split at h
    ·rename_i q e;cases h;rw[e]
    ·cases h
   |_=>first|(cases h;rfl)|cases h
  |inRegion j todo=>cases todo<;>first|(cases h;rfl)|cases h
  |_=>first|(cases h;rfl)|cases h
theorem wh(o:j3 fr){t:List Item}(h:bZ fr=some t):bZ (bF ρ fr)=some (t.map (cV ρ)):=by
 have m:=λx j=>fc (ρ:=ρ) fr x j;have l:=o.todo;unfold bZ at h⊢;rw[show(bF ρ fr).todo=fr.todo.map (cV ρ)from rfl];cases n:fr.todo with
 |nil=>rw[n]at h;cases h
 |cons i k=>
  rw[n]at h l;simp only[kt,d7]at l;cases i with
  |code c=>
   cases c with
   |region id g f=>cases f<;>first|(cases h;rfl)|cases h
   |exit id=>
    simp only[rn,cV]at h⊢;rw[pn,h];rfl
   |cond x a b=>
    have j:lV (dt fr.fn) x=true:=by have:=l.1;simp only[kJ,jb,d7]at this;exact this.1.1
    simp only[rn,cV]at h⊢;rw[m x j];split at h
    ·rename_i q e;cases h;rw[e];simp[aE,cV]
    ·cases h
   |_=>first|(cases h;rfl)|cases h
  |inRegion g d=>cases d<;>first|(cases h;rfl)|cases h
  |_=>first|(cases h;rfl)|cases h
theorem xD{z:Nat}{k:List Item}(h:k.all (E4 z)=true):∀ops a,k= .inRegion ops [1]::a->dH 3 ops=false:=λops a e=>by subst e;simp[E4]at h
theorem zH(w:j3 fr){t:List Item}(h:bZ fr=some t):kt (dt fr.fn) t=true/\∀ops k,t= .inRegion ops [1]::k->dH 3 ops=false:=by
 have r:=w.todo;unfold bZ at h;cases u:fr.todo with
 |nil=>rw[u]at h;cases h
 |cons i k=>
  rw[u]at h r;simp only[kt,d7]at r;obtain⟨d,g⟩:=r;have f:kt (dt fr.fn) k=true/\∀ops p,k= .inRegion ops [1]::p->dH 3 ops=false:=⟨ya g,xD g⟩;have j:∀{c:Code} {l:List Item} (ops:Array Oper) (p:List Item),Item.code c::l= .inRegion ops [1]::p->dH 3 ops=false:=λ_ _ e=>by cases e
  cases i with
  |code c=>
   cases c with
   |region id ops o=>
    cases o with
    |false=>
     cases h;simp only[kJ,jb,Xd,Bool.true_and,No]at d;refine⟨?_,λs p e=> ?_⟩
     ·simp only[kt,d7];refine⟨?_,g⟩;rcases d with d|d
      ·simp only[kJ,d,Xf]
      ·have y:Ak ops.size=[0,1]:=by
        obtain⟨l⟩:=ops;unfold dH at d;split at d
        ·rename_i e;simp only at e;subst e;rfl
        ·cases d
       simp[kJ,d,y]
     ·simp only[List.cons.injEq,WM.injEq]at e;have:=e.1.2;cases v:ops.size with
      |zero=>rw[v]at this;cases this
      |succ n=>rw[v,List.range_succ_eq_map]at this;simp at this
    |true=>cases h
   |exit id=>have:=rq _ id k h g;exact⟨ya this,xD this⟩
   |cond x a b=>
    simp only at h;simp only[kJ,jb,d7]at d;split at h
    ·rename_i q e;cases h;cases q
     ·exact⟨by simp[kt,kJ,d.2,g],j⟩
     ·exact⟨by simp[kt,kJ,d.1.2,g],j⟩
    ·cases h
   |seq a b=>
    cases h;simp only[kJ,jb,d7]at d;exact⟨by simp[kt,E4,kJ,d.1,d.2,g],j⟩
   |block id b=>cases h;simp only[kJ,jb]at d;exact⟨by simp[kt,E4,kJ,d,g],j⟩
   |loop b=>cases h;simp only[kJ,jb]at d;exact⟨by simp[kt,E4,kJ,d,g],j⟩
   |scope b=>cases h;simp only[kJ,jb]at d;exact⟨by simp[kt,E4,kJ,d,g],j⟩
   |skip=>cases h;exact f
   |label l=>cases h;exact f
   |_=>cases h
  |inRegion ops m=>cases m<;>first|(cases h;exact f)|cases h
  |inLoop b=>cases h;simp only[kJ]at d;exact⟨by simp[kt,E4,kJ,d,g],j⟩
  |inBlock id=>cases h;exact f
  |inScope b=>cases h;exact f
  |_=>cases h
theorem zJ{fr':Frame}{cs':List Frame}(l:cR G T D ρ wL wM)(b:∀a,aR G D ρ a->fr'=bF a fr)(e:∀a,aR G D ρ a->cs'=cs.map (bF a)++base)(c:j3 fr)(d:kW fr.kind cs)
 {t:List Item} (h:bZ fr=some t) (j mM k lM:Bool):∃i g,stepG.exec PL j k fr cs none wL= .go i wL/\stepG.exec PM mM lM fr' cs' none wM= .go g wM/\ew G D ρ base i g:=by
 have f:bZ fr'=some (t.map (cV ρ)):=by rw[b ρ l.self];exact wh c h
 refine⟨_,_,jF h,jF f,BF b e c d (λa m=> ?_) (zH c h).1 (zH c h).2⟩;have n:bZ fr'=some (t.map (cV a)):=by rw[b a m];exact wh c h
 exact Option.some.inj (f.symm.trans n)
end
end
end Go.Proofs.YtkmoglhgkcnalabGreatDoor
