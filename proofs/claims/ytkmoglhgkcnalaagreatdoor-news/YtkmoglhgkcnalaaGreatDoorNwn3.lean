/- A part of what the last text of the claim imports: texts laid together, and made small, by a program. -/
import Derived.Test.YtkmoglhgkcnalaaGreatDoorProg
import Derived.KernelRfl
import Derived.Test.YtkmoglhgkcnalaaGreatDoorRows
import Derived.WalkKit
import Derived.WalkSpells
import Derived.WalkLawsBesides
import Derived.Deep.QuietTactic
import Derived.BigQuiet
import Derived.Deep.MidRow
import Derived.Deep.OwnRows
import Derived.Deep.RegionHeld3
import Derived.Great.BuildSlice
import Derived.Shelf.Strings.Builder1
import Derived.Shelf.Strings.Builder2
import Derived.Shelf.Strings.OnBuilder
import Derived.Shelf.Strings.BuilderF
import Derived.Shelf.Strings.BuilderK
import Derived.Shelf.LaysM
import Derived.Shelf.Strconv.Clone
import Derived.Shelf.Strings.Prefix
import Derived.Shelf.Bits.Mul64
import Derived.Shelf.Strings.Repeat
import Derived.Conc.WalkWords
import Derived.Laws.Slices
import Derived.Conc.EventLaws2
import Derived.RowKit
import Derived.Laws.Panics
import Derived.Conc.WgGenN3
import Derived.Conc.LeavingOf
import Derived.Laws.AppendOwn
import Derived.Test.YtkmoglhgkcnalaaGreatDoorNwn2
set_option linter.defProp false
set_option maxHeartbeats 16000000
set_option maxRecDepth 100000
set_option linter.all false
open Array renaming replicate->ar6,getElem?_setIfInBounds_self_of_lt->AI,getElem?_map->By,getElem?_eq_getElem->BY,getD_eq_getD_getElem?->JQ,all_eq_true'->V6,length_toList->au3,ext->aw_,ofFn->aw8,getElem?_mapIdx->ax2,getElem?_append_left->ay5,getElem?_eq_none->aI6
open BitVec renaming ofInt->au4
open Bool renaming false_eq_true->BZ
open ByteArray renaming size_extract->as6,size_append->ax3
open Eq renaming trans->aT3
open Go.Act renaming put->ZM
open Go.Addr renaming add_mid->AS,add->Y1
open Go.Builtin renaming len_->YQ
open Go.Conc.Lib renaming WgLib->aN2,WgLink->aU0
open Go.ConcR.Gen renaming body_add->aJ3,body_wait->aS2
open Go.Extern.AbiNoEscape renaming same->aB_
open Go.Extern.BytealgMakeNoZero renaming makeNoZero->Zx
open Go.Frame renaming enter->as7,finish_atR->Df,eval_atR->Mz,round->YU
open Go.GStep renaming after->as0
open Go.Goroutine renaming callers->aG8
open Go.Instr renaming loadAt->as_,enterLoop->Hb,sliceAt->Mv,sliceBounds->Ng,sliceBound->Tv,fieldAt->V9,sureAddr->VJ,slice->YT,makeSlice->ZB,storeAt->au5,index->ay0,alloc->aA7,field->aC7
open Go.IntKind renaming wrap_i64->as3,i64->DN,u32->JV,wrap_u32->JZ,u64->Tu,wrap_u64->XZ
open Go.Item renaming code->ax1
open Go.Lib renaming repeatL->aK0
open Go.Next renaming value->aI2
open Go.Obj renaming cells->aE7
open Go.Operand renaming tmp->at6
open Go.Region renaming wanted->ar3,schedule->ZE
open Go.Result renaming andThen_ok->Zu,ok->aH7
open Go.RowKit.Below renaming refl->aA1,drew->aM_
open Go.Sem renaming runT_eq->IE,run->J2,run_bind->Rk,runT_fst->Y3
open Go.Shelf renaming Ren->aN6
open Go.Trace renaming act?->aQ4
open Go.Value renaming agg->aO2
open Go.World renaming cell?->AT,frozen?->If,setCell->JX,rangeAt_setCells_same->Kq,rangeAt_setCells_apart->QN,there_setCells->Y2,drew->YP,rangeAt_alloc->Zr,cell?_alloc_at->at5,cell?_alloc_past->aI5
open Go.YieldsIf renaming wpOp->aH5
open Int renaming eq_ofNat_of_zero_le->Ld,toNat_of_nonneg->YO,toNat_natCast->Zt,natCast_pow->aD5,not_lt->aQ5,pow_mul->aT2
open List renaming range->ar7,replicate->ar9,getElem?_append_right->as1,getD_eq_getElem?_getD->as2,getElem?_eq_some_iff->as4,getElem?_append_left->as9,getElem?_eq_getElem->EN,size_toArray->JR,take_of_length_le->No,not_mem_nil->PI,map_append->Q4,mem_cons->V4,getElem?_toArray->Va,take_succ_eq_append_getElem->WJ,set_append_right->WT,getElem?_map->YR,getElem?_replicate->ZK,append_assoc->ZQ,setIfInBounds_toArray->ZR,lookup->ZU,getElem?_eq_none->ZX,replicate_succ->au2,range_succ->av2,append_nil->ax_,ext_getElem->az_,flatMap_append->az1,take_length->aC3,getElem?_range->aE2,map_set->aE6,map_replicate->aG_
open Nat renaming lt_of_lt_of_le->ar4,le_refl->ar5,zero_add->as5,le_trans->as8,pow_le_pow_right->Q5,not_lt_zero->aD4,le_of_lt->aE5,mul_le_mul->aG3,mul_one->aK1,add_zero->aS1,sub_self->aS3
open Ne renaming symm->ZL
open Option renaming map_some->ar8,getD_some->IN,bind_some->IS
open UInt8 renaming ofNat->ZJ
namespace Go.Proofs.YtkmoglhgkcnalaaGreatDoor
open Go Proofs.Tryz
variable{n b i N l m k j b3 b4 b7 b9 Wg wd:Nat}{w w' w0 wL wM wE:World}{fr:Frame}{v:Value}{cs:List Frame}{args cv:Array Value}{V RO D V0:Nat->Prop}{q main listen ql:Bool}{g:Goroutine}{a:Act}{K:List Item}{P PL PM:Program}{x:Operand}{ops:Array Oper}{KS:List Int}{t u:TypeId}{o:Oper}{f:FuncId}{es:Array Event}{Goal:Goroutine->World->Prop}{fn:Func}{rest:List Nat}{ds:List Deferred}{X:bX}{F:List (Nat×Value)}{e:Event}{listed:Array Bool}{c:Int}{s msg key sig:ByteArray}{ρ:Nat->Nat}{ev:Operand->Value}{Post:Value->World->Prop}
section
open Go
def fU(d:Option Tmp)(p:Op):Oper:={dst:=d,op:=p,type:=0,pos:= "",after:=#[],guard:=none}
def ij(x:Nat):Op:= .call {callee:= .builtin .len,args:=#[.tmp x],argTypes:=#[9]}
def iB(x:Nat)(n:Int):Op:= .binOp .lss 3 (.tmp x) (.const (.int .i64 n)) 3
def skA:Array Oper:=#[fU (some 6) (.field 119 (.tmp 0) 4),fU (some 2) (.box 119 (.tmp 0)),fU (some 3) (.load 119 (.tmp 2)),fU (some 5) (.field 119 (.tmp 3) 0),
 fU (some 6) (.field 115 (.tmp 5) 0),fU (some 7) (ij 6),fU (some 6) (.field 115 (.tmp 5) 1),fU (some 7) (ij 6),fU (some 8) (.field 115 (.tmp 5) 2),fU (some 9) (ij 8),fU (some 6) (.field 115 (.tmp 5) 3),fU (some 7) (ij 6),
 fU (some 6) (.field 115 (.tmp 5) 4),fU (some 7) (iB 6 0),fU (some 11) (.field 115 (.tmp 5) 5),fU (some 16) (iB 11 0),fU (some 10) (.field 115 (.tmp 5) 6),fU (some 15) (iB 10 65537),fU (some 6) (.field 115 (.tmp 5) 7),fU (some 7) (iB 6 0),
 fU (some 12) (.field 119 (.tmp 3) 1),fU (some 18) (iB 12 0),fU (some 6) (.field 119 (.tmp 3) 2),fU (some 7) (ij 6),fU (some 13) (.field 119 (.tmp 3) 3),fU (some 7) (ij 13),fU (some 6) (.field 119 (.tmp 3) 4),fU (some 7) (ij 6),
 fU (some 14) (iB 10 1),fU (some 17) (iB 11 9),fU (some 19) (iB 12 4294967296),fU (some 20) (iB 9 65536)]
def Jv(x y:Nat):Op:= .binOp .lss 3 (.tmp x) (.tmp y) 3
def Xv:Array Oper:=#[fU (some 21) (.binOp .mul 3 (.tmp 10) (.const (.int .i64 32)) 3),fU (some 7) (ij 13),fU (some 22) (Jv 7 21),fU (some 26) (.call {callee:= .builtin .len,args:=#[.tmp 1],argTypes:=#[24]}),fU (some 27) (Jv 26 10),fU (some 28) (.binOp .eql 24 (.tmp 1) (.const (.slice none 0 0)) 24)]
def Xx:Array Oper:=#[fU (some 23) (.makeSlice 43 (.tmp 10) (.tmp 10)),fU (some 24) (.move (.const (.int .i64 0)))]
def skC:Array Oper:=#[fU (some 25) (.binOp .lss 3 (.tmp 24) (.tmp 10) 3)]
def skD:Array Oper:=#[fU (some 26) (.indexAddr 24 (.tmp 1) (.tmp 24)),fU (some 27) (.load 3 (.tmp 26)),fU (some 28) (iB 27 0),fU (some 29) (iB 27 256)]
def skE:Array Oper:=#[fU (some 30) (.binOp .mul 3 (.tmp 24) (.const (.int .i64 32)) 3),fU (some 31) (.binOp .add 3 (.tmp 24) (.const (.int .i64 1)) 3),fU (some 32) (.binOp .mul 3 (.tmp 31) (.const (.int .i64 32)) 3),
 fU (some 33) (.slice 9 (.tmp 13) (some (.tmp 30)) (some (.tmp 32)) none),fU (some 34) (.call {callee:= .value (.func 120),args:=#[.tmp 3, .tmp 24, .tmp 27, .tmp 33],argTypes:=#[119,3,3,9]}),
 fU (some 35) (.indexAddr 43 (.tmp 23) (.tmp 24)),fU none (.store 9 (.tmp 35) (.tmp 34)),fU (some 24) (.move (.tmp 31))]
def Xw:Array Oper:=#[fU (some 4) (.move (.tmp 23))]
def qW:Code:= .seq (.seq (.region 2 skC false) (.cond (.tmp 25) .skip (.exit 0))) (.seq (.region 3 skD false) (.seq (.cond (.tmp 28) (.refuse "") .skip) (.seq (.cond (.tmp 29) .skip (.refuse "")) (.region 4 skE false))))
def oV:Code:= .seq (.region 0 skA false) (.seq (.cond (.tmp 14) (.refuse "") .skip) (.seq (.cond (.tmp 15) .skip (.refuse "")) (.seq (.cond (.tmp 16) (.refuse "") .skip) (.seq (.cond (.tmp 17) .skip (.refuse "")) (.seq (.cond (.tmp 18) (.refuse "") .skip) (.seq (.cond (.tmp 19) .skip (.refuse "")) (.seq (.cond (.tmp 20) .skip (.refuse ""))
 (.seq (.region 6 Xv false) (.seq (.cond (.tmp 22) (.refuse "") .skip) (.seq (.cond (.tmp 27) (.refuse "") .skip) (.seq (.cond (.tmp 28) (.refuse "") .skip) (.seq (.region 1 Xx false) (.seq (.block 0 (.loop qW)) (.seq (.region 5 Xw false) .ret))))))))))))))
def wl:Func:={name:= "left",origin:= "",params:=#[119,24],resultTypes:=#[43],nfree:=0,ntmps:=36,results:=#[.tmp 4],body:=some oV,norace:=false,file:= "",endLine:=0,tmpNames:=#[]}
def yc(i:FuncId):Bool:=i==167||i==168
def aI(q:Bool)(P:Program):Program:=i5 P (if q then 94 else 91) (if q then wl else(P.funcs[91]?).getD wl) yc
def qc(f):(aI q P).funcs[f]?=(P.funcs[f]?).map (sI (if q then 94 else 91) (if q then wl else(P.funcs[91]?).getD wl) yc f):=sH f
def NT:(prog.types.all λi=>(i.zero.map bW).getD true)=true:=k_
def LP:(prog.funcs.all λf=>f.name != "runtime.NumGoroutine")=true:=k_
def Tn(i)(fn)(c:yc i=true)(b:prog.funcs[i]?=some fn):fn.body=none/\Extern.findNext fn=none/\∃e,Extern.find fn=some e/\∀a PL PM,bO PL PM->∀args,aG a PL PM (aE a) (e args) (e (args.map (aE a))):=by
 have f:i=167\/i=168:=by simpa[yc]using c
 obtain rfl|rfl:=f
 .rw[func167]at b;cases b;exact⟨rfl,k_,aB_,k_,λa PL PM _ args=>Dt args⟩
 .rw[func168]at b;cases b;exact⟨rfl,k_,Zx f168.params f168.resultTypes,k_,λa PL PM d args=>yp d _ _ args⟩
def Wi:(decide (AP=jO)||(Tryz.f5).results.all (NR 2))=true:=k_
def Hp{K}{a}{c}(k:prog.funcs[K]?=some fn)(p:fn.body.isSome=true)(e:a.results=fn.results)(o:a.body=some c)(g:jS 0 c=true)(j:a.name≠ "runtime.NumGoroutine")(q:dY K=0)(n:gI≠K):vB prog K a yc 2 where
 zero:=λi l z d=>by have:=V6.1 NT i l;simp_all
 glob:=k_
 tab:=d_
 names:=λf m=>by simpa using V6.1 LP f m
 ty:=⟨.int .u32,k_,s_,s_⟩
 ex:=of_decide_eq_true k_
 lw:=of_decide_eq_true k_
 lwr:=λb fn h=>by rw[show AP=5 from rfl,func5]at h;cases h;have:=Wi;simp_all
 exr:=λfn h=>by rw[show jO=131 from rfl,func131]at h;cases h;kernel_rfl
 kex:=q
 d1:=⟨n,d_,f125,(f125.body).getD .skip,func125,rfl,k_⟩
 z3:=of_decide_eq_true k_
 kfn:=⟨fn,k,p,e⟩
 kbody:=⟨c,o,g⟩
 kname:=j
 ext:=Tn
def Hq:vB prog 94 wl yc 2:=Hp func94 rfl rfl rfl k_ d_ d_ d_
def Hs:∃c,vB prog 91 f91 yc 2/\f91.body=some c:=
 ⟨_,Hp func91 rfl rfl rfl k_ d_ d_ d_,rfl⟩
def Pz:aI true prog=i5 prog 94 wl yc:=rfl
def PC:aI false prog=i5 prog 91 f91 yc:=by unfold aI;simp_all
def yg:mu (aI true prog) prog 2:=Pz▸CY Hq
def XO:mu (aI false prog) prog 2:=by rw[PC];have⟨c,h,_⟩:=Hs;exact CY h
def uv:mu (aI true prog) (aI true prog) 2:=Pz▸CX Hq
def VT:mu (aI false prog) (aI false prog) 2:=by rw[PC];have⟨c,h,_⟩:=Hs;exact CX h
def aM{c}(a:prog.funcs[f]?=some fn)(h:f≠94)(b:yc f=false)(e:fn.body=some c)(d:vq f c=true):(aI q prog).funcs[f]?=some fn:=by
 rw[qc,a];cases q with
 |true=>
  simp[ar8,sI,↓reduceIte,if_neg h,b,BZ,e,d]
 |false=>
  by_cases g:f=91
  .subst g;rw[func91]at a;cases a;simp[ar8,sI,BZ,↓reduceIte,func91,IN]
  .simp[ar8,sI,BZ,↓reduceIte,if_neg g,b,e,d]
def uQ:(aI true prog).funcs[94]?=some wl:=by rw[qc,func94];simp[sI]
abbrev lT(P:Program:=prog):Program:=aI true P
abbrev tP(P:Program:=prog):Program:=P
abbrev eX(e:Operand->Value)(o:Oper)(w:World)(v:Value):Prop:=(execOp e o).run lT w= .ok (.value v) w
abbrev l_R(q:Bool)(n:Nat)(f:Func):Prop:=(aI q prog).funcs[n]?=some f
def l_F{q:Bool}{n:Nat}{f:Func}{c:Code}(h:prog.funcs[n]?=some f)(a:n≠94:=by decide)(b:yc n=false:=by rfl)(d:f.body=some c:=by rfl)(e:vq n c=true:=by kernel_rfl):l_R q n f:=aM h a b d e
@[simp] theorem Md(t:TypeId):(aI q P).info? t=P.info? t:=gf P _ t
@[simp] theorem bQ(t:TypeId):(aI q P).underlying t=P.underlying t:=dF P _ t
@[simp] theorem Vp:(aI q P).depth=P.depth:=ef P _
@[simp] theorem Vo(d:Nat)(t:TypeId):(aI q P).eqGuardType d t=P.eqGuardType d t:=qX P _ d t
@[simp] theorem Vl(t:TypeId):(aI q P).stoodInHeld t=P.stoodInHeld t:=kK P _ t
@[simp] theorem sJ(t:TypeId):(typeInfo t).run (aI q P) w=(typeInfo t).run P w:=by simp only[typeInfo,Rk,run_program,Zu,Md];cases P.info? t<;>simp
@[simp] theorem T5(t:TypeId):(sizeOf t).run (aI q P) w=(sizeOf t).run P w:=by simp only[sizeOf,Rk,sJ];cases (typeInfo t).run P w<;>simp
@[simp] theorem AG(t:TypeId):(underlying t).run (aI q P) w=(underlying t).run P w:=by simp only[underlying,Rk,run_program,Zu,bQ];cases P.underlying t<;>simp
@[simp] theorem Vm(t:TypeId):(isAgg t).run (aI q P) w=(isAgg t).run P w:=by
 simp only[isAgg,Rk,AG];cases (underlying t).run P w with
 |ok d a=>cases d<;>simp
 |halt x a=>simp
@[simp] theorem Wu(t:TypeId):(zeroValue t).run (aI q P) w=(zeroValue t).run P w:=by
 simp only[zeroValue,Rk,sJ];cases (typeInfo t).run P w with
 |ok i a=>simp only[Zu];cases i.zero<;>simp
 |halt x a=>simp
def dM(c:P.funcs[f]?=some fn)(b:(fn.name== "runtime.NumGoroutine")=false)(a:fn.body.isNone=false)(args)(w):(callFunc f args).run P w= .ok (.enter f args) w:=by
 have g:¬fn.name= "runtime.NumGoroutine" :=by simpa using b
 have d:¬fn.body=none:=λe=>by simp_all
 simp[callFunc,c,g,d]
@[simp] theorem lf111:l_R q 111 f111:=l_F func111
@[simp] theorem lc111(args:Array Value)(w:World):(callFunc 111 args).run (aI q tP) w= .ok (.enter 111 args) w:=dM lf111 k_ rfl args w
@[simp] theorem lf112:l_R q 112 f112:=l_F func112
@[simp] theorem lc112(args:Array Value)(w:World):(callFunc 112 args).run (aI q tP) w= .ok (.enter 112 args) w:=dM lf112 k_ rfl args w
@[simp] theorem lf110:l_R q 110 f110:=l_F func110
@[simp] theorem lc110(args:Array Value)(w:World):(callFunc 110 args).run (aI q tP) w= .ok (.enter 110 args) w:=dM lf110 k_ rfl args w
@[simp] theorem lf91:l_R q 91 f91:=l_F func91
@[simp] theorem lf131:l_R q 131 f131:=l_F func131
@[simp] theorem lc131(args:Array Value)(w:World):(callFunc 131 args).run (aI q tP) w= .ok (.enter 131 args) w:=dM lf131 k_ rfl args w
@[simp] theorem lf162:l_R q 162 f162:=l_F func162
@[simp] theorem lc162(args:Array Value)(w:World):(callFunc 162 args).run (aI q tP) w= .ok (.enter 162 args) w:=dM lf162 k_ rfl args w
@[simp] theorem lf183:l_R q 183 f183:=l_F func183
@[simp] theorem lc183(args:Array Value)(w:World):(callFunc 183 args).run (aI q tP) w= .ok (.enter 183 args) w:=dM lf183 k_ rfl args w
@[simp] theorem lf163:l_R q 163 f163:=l_F func163
@[simp] theorem lc163(args:Array Value)(w:World):(callFunc 163 args).run (aI q tP) w= .ok (.enter 163 args) w:=dM lf163 k_ rfl args w
@[simp] theorem lf88:l_R q 88 f88:=l_F func88
@[simp] theorem lc88(args:Array Value)(w:World):(callFunc 88 args).run (aI q tP) w= .ok (.enter 88 args) w:=dM lf88 k_ rfl args w
@[simp] theorem lf132:l_R q 132 f132:=l_F func132
@[simp] theorem lc132(args:Array Value)(w:World):(callFunc 132 args).run (aI q tP) w= .ok (.enter 132 args) w:=dM lf132 k_ rfl args w
@[simp] theorem lf106:l_R q 106 f106:=l_F func106
@[simp] theorem lc106(args:Array Value)(w:World):(callFunc 106 args).run (aI q tP) w= .ok (.enter 106 args) w:=dM lf106 k_ rfl args w
@[simp] theorem lf184:l_R q 184 f184:=l_F func184
@[simp] theorem lc184(args:Array Value)(w:World):(callFunc 184 args).run (aI q tP) w= .ok (.enter 184 args) w:=dM lf184 k_ rfl args w
@[simp] theorem lf89:l_R q 89 f89:=l_F func89
@[simp] theorem lf92:l_R q 92 f92:=l_F func92
@[simp] theorem lf151:l_R q 151 f151:=l_F func151
@[simp] theorem lf150:l_R q 150 f150:=l_F func150
@[simp] theorem lf173:l_R q 173 f173:=l_F func173
@[simp] theorem lf108:l_R q 108 f108:=l_F func108
@[simp] theorem lf120:l_R q 120 f120:=l_F func120
def lu214:type_of%((bQ (q:=q) (P:=tP) 214).trans underlying214):=s_
def lu164:type_of%((bQ (q:=q) (P:=tP) 164).trans underlying164):=s_
def lu163:type_of%((bQ (q:=q) (P:=tP) 163).trans underlying163):=s_
def lu83:type_of%((bQ (q:=q) (P:=tP) 83).trans underlying83):=s_
def lu166:type_of%((bQ (q:=q) (P:=tP) 166).trans underlying166):=s_
def lu9:type_of%((bQ (q:=q) (P:=tP) 9).trans underlying9):=s_
def lu5:type_of%((bQ (q:=q) (P:=tP) 5).trans underlying5):=s_
end
section
open Go.RowKit
def IG(s:ByteArray)(k)(h:k<s.size):s.data.toList.take (k+1)=s.data.toList.take k++[s[k]]:=by rw[WJ (by simpa using h)];rfl
def BW(B):aQ (di B 0)=ar9 64 (.int .u32 0):=by simp[di,cj,aQ]
def Nz(w)(B)(c)(d:c.size=64):((w.alloc (.cells (aX B).toArray 164)).alloc (.cells c 214)).heap.size=w.heap.size+1+1/\
 ((w.alloc (.cells (aX B).toArray 164)).alloc (.cells c 214)).rangeAt w.heap.size 0 (aX B)/\
 ((w.alloc (.cells (aX B).toArray 164)).alloc (.cells c 214)).there (w.heap.size+1) 0 64/\
 Bw w ((w.alloc (.cells (aX B).toArray 164)).alloc (.cells c 214)):=by
 refine⟨s_,Zr (λj v a=> ?_) _,λj b=>⟨?_, ?_⟩,((aA1 _ _).alloc o_ _).alloc s_ _⟩
 .simp_all
 .simp_all
 .simp_all
def tZ{M a:World}{L:List Value}(d:M=(a.alloc (.cells L.toArray 214)).drewN n)(c:a.heap.size=b)(h:L[j]?=some v):M.cell? ⟨b,j,none⟩=some v:=by subst d;simp;rw[at5 _ _ _ _ c.symm];simpa using h
def NE{M a:World}{L:List Value}(d:M=(a.alloc (.cells L.toArray 214)).drewN n)(c:a.heap.size=b)(j):M.frozen? ⟨b,j,none⟩=false:=by subst d;simp;rw[World.frozen?_alloc_at _ _ _ _ c.symm]
def WW{M c:World}{L:List Value}(e:M=(c.alloc (.cells L.toArray 214)).drewN n)(d:c.heap.size=b)(a j)(v):(M.drewN a).setCell ⟨b,j,none⟩ v=(c.alloc (.cells (L.set j v).toArray 214)).drewN (n+a):=by subst e;rw[World.drewN_drewN];show((c.alloc (.cells L.toArray 214)).setCell ⟨b,j,none⟩ v).drewN (n+a)=_;rw[World.setCell_alloc_at _ _ _ _ _ d.symm];simp
def ld(ty:TypeId)(b o:Nat):Sem Value:=as_ ty (.pk b o)
def st(ty:TypeId)(b o:Nat)(v:Value):Sem Unit:=au5 ty (.pk b o) v
def dS{Q}{K}(j:ops[i]?=some o)(k:o.guard=none)(ty)(x y)(g:o.op= .store ty x y)
 (b p) (cells) (d:a.eval x= .pk b p) (c:a.eval y= .agg cells) (e:w.there b p cells.size) (f:(P.info? ty).map (·.size)=some cells.size) (m:cells.all (·.oneCell')=true) (l:o.dst=none)
 (h:K a (w.setCells b p cells.toList)):wpOp P ops Q i K a w:=
 cK j k (wp_store_mid ty x y g b p cells d c e f m (l▸h))
def qS:Value->Nat
 | .string t=>t.size
 |_=>0
def t8(rest:List UInt8)(n):(ByteArray.mk rest.toArray).extract n rest.length=⟨(rest.drop n).toArray⟩:=by apply ByteArray.ext;simp;exact No s_
def li(H:List Int)(blk:List UInt8)(n:Nat):List Value:=aQ H++(aX blk++[.int .u64 (n:Int)])
def mR:List Value:=li H0 (ar9 64 0) 0
def gD:mR.length=73:=by simp[mR,li,bG,d9,H0]
def D6(H)(b)(n):∀v∈li H b n,v.oneCell'=true:=by
 intro v a;simp[li,List.mem_append,List.mem_singleton]at a;obtain a|a|rfl:=a
 .exact ji _ v a
 .exact xx _ v a
 .rfl
end
end Go.Proofs.YtkmoglhgkcnalaaGreatDoor
namespace Go.Proofs
open Go.Shelf Proofs.Tryz
def laysM316_ren : aN6 := ⟨fun | 316 => 123 | n => n, fun | 9 => 9 | 3 => 3 | 4 => 4 | 37 => 83 | 0 => 0 | 127 => 195 | 5 => 5 | n => n, fun | n => n⟩
def lays105_ren : aN6 := ⟨fun | 105 => 133 | 212 => 164 | 99 => 165 | 165 => 113 | 166 => 114 | 170 => 166 | 169 => 115 | 263 => 185 | 264 => 186 | 206 => 187 | 240 => 134 | 241 => 135 | 276 => 167 | 277 => 168 | n => n, fun | 9 => 9 | 3 => 3 | 4 => 4 | 20 => 20 | 0 => 0 | 46 => 112 | 109 => 217 | 5 => 5 | 72 => 171 | 76 => 175 | 51 => 162 | 146 => 236 | 53 => 132 | 148 => 238 | 70 => 169 | 37 => 83 | 75 => 174 | 127 => 195 | 164 => 198 | 80 => 33 | n => n, fun | n => n⟩
end Go.Proofs
namespace Go.Proofs.YtkmoglhgkcnalaaGreatDoor
open Go Proofs.Tryz
variable{n b i N l m k j b3 b4 b7 b9 Wg wd:Nat}{w w' w0 wL wM wE:World}{fr:Frame}{v:Value}{cs:List Frame}{args cv:Array Value}{V RO D V0:Nat->Prop}{q main listen ql:Bool}{g:Goroutine}{a:Act}{K:List Item}{P PL PM:Program}{x:Operand}{ops:Array Oper}{KS:List Int}{t u:TypeId}{o:Oper}{f:FuncId}{es:Array Event}{Goal:Goroutine->World->Prop}{fn:Func}{rest:List Nat}{ds:List Deferred}{X:bX}{F:List (Nat×Value)}{e:Event}{listed:Array Bool}{c:Int}{s msg key sig:ByteArray}{ρ:Nat->Nat}{ev:Operand->Value}{Post:Value->World->Prop}
section
open Go.RowKit
def iY(L:List UInt8):List UInt8:=[128]++aK0 [0] ((119- L.length%64)%64)++dm (8*L.length) 8
def ra(H:List Int)(i:Nat):UInt8:=ZJ (H.getD (i/4) 0/2^(24- 8*(i%4))).toNat
def iu(KS:List Int)(L:List UInt8):List UInt8:=(ar7 32).map (ra (cM KS (L++iY L) ((L++iY L).length/64)))
def d8(H:List Int)(k:Nat):List Value:=aX ((ar7 k).map (ra H))++ar9 (32- k) (.int .u8 0)
def uF(H)(k)(h:k<=32):(d8 H k).length=32:=by simp[d8,aX];omega
def Cj(H)(k)(h:k<32):(d8 H k)[k]?=some (.int .u8 0):=by rw[d8,as1 (by simp[aX]),ZK,if_pos (by simp[aX];omega)]
def Ci(H)(k)(h:k<32)(v)(hv:v=((ra H k).toNat:Int)):(d8 H k).set k (.int .u8 v)=d8 H (k+1):=by subst hv;rw[d8,d8,show 32- k=(32-(k+1))+1 from o_,au2,av2,Q4,aX,aX,Q4,WT _ _ s_];simp
def Ck(H):d8 H 32=aX ((ar7 32).map (ra H)):=by simp[d8]
def qG(KS)(L)(n i):0<=(cM KS L n).getD i 0:=by
 cases n with
 |zero=>
  by_cases h:i<8
  .have:i=0\/i=1\/i=2\/i=3\/i=4\/i=5\/i=6\/i=7:=o_;rcases this with rfl|rfl|rfl|rfl|rfl|rfl|rfl|rfl<;>(rw[cM];decide)
  .rw[as2,ZX (by rw[dA];omega)];simp_all
 |succ n=>
  rw[cM,od,fA];by_cases h:i<8
  .rw[as2,YR,aE2 h];simp[ar8,IN,h,if_true];exact wrap_u32_nonneg _
  simp_all
def Cg(H)(k)(x)(a:H.getD (k/4) 0=x)(b:0<=x):x/2^(24- 8*(k%4))%256=((ra H k).toNat:Int):=by
 rw[ra,a];obtain⟨m,rfl⟩:=Ld b;have e:((m:Int)/2^(24- 8*(k%4)))=((m/2^(24- 8*(k%4)):Nat):Int):=by simp_all
 rw[e,Zt];simp
def fT.made(w:World)(KS)(L a)(n)(T)(d:a.length=64)(f:a.take (L.length%64)=L.drop (64*(L.length/64))):
 fT (w.alloc (.cells (li (cM KS L (L.length/64)) a n).toArray T)) w.heap.size KS L a n:=by
 have e:=dG w (li (cM KS L (L.length/64)) a n) T w.heap.size rfl;have c:=dA KS L (L.length/64);refine⟨d,λj v b=>e j v ?_,λj v b=> ?_, ?_,f,dB _ _ _ _ _ rfl (by simp[li,bG,d9,c,d])⟩
 .rw[li,as9 (as4.1 b).1];exact b
 .have:=e (8+j) v (by rw[li,as1 (by rw[bG,c];omega),bG,c,show 8+j- 8=j from o_,as9 ((as4.1 b).1)];exact b)
  simp_all
 .have:=e 72 (.int .u64 (n:Int)) (by rw[li,as1 (by rw[bG,c];omega),bG,c,as1 (by rw[d9,d];omega),d9,d];rfl)
  omega
def fT.below{L a}(h:fT w b KS L a n)(c:Below N w w')(d:b<N):fT w' b KS L a n:=
 ⟨h.len,bN c d h.words,bN c d h.block,by rw[c.cell d];exact h.length,h.tail,fF c d h.there⟩
def pE{c a}(h:Bw w c)(g:c.grownBy a (some b))(f:w.heap.size<=b):Bw w a:=
 h.trans ⟨g.os,g.tape,g.output,g.size,λk d=>g.block k (by have:=h.size;omega) (by grind)⟩
def fT.whole{L c}(h:fT w b KS L c n):w.rangeAt b 0 (li (cM KS L (L.length/64)) c n):=λj v a=>by
 have e:=dA KS L (L.length/64);rw[li]at a;by_cases f:j<8
 .rw[as9 (by rw[bG,e];exact f)]at a;exact h.words j v a
 .rw[as1 (by rw[bG,e];omega),bG,e]at a;by_cases i:j<72
  .rw[as9 (by rw[d9,h.len];omega)]at a;have:=h.block (j- 8) v a;simp_all
  .rw[as1 (by rw[d9,h.len];omega),d9,h.len]at a;have g:j- 8- 64<1:=(by grind);have d:j=72:=o_;subst d;simp at a;exact a▸h.length
def D7(KS)(L a)(n m)(b:a.length=64):(li (cM KS L m) a n).length=73:=by simp[li,bG,d9,dA,b]
def fT.of_range{L a}(f:w.rangeAt b 0 (li (cM KS L (L.length/64)) a n))(e:w.there b 0 73)(g:a.length=64)(h:a.take (L.length%64)=L.drop (64*(L.length/64))):fT w b KS L a n:=by
 have d:=dA KS L (L.length/64);refine⟨g,λj v c=>f j v ?_,λj v c=> ?_, ?_,h,e⟩
 .rw[li,as9 (as4.1 c).1];exact c
 .have:=f (8+j) v (by rw[li,as1 (by rw[bG,d];omega),bG,d,show 8+j- 8=j from o_,as9 ((as4.1 c).1)];exact c)
  simp_all
 .have:=f 72 (.int .u64 (n:Int)) (by rw[li,as1 (by rw[bG,d];omega),bG,d,as1 (by rw[d9,g];omega),d9,g];rfl)
  omega
def fT.new(w:World)(KS:List Int)(c:Array Value)(T:TypeId)(b:c.size=73):fT ((w.alloc (.cells c T)).setCells w.heap.size 0 mR) w.heap.size KS [] (ar9 64 0) 0:=by have a:=dB w c T w.heap.size 73 rfl b;exact fT.of_range (Kq _ _ _ _ (by exact gD▸a)) (Y2 a _ _ _) s_ s_
def fh(ps:List ByteArray)(k:Nat):List UInt8:=(ps.take k).flatMap λp=>p.data.toList
def Kk(a)(k)(h:k<a.length):fh a (k+1)=fh a k++(a[k]).data.toList:=by rw[fh,fh,WJ h,az1,List.flatMap_singleton]
def Qn(a)(k):(fh a k).length<=(fh a a.length).length:=by
 by_cases h:k<=a.length
 .rw[fh,fh,aC3];have e:a.flatMap (λp=>p.data.toList)=(a.take k).flatMap (λp=>p.data.toList)++(a.drop k).flatMap (λp=>p.data.toList):=by rw[←az1,List.take_append_drop]
  simp_all
 .rw[fh,fh,No o_,aC3];omega
end
end Go.Proofs.YtkmoglhgkcnalaaGreatDoor
namespace Go.Proofs.YtkmoglhgkcnalaaGreatDoor
open Go.RowKit Proofs.Tryz
def dQ.key(s:dQ):Array Value:=#[.string s.tree, .string s.chains, .string s.id, .string s.root, .int .i64 s.height, .int .i64 s.width, .int .i64 s.count, .int .i64 s.shift]
def dH(n:Nat):Nat:=2^n- 1
end Go.Proofs.YtkmoglhgkcnalaaGreatDoor
namespace Go.Proofs.YtkmoglhgkcnalaaGreatDoor
open Go Proofs.Tryz
variable{n b i N l m k j b3 b4 b7 b9 Wg wd:Nat}{w w' w0 wL wM wE:World}{fr:Frame}{v:Value}{cs:List Frame}{args cv:Array Value}{V RO D V0:Nat->Prop}{q main listen ql:Bool}{g:Goroutine}{a:Act}{K:List Item}{P PL PM:Program}{x:Operand}{ops:Array Oper}{KS:List Int}{t u:TypeId}{o:Oper}{f:FuncId}{es:Array Event}{Goal:Goroutine->World->Prop}{fn:Func}{rest:List Nat}{ds:List Deferred}{X:bX}{F:List (Nat×Value)}{e:Event}{listed:Array Bool}{c:Int}{s msg key sig:ByteArray}{ρ:Nat->Nat}{ev:Operand->Value}{Post:Value->World->Prop}
section
open Go.Conc Go.RowKit
def lH(KS:List Int)(pre:List UInt8)(j:Nat)(x:List UInt8):List UInt8:=iu KS (pre++dm j 1++x)
def jR(KS:List Int)(pre:List UInt8):Nat->Nat->List UInt8->List UInt8
 |0,_,x=>x
 |n+1,j,x=>jR KS pre n (j+1) (lH KS pre j x)
def kU(s:dQ)(i:Nat):List UInt8:=s.id.data.toList++dm s.q.toNat 4++dm i 2
def lA(KS:List Int)(s:dQ)(i:Nat)(d:Int)(link:ByteArray):ByteArray:=⟨(jR KS (kU s i) (dH s.width.toNat- d.toNat) d.toNat link.data.toList).toArray⟩
def rP(KS)(a)(j)(x):(lH KS a j x).length=32:=by simp[lH,iu]
structure Ga (s:dQ) (i:Nat) (d:Int) (link:ByteArray):Prop where
 width:0<=s.width/\s.width<9
 q:0<=s.q/\s.q<4294967296
 id:s.id.size<65536
 i:i<65536
 d:0<=d/\d<256
 link:link.size=32
def Dk(s:dQ)(i:Nat):ByteArray:=s.id++⟨(dm s.q.toNat 4).toArray⟩++⟨(dm i 2).toArray⟩
def mQ(n k):(ByteArray.mk (dm n k).toArray).size=k:=by show(dm n k).toArray.size=k;simp[cO]
def Nb(s)(i):(Dk s i).data.toList=kU s i:=by simp[Dk,kU]
structure Ch (s:dQ) (i b7 b9 k2 l ld:Nat) (r:LoopState->Loop) (ty tk:TypeId) (w0:World) (st:LoopState) (x:List UInt8) (w:World):Prop where
 old:Bw w0 w
 seven:w.heap[b7]?=some (.cells #[.string ⟨x.toArray⟩] ty)
 nine:w.heap[b9]?=some (.cells #[.string (Dk s i)] ty)
 key:w.heap[k2]?=some (.cells s.key tk)
 loop:w.heap[l]?=some (.loop (r st))
 list:w.heap[ld]?=some (.deferred (some []))
structure zY (b7 b9 k2 l ld:Nat) (w0:World):Prop where
 low:w0.heap.size<=b7/\w0.heap.size<=l/\w0.heap.size<=ld
 seven:b7≠b9/\b7≠k2/\b7≠l/\b7≠ld
 loop:l≠b9/\l≠k2/\l≠ld
section
variable{s:dQ}{k2 ld:Nat}{r:LoopState->Loop}{ty tk:TypeId}{st:LoopState}{x:List UInt8}
def Ch.below(h:Ch s i b7 b9 k2 l ld r ty tk w0 st x w)(c:Bw w w'):Ch s i b7 b9 k2 l ld r ty tk w0 st x w':=by have g:∀{b:Nat} {o:Obj},w.heap[b]?=some o->w'.heap[b]?=some o:=λ{b o} a=>(c.block b (gA a).1).trans a;exact⟨aD h.old h.old.size c,g h.seven,g h.nine,g h.key,g h.loop,g h.list⟩
def Ch.turn(h:Ch s i b7 b9 k2 l ld r ty tk w0 st x w)(f:zY b7 b9 k2 l ld w0)(st'):Ch s i b7 b9 k2 l ld r ty tk w0 st' x (bU w l (r st')):=
 ⟨h.old.trans (fa w l _ f.low.2.1),(bD w _ f.seven.2.2.1).trans h.seven,(bD w _ (ZL f.loop.1)).trans h.nine,(bD w _ (ZL f.loop.2.1)).trans h.key,iA h.loop,(bD w _ (ZL f.loop.2.2)).trans h.list⟩
def Ch.put(h:Ch s i b7 b9 k2 l ld r ty tk w0 st x w)(f:zY b7 b9 k2 l ld w0)(y):Ch s i b7 b9 k2 l ld r ty tk w0 st y (w.setCell ⟨b7,0,none⟩ (.string ⟨y.toArray⟩)):=
 ⟨h.old.trans (eJ w _ _ f.low.1),kJ h.seven,(cP w _ (ZL f.seven.1)).trans h.nine,(cP w _ (ZL f.seven.2.1)).trans h.key,(cP w _ (ZL f.seven.2.2.1)).trans h.loop,(cP w _ (ZL f.seven.2.2.2)).trans h.list⟩
end
def FL(f:Func)(g:FuncId)(T:Array Value)(ld:Nat)(st:LoopState):Loop:={state:=st,pending:=none,fn:=g,tmps:=T,params:=#[25],assign:= .region 3 (bP f 3) false,body:= .block 1 (rD f 4),defers:=ld}
def oi(f:Func):Code:= .seq (.seq (rG f 1) (.cond (.tmp 9) .skip (.exit 0))) (.seq (.block 1 (.seq (rG f 3) (.cond (.tmp 15) .ret .skip))) (rG f 2))
section
variable{s:dQ}{k2 ld:Nat}{x:List UInt8}{T:Array Value}{cf:Frame}
def FJ(KS)(a)(t j)(x)(h:j<t):jR KS a (t- j) j x=jR KS a (t-(j+1)) (j+1) (lH KS a j x):=by rw[show t- j=(t-(j+1))+1 from o_];rfl
end
end
section
open Go.RowKit Go.Lib Go.Shelf
def ly105:Go.Proofs.Lays.n105 (aI q tP) lays105_ren:=by
 cases q<;>constructor
 all_goals first|(rw[qc];kernel_rfl)|kernel_rfl|(intro w;kernel_rfl)
def Lf.extra105:Builder.Extra (aI q tP) lays105_ren:=by
 cases q<;>constructor
 all_goals first|kernel_rfl|(intro w;kernel_rfl)|decide|(constructor<;>first|kernel_rfl|(intro w;kernel_rfl)|decide)
def Lf.strings_Repeat(s:ByteArray)(c:Nat)(w:World)(b:c<=9223372036854775807)(a:s.size*c<=140737488355328):
 Calls (aI q tP) 133 #[.s s, .i c] w λe w'=>e= .returned (.string ⟨(aK0 s.data.toList c).toArray⟩)/\Bw w w':=Any.strings_Repeat ly105 Lf.extra105 s c w b a
@[simp] theorem lf133:l_R q 133 f133:=l_F func133
@[simp] theorem lc133(args:Array Value)(w:World):(callFunc 133 args).run (aI q tP) w= .ok (.enter 133 args) w:=dM lf133 k_ rfl args w
end
namespace L1
open Go.Proofs.YtkmoglhgkcnalaaGreatDoor
section

open Go.RowKit
def Gp(x k)(w):
 Calls (aI ql tP) 184 #[.int .u32 x, .i k] w λe w'=>e= .returned (.int .u32 (sa x k))/\w'=w:=by
 have a:=vt .and (Tu.wrap k) 31
 go_enter lf184,ntmps184
 go_wp2
 go_ret
 exact⟨rfl,rfl⟩
def vW(x a b c)(w)(i:0<=a)(h:a<=31)(g:0<=b)(b1:b<=31)(f:0<=c)(d:c<=31):
 Calls (aI ql tP) 163 #[.int .u32 x, .i a, .i b, .i c] w λe w'=>e= .returned (.int .u32 (eF x a b c))/\w'=w:=by
 go_enter lf163,ntmps163
 go_wp2_with (go_at_call 184;refine(Gp _ _ _).mono ?_;rintro e w' ⟨rfl,rfl⟩)
 go_ret
 exact⟨rfl,rfl⟩
def BN(x a b c)(w)(i:0<=a)(h:a<=31)(g:0<=b)(b1:b<=31)(f:0<=c)(d:c<=31):
 Calls (aI ql tP) 183 #[.int .u32 x, .i a, .i b, .i c] w λe w'=>e= .returned (.int .u32 (iK x a b c))/\∃n,w'=w.drewN n:=by
 go_enter lf183,ntmps183
 go_wp2
 go_quiet ((go_at_call 184;exact Calls.quiet_of_same (Gp _ _ _)))
 go_wp2
 go_ret
 exact⟨rfl,_,rfl⟩
def fN(s)(w)(c:s.size<=8):
 Calls (aI ql tP) 88 #[.s s] w λe w'=>e= .returned (.int .u64 (dC s.data.toList))/\w'=w:=by
 go_enter lf88,ntmps88
 go_wp2
 go_loop [3,4,7] (λn j i=>∃k,k<=s.size/\i= .i k/\n= .int .u64 (dC (s.data.toList.take k))) (λ_ _ i=>s.size-(intOf i).toNat)
 case atStart=>exact⟨0,o_,rfl,rfl⟩
 case round=>
  obtain⟨k,d,rfl,rfl⟩:=hrel;by_cases a:k<s.size
  .have b:=jY (s.data.toList.take k) 7 (by simp;omega)
   go_wp2
   go_round
   case rel=>exact⟨k+1,o_,by go_num,by rw[IG s k a,pZ,LL _ _ b.1 o_]⟩
   case measure=>simp[intOf];omega
  .go_wp2
   go_ret
   exact⟨vI (by rw[No (by simp;omega)]),rfl⟩
def Lf.info5:((aI ql tP).info? 5).map (λi=>(i.zero,i.size,i.bytes))=some (some (.int .u8 0),1,1):=k_
def rM(n k:Nat)(w)(q:k<=8):
 Calls (aI ql tP) 106 #[.int .u64 n, .i k] w λe w'=>e= .returned (.string ⟨(dm n k).toArray⟩)/\Bw w w':=by
 have g:=λw=>run_make_row' (P:=(aI ql tP)) 83 5 (.int .u8 0) 1 lu83 Lf.info5 rfl .i64 .i64 k o_ o_ w
 go_enter lf106,ntmps106
 go_wp2
 go_loopw [0,6] (λx i d=>∃m,m<=k/\i= .i ((m:Int)- 1)/\x= .int .u64 ((n/256^(k- m):Nat):Int)/\d=w.alloc (.cells (IA n k m).toArray 5)) (λ_ i _=>(intOf i+1).toNat)
 case atStart=>exact⟨k,o_,rfl,s_,by rw[Iz,eq]⟩
 case round=>
  obtain⟨m,h,rfl,rfl,rfl⟩:=hrel;cases m with
  |zero=>
   have b:=cO k n;have a:=run_convert_bytes_back (P:=(aI ql tP)) (w.alloc (.cells (aX (dm n k)).toArray 5)) 83 9 5 ⟨w.heap.size,0,none⟩ k (dm n k) lu83 lu5 lu9
    (λj l=>by rw[AS,at5 _ _ _ _ rfl];simp[aX,l])
   rw[b]at a;rw[O8];generalize c:dm n k=L at*;have o:Hid (dm n k=L):=c;clear c b
   go_wp2
   go_ret
   exact⟨si o.out.symm,(bR).alloc o_ _⟩
  |succ p=>
   rw[show((p+1:Nat):Int)- 1=(p:Int)from o_];have r:=O7 n k p;have f:=E6 n k (p+1) h
   go_wp2
   go_roundw
   case rel=>exact⟨p,o_,rfl,by rw[show k- p=k-(p+1)+1 from o_,Nat.pow_succ,←Nat.div_div_eq_div_mul];simp,by rw[O6 n k p o_ _ s_]⟩
   case measure=>simp[intOf]
def O5(n:Nat)(w):
 Calls (aI ql tP) 132 #[.int .u64 n] w λe w'=>e= .returned (.string ⟨(dm n 8).toArray⟩)/\Bw w w':=by
 go_enter lf132,ntmps132
 go_wp2_with (go_at_call 106;refine(rM n 8 _ o_).mono ?_;rintro e w' ⟨rfl,a⟩)
 go_ret
 simp_all
end
section

open Go.RowKit
def Ea(b k:Nat)(i:k<16)(W):(Mv 164 (.pk b 0) (some (.i (4*(k:Int)))) (some (.i (4*(k:Int)+4))) none).run (aI ql tP) W=
 .ok (.slice (some ⟨b,4*k,none⟩) 4 (64- 4*k)) W:=by
 have c:(aI ql tP).underlying 164=some (.array ((aI ql tP).arrayLen 164) ((aI ql tP).elem 164)):=k_
 have a:(aI ql tP).arrayLen 164=64:=k_
 have e:(aI ql tP).elem 164=5:=k_
 have d:(sizeOf 5).run (aI ql tP) W= .ok 1 W:=k_
 rw[run_sliceAt_array_lh W 164 _ c _ _ _ _ o_ o_ (by rw[a];omega),a,e,d];have h:(4*(k:Int)).toNat=4*k:=o_
 have g:(4*(k:Int)+4).toNat=4*k+4:=o_
 have f:4*k+4- 4*k=4:=o_
 simp only[Zu,slicedAt];rw[h,g,f,if_neg o_,AS,aK1,as5]
def Kf(B)(h:B.length=64)(b k c)(g:k<16)(W)(e:W.rangeAt b 0 (aX B)):
 (convert 83 9 (.slice (some ⟨b,4*k,none⟩) 4 c)).run (aI ql tP) W= .ok (.string ⟨((B.drop (4*k)).take 4).toArray⟩) W:=by
 have d:((B.drop (4*k)).take 4).length=4:=by simp;omega
 have a:=run_convert_bytes_back (P:=(aI ql tP)) W 83 9 5 ⟨b,4*k,none⟩ c ((B.drop (4*k)).take 4) lu83 lu5 lu9
  (λj f=>by rw[d]at f;rw[AS];have:=e (4*k+j) (.int .u8 ((B[4*k+j]' o_).toNat:Int)) (by simp[aX];grind);simp_all)
 rwa [d]at a
def kw(B:List UInt8)(hB:B.length=64)(w:World):
 Calls (aI ql tP) 162 #[.agg (aX B).toArray] w λe w'=>e= .returned (.agg (aQ (cj B 64)).toArray)/\Bw w w':=by
 go_enter lf162,ntmps162
 go_wp2
 go_loopw [4,6] (λ_ i E=>∃(k:Nat) (f:World),k<=16/\i= .i k/\f.heap.size=w.heap.size+1+1/\f.rangeAt w.heap.size 0 (aX B)/\f.there (w.heap.size+1) 0 64/\Bw w f/\
  E=f.alloc (.cells (aQ (di B k)).toArray 214)) (λ_ i _=>16-(intOf i).toNat)
 case atStart=>
  have D:=Nz w B (ar9 64 (.int .u32 0)).toArray s_;exact⟨0,_,o_,rfl,D.1,D.2.1,D.2.2.1,D.2.2.2,by rw[BW];rfl⟩
 case round=>
  obtain⟨k,f,Q,rfl,a,q,o,r,rfl⟩:=hrel;by_cases d:k<16
  .have a4:=Ea (ql:=ql) w.heap.size k d
   have a6:=λc=>Kf (ql:=ql) B hB w.heap.size k c d (f.alloc (.cells (aQ (di B k)).toArray 214)) (Zr q _)
   have hg:=ux B k o_
   have O:=xX B k o_
   have a5:(aQ (di B k)).length=64:=by rw[bG,O]
   have h8:(ByteArray.mk ((B.drop (4*k)).take 4).toArray).size<=8:=by show((B.drop (4*k)).take 4).toArray.size<=8;simp;omega
   go_wp2_with (go_at_call 88;refine(fN _ _ h8).mono ?_;rintro e w' ⟨rfl,rfl⟩)
   go_roundw
   case rel=>exact⟨k+1,f,o_,by go_num,a,q,o,r,by rw[wv B k o_ _ (by rw[if_pos d,uf,JZ])]⟩
   case measure=>simp[intOf];omega
  .have g:k=16:=o_;subst g;clear d Q
   go_wp2
   go_loopw [5] (λi E=>∃(k n:Nat),16<=k/\k<=64/\i= .i k/\
    E=(f.alloc (.cells (aQ (di B k)).toArray 214)).drewN n) (λi _=>64-(intOf i).toNat)
   case atStart=>exact⟨16,0,o_,o_,rfl,rfl⟩
   case round=>
    obtain⟨k,n,g,Q,rfl,rfl⟩:=hrel;by_cases d:k<64
    .obtain⟨m,rfl⟩:∃m,k=m+16:=⟨k- 16,o_⟩;rw[show((m+16:Nat):Int)=(m:Int)+16 from o_]
     go_wp2_with fail
     obtain⟨M,b⟩:∃M,M=(f.alloc (.cells (aQ (di B (m+16))).toArray 214)).drewN n:=⟨_,rfl⟩;have X:=tZ b a (nO B (m+16) m o_);have W:=tZ b a (nO B (m+16) (m+1) o_);have U:=tZ b a (nO B (m+16) (m+9) o_);have s:=tZ b a (nO B (m+16) (m+14) o_);have V:=tZ b a (ux B (m+16) o_);have T:=NE b a (m+16);generalize y:(cj B (m+16)).getD m 0=x0 at X;have X0:Hid ((cj B (m+16)).getD m 0=x0):=y;clear y;generalize x:(cj B (m+16)).getD (m+1) 0=x1 at W;have X1:Hid ((cj B (m+16)).getD (m+1) 0=x1):=x;clear x;generalize u:(cj B (m+16)).getD (m+9) 0=x9 at U;have X9:Hid ((cj B (m+16)).getD (m+9) 0=x9):=u;clear u;generalize h:(cj B (m+16)).getD (m+14) 0=t at s;have Z:Hid ((cj B (m+16)).getD (m+14) 0=t):=h;clear h;rw[←b];have HM:Hid (M=(f.alloc (.cells (aQ (di B (m+16))).toArray 214)).drewN n):=b;clear b;have b0:(m:Int)<64:=o_;have b1:(m:Int)+1<64:=o_;have b9:(m:Int)+9<64:=o_;have Y:(m:Int)+14<64:=o_;have a7:(m:Int)+16<64:=o_;have z0:0<=(m:Int):=o_;have v0:DN.wrap (m:Int)=m:=(by rw[as3];omega);have v1:DN.wrap ((m:Int)+16- 15)=m+1:=(by rw[as3];omega);have v9:DN.wrap ((m:Int)+16- 7)=m+9:=(by rw[as3];omega);have F:DN.wrap ((m:Int)+16- 2)=m+14:=(by rw[as3];omega);have p1:0<=(m:Int)+1:=o_;have p9:0<=(m:Int)+9:=o_;have J:0<=(m:Int)+14:=o_;have I:0<=(m:Int)+16:=o_;have t1:((m:Int)+1).toNat=m+1:=o_;have t9:((m:Int)+9).toNat=m+9:=o_;have H:((m:Int)+14).toNat=m+14:=o_;have G:((m:Int)+16).toNat=m+16:=o_
     go_region_held3 (λw'=>w'.cell? ⟨w.heap.size+1+1,m,none⟩=some (.int .u32 x0)/\w'.cell? ⟨w.heap.size+1+1,m+1,none⟩=some (.int .u32 x1)/\w'.cell? ⟨w.heap.size+1+1,m+9,none⟩=some (.int .u32 x9)/\w'.cell? ⟨w.heap.size+1+1,m+14,none⟩=some (.int .u32 t)) (first|go_keep|(refine⟨?_, ?_, ?_, ?_⟩<;>(rw[World.cell?_setCell_other _ _ _ _ s_];simp only[World.cell?_drewN,X,W,U,s])))
      (first|(go_at_call 183;refine(BN _ _ _ _ _ o_ o_ o_ o_ o_ o_).mono ?_;rintro e w' ⟨rfl,nq,rfl⟩))
     all_goals
      clear X W U s V T b0 b1 b9 Y v0 v1 v9 F p1 p9 J I t1 t9 H G
      go_wp2
      go_roundw
      case rel=>((repeat apply Exists.intro);exact⟨⟨m+17,_,o_,o_,by go_num,(WW HM.out a _ _ _).trans (by rw[wv B (m+16) o_ _ (by rw[if_neg o_,Cu,X0.out,X1.out,X9.out,Z.out,JZ,JZ,JZ])])⟩,rfl⟩)
      case measure=>simp[intOf];omega
    .have A:k=64:=o_;subst A;clear d Q g;obtain⟨M,b⟩:∃M,M=(f.alloc (.cells (aQ (di B 64)).toArray 214)).drewN n:=⟨_,rfl⟩;have N:M.rangeAt (w.heap.size+1+1) 0 (aQ (di B 64)):=λj v hv=>by rw[as5];exact tZ b a hv
     have K:M.there (w.heap.size+1) 0 64:=(by rw[b];exact World.there_alloc o _);have hb:Bw w M:=(by rw[b];exact below_drewN (r.alloc o_ _) n);rw[←b];rw[uy]at N;clear b a q o r;have P:(aQ (cj B 64)).length=64:=(by rw[bG,f9]);generalize S:aQ (cj B 64)=L at*;have HL:Hid (aQ (cj B 64)=L):=S;have l:∀v∈L,v.oneCell'=true:=(by rw[←S];exact ji _);clear S;have R:((aI ql tP).info? 214).map (·.size)=some L.length:=(by rw[P];kernel_rfl);have a3:Hid (M.rangeAt (w.heap.size+1+1) 0 L):=N;have z:L.toArray.size=64:=(by simp[P]);have a2:Hid (M.there (w.heap.size+1) 0 L.toArray.size):=(by exact z▸K);have C:Hid (M.there (w.heap.size+1) 0 L.length):=(by exact P▸K);clear z;have a1:Hid (((aI ql tP).info? 214).map (·.size)=some L.toArray.size):=(by exact JR▸R);have a0:Hid (L.toArray.all (·.oneCell')=true):=all_oneCell_toArray l;clear N K l
     go_wp2_with (first
      |refine wpList_load_mid rfl 214 (.tmp 3) rfl (w.heap.size+1+1) 0 rfl L _ a3.out lu214 rfl R ?_
      |refine wpList_store_mid rfl 214 (.tmp 2) (.tmp 48) rfl (w.heap.size+1) 0 L.toArray rfl rfl a2.out a1.out a0.out ?_)
     exact bodyPost_ret (v:= .agg L.toArray) (gR (p:=2) (ty:=214) k_ _ _ (w.heap.size+1) 0 L _ rfl (Kq _ _ _ _ C.out) lu214 rfl R) rfl ⟨P8 HL.out.symm,bV o_ _ _ _ _ hb⟩
end
section

open Go.RowKit
def JJ(G:List Int)(c:G.length=8)(k:Nat)(b:k<8)(W:World):(ay0 163 (.agg (aQ G).toArray) (.i (k:Int))).run (aI ql tP) W= .ok (.int .u32 (G.getD k 0)) W:=by
 have a:(sizeOf 162).run (aI ql tP) W= .ok 1 W:=k_
 simp[ay0,asIntOf,run_underlying lu163,part,a,b,aQ,c]
def L0(x:Int)(w:World):Calls (aI ql tP) 163 #[.int .u32 x, .i 6, .i 11, .i 25] w λe w'=>e= .returned (.int .u32 (eF x 6 11 25))/\w'=w:=
 vW x 6 11 25 w o_ o_ o_ o_ o_ o_
def L2(x:Int)(w:World):Calls (aI ql tP) 163 #[.int .u32 x, .i 2, .i 13, .i 22] w λe w'=>e= .returned (.int .u32 (eF x 2 13 22))/\w'=w:=
 vW x 2 13 22 w o_ o_ o_ o_ o_ o_
def Jp(H KS:List Int)(B:List UInt8)(hH:H.length=8)(hB:B.length=64)(w:World)(hK:w.rangeAt 0 0 (aQ KS))(hKl:KS.length=64)(h0:0<w.heap.size):
 Calls (aI ql prog) 131 #[.agg (aQ H).toArray, .agg (aX B).toArray] w λe w'=>e= .returned (.agg (aQ (od KS H B)).toArray)/\Bw w w':=by
 have hi54:((aI ql prog).info? 164).map (·.size)=some (aX B).length:=by rw[d9,hB];kernel_rfl
 have HK:Hid (w.rangeAt 0 0 (aQ KS)):=hK;have HKl:Hid (KS.length=64):=hKl;clear hK hKl
 go_enter lf131,ntmps131
 go_wp2_with (first
  |refine wpList_load_mid rfl 164 (.tmp 3) rfl (w.heap.size+1) 0 rfl (aX B) _ (by exact Zr (dG _ _ _ _ s_) _) lu164 rfl hi54 ?_
  |fail)
 refine(kw B hB _).mono ?_;rintro e w1 ⟨rfl,hb1⟩;have hSl:(cj B 64).length=64:=f9 B 64;generalize hS:cj B 64=S at*;have HS:Hid (cj B 64=S):=hS;have hi85:((aI ql prog).info? 214).map (·.size)=some (aQ S).toArray.size:=by rw[show(aQ S).toArray.size=64 from by simp[bG,hSl]];kernel_rfl
 have hth:(w1.alloc (.cells (ar9 64 (.int .u32 0)).toArray 214)).there w1.heap.size 0 (aQ S).toArray.size:=by rw[show(aQ S).toArray.size=64 from by simp[bG,hSl]];exact dB _ _ _ _ _ rfl s_
 have Hth:Hid ((w1.alloc (.cells (ar9 64 (.int .u32 0)).toArray 214)).there w1.heap.size 0 (aQ S).toArray.size):=hth;have Hb1:Hid (Below _ _ _):=hb1;clear hS hth hb1 hi54
 go_wp2_with (first
  |refine wpList_store_mid rfl 214 (.tmp 5) (.tmp 20) rfl w1.heap.size 0 (aQ S).toArray rfl rfl Hth.out hi85 (all_oneCell_toArray (ji S)) ?_)
 refine A3 (λM=>UY w M H KS S w1.heap.size) (Jq w w1 H KS S B 163 164 214 _ _ rfl rfl hSl hH HK.out h0 Hb1.out) ?_;intro M hMM;have HHm:Hid (UY w M H KS S w1.heap.size):=hMM;clear hMM hi85 Hth Hb1;generalize w1.heap.size=c at HHm⊢;clear w1;simp only[ZM];obtain⟨s0,hs0⟩:∃s,s=St.of H:=⟨_,rfl⟩;have x0:M.cell? ⟨w.heap.size,0,none⟩=some (.int .u32 s0.a):=by rw[hs0];exact iQ HHm.out.hrow 0 o_
 have x1:M.cell? ⟨w.heap.size,1,none⟩=some (.int .u32 s0.b):=by rw[hs0];exact iQ HHm.out.hrow 1 o_
 have x2:M.cell? ⟨w.heap.size,2,none⟩=some (.int .u32 s0.c):=by rw[hs0];exact iQ HHm.out.hrow 2 o_
 have x3:M.cell? ⟨w.heap.size,3,none⟩=some (.int .u32 s0.d):=by rw[hs0];exact iQ HHm.out.hrow 3 o_
 have x4:M.cell? ⟨w.heap.size,4,none⟩=some (.int .u32 s0.e):=by rw[hs0];exact iQ HHm.out.hrow 4 o_
 have x5:M.cell? ⟨w.heap.size,5,none⟩=some (.int .u32 s0.f):=by rw[hs0];exact iQ HHm.out.hrow 5 o_
 have x6:M.cell? ⟨w.heap.size,6,none⟩=some (.int .u32 s0.g):=by rw[hs0];exact iQ HHm.out.hrow 6 o_
 have x7:M.cell? ⟨w.heap.size,7,none⟩=some (.int .u32 s0.h):=by rw[hs0];exact iQ HHm.out.hrow 7 o_
 have HH:Hid (s0=St.of H):=hs0;have HhH:Hid (H.length=8):=hH;have HhS:Hid (S.length=64):=hSl;clear hs0 hH hSl hB
 go_quiet (fail)
 clear x0 x1 x2 x3 x4 x5 x6 x7
 go_wp2
 go_loopw [6,7,8,9,10,11,12,13,37] (λa b c d e f g h i wr=>∃(k n:Nat),k<=64/\i= .int .i64 k/\a= .int .u32 (cU KS S H k).a/\b= .int .u32 (cU KS S H k).b/\c= .int .u32 (cU KS S H k).c/\d= .int .u32 (cU KS S H k).d/\
  e= .int .u32 (cU KS S H k).e/\f= .int .u32 (cU KS S H k).f/\g= .int .u32 (cU KS S H k).g/\h= .int .u32 (cU KS S H k).h/\wr=M.drewN n) (λ_ _ _ _ _ _ _ _ i _=>64-(intOf i).toNat)
 case atStart=>exact⟨0,_,o_,rfl,by rw[HH.out];rfl,by rw[HH.out];rfl,by rw[HH.out];rfl,by rw[HH.out];rfl,by rw[HH.out];rfl,by rw[HH.out];rfl,by rw[HH.out];rfl,by rw[HH.out];rfl,rfl⟩
 case round=>
  obtain⟨k,n,hk,rfl,rfl,rfl,rfl,rfl,rfl,rfl,rfl,rfl,rfl⟩:=hrel;by_cases hlt:k<64
  .generalize hs:cU KS S H k=s;have HR:Hid (cU KS S H k=s):=hs;clear hs;have hlt':(k:Int)<64:=o_;have hk0:(0:Int)<=(k:Int):=o_;have y1:M.cell? ⟨0,k,none⟩=some (.int .u32 (KS.getD k 0)):=iQ HHm.out.krow k (by rw[HKl.out];omega);have y2:M.cell? ⟨c,k,none⟩=some (.int .u32 (S.getD k 0)):=iQ HHm.out.srow k (by rw[HhS.out];omega);generalize hkk:KS.getD k 0=kk at y1;generalize hww:S.getD k 0=ww at y2;have HKK:Hid (KS.getD k 0=kk):=hkk;have HWW:Hid (S.getD k 0=ww):=hww;clear hkk hww
   go_wp2_with fail
   go_quiet ((go_at_call 163;exact(L0 _ _).mono (λ_ _ h=>⟨h.1,_,h.2⟩)))
   clear y1 y2
   go_wp2_with (go_at_call 163;refine(L2 _ _).mono ?_;rintro e w' ⟨rfl,rfl⟩)
   go_roundw
   case rel=>exact⟨k+1,_,o_,by go_num,by rw[cU,HR.out,HKK.out,HWW.out];exact congrArg (Value.int .u32) (SK s kk ww),by rw[cU,HR.out,HKK.out,HWW.out];rfl,by rw[cU,HR.out,HKK.out,HWW.out];rfl,by rw[cU,HR.out,HKK.out,HWW.out];rfl,by rw[cU,HR.out,HKK.out,HWW.out];exact congrArg (Value.int .u32) (SJ s kk ww),by rw[cU,HR.out,HKK.out,HWW.out];rfl,by rw[cU,HR.out,HKK.out,HWW.out];rfl,by rw[cU,HR.out,HKK.out,HWW.out];rfl,rfl⟩
   case measure=>simp[intOf];omega
  .have hk64:k=64:=o_;subst hk64;clear hlt hk
   go_wp2
   generalize hG:cU KS S H 64=G;have HG:Hid (cU KS S H 64=G):=hG;clear hG;have hgl:aO2 #[Value.int .u32 G.a,Value.int .u32 G.b,Value.int .u32 G.c,Value.int .u32 G.d,Value.int .u32 G.e,Value.int .u32 G.f,Value.int .u32 G.g,Value.int .u32 G.h]=aO2 (aQ G.list).toArray:=rfl
   go_loopw [97] (λi wr=>∃(k:Nat),k<=8/\i= .int .i64 k/\Bw w wr/\wr.rangeAt w.heap.size 0 (aQ (fA H G.list k))/\wr.there w.heap.size 0 8/\wr.there (w.heap.size+1+1) 0 8) (λi _=>8-(intOf i).toNat)
   case atStart=>exact⟨0,o_,rfl,below_drewN HHm.out.below _,by rw[Cw H _ HhH.out];exact HHm.out.hrow,HHm.out.hthere,HHm.out.res⟩
   case round=>
    obtain⟨k,hk,rfl,hb,hr,ht,hres⟩:=hrel;by_cases hlt:k<8
    .have hix:=λW=>JJ (ql:=ql) G.list rfl k hlt W;rw[←hgl]at hix;have hlt':(k:Int)<8:=o_;have hk0:(0:Int)<=(k:Int):=o_;have y0:wr.cell? ⟨w.heap.size,k,none⟩=some (.int .u32 (H.getD k 0)):=(by have:=hr k _ (Js H G.list k hlt);rwa [as5]at this);have yf:wr.frozen? ⟨w.heap.size,k,none⟩=false:=(by have:=(ht k hlt).2;rwa [as5]at this);clear hgl;have Hr:Hid (wr.rangeAt w.heap.size 0 (aQ (fA H G.list k))):=hr;have Ht:Hid (wr.there w.heap.size 0 8):=ht;have Hres:Hid (wr.there (w.heap.size+1+1) 0 8):=hres;clear hr ht hres
     go_wp2
     go_roundw
     case rel=>exact⟨k+1,o_,by go_num,hb.setCell (ar5 _) _,by rw[←Jr H G.list k _ (by rw[JZ,as2,as2])];exact kx Hr.out _,gQ Ht.out _ _ _,gQ Hres.out _ _ _⟩
     case measure=>simp[intOf];omega
    .have hk8:k=8:=o_;subst hk8;clear hlt hk hgl;have hml:(fA H G.list 8).length=8:=oa _ _ _;have HL:Hid (od KS H B=fA H G.list 8):=(by show od KS H B=_;rw[od,Fs,HS.out,HG.out]);generalize fA H G.list 8=L at*;have hi53:((aI ql prog).info? 163).map (·.size)=some (aQ L).length:=(by rw[bG,hml];kernel_rfl);have Hi53:Hid (((aI ql prog).info? 163).map (·.size)=some (aQ L).toArray.size):=(by show _=some (aQ L).toArray.size;rw[JR];exact hi53);have Hr:Hid (wr.rangeAt w.heap.size 0 (aQ L)):=hr;have Hres':Hid (wr.there (w.heap.size+1+1) 0 (aQ L).length):=(by show wr.there _ _ _;rw[bG,hml];exact hres);have Hres:Hid (wr.there (w.heap.size+1+1) 0 (aQ L).toArray.size):=(by show wr.there _ _ (aQ L).toArray.size;rw[JR];exact Hres'.out);clear hr ht hres
     go_wp2_with (first
           |refine wpList_load_mid rfl 163 (.tmp 2) rfl w.heap.size 0 rfl (aQ L) _ Hr.out lu163 rfl hi53 ?_
           |refine wpList_store_mid rfl 163 (.tmp 4) (.tmp 108) rfl (w.heap.size+1+1) 0 (aQ L).toArray rfl rfl Hres.out Hi53.out (all_oneCell_toArray (ji L)) ?_)
     exact bodyPost_ret (v:= .agg (aQ L).toArray) (gR (p:=4) (ty:=163) k_ _ _ (w.heap.size+1+1) 0 (aQ L) _ rfl (Kq _ _ _ _ Hres'.out) lu163 rfl hi53) rfl ⟨by rw[HL.out],bV o_ _ _ _ _ hb⟩
end
section

open Go.RowKit
def Eb(b h:Nat)(f:h<64)(W):(Mv 164 (.pk b 8) (some (.i (h:Int))) none none).run (aI ql tP) W= .ok (.slice (some ⟨b,8+h,none⟩) (64- h) (64- h)) W:=by
 have c:(aI ql tP).underlying 164=some (.array ((aI ql tP).arrayLen 164) ((aI ql tP).elem 164)):=k_
 have a:(aI ql tP).arrayLen 164=64:=k_
 have e:(aI ql tP).elem 164=5:=k_
 have d:(sizeOf 5).run (aI ql tP) W= .ok 1 W:=k_
 rw[run_sliceAt_array_l W 164 _ c _ _ o_ (by rw[a];omega),a,e,d];simp only[Zu,slicedAt];rw[Zt,if_neg o_,AS,aK1]
def yy(KS)(L blk)(s)(w)(b)(hD:fT w b KS L blk L.length)(hK:w.rangeAt 0 0 (aQ KS))(hKl:KS.length=64)(hb0:0<b)(hb:b<w.heap.size)
 (hlen:L.length+s.size<=4611686018427387904):
 Calls (aI ql tP) 111 #[.pk b 0, .s s] w λe w'=>e= .returned (.tuple #[])/\w.grownBy w' (some b)/\∃blk',fT w' b KS (L++s.data.toList) blk' (L.length+s.size):=by
 have hc:=hD.length;have hf:w.frozen? ⟨b,72,none⟩=false:=by have:=(hD.there 72 o_).2;omega
 have HD:Hid (fT w b KS L blk L.length):=hD;have HK:Hid (w.rangeAt 0 0 (aQ KS)):=hK;have Hl:Hid (L.length+s.size<=4611686018427387904):=hlen;have h1:(L.length:Int)<=4611686018427387904:=o_
 have h2:(s.size:Int)<=4611686018427387904:=o_
 clear hD hK hlen
 go_enter lf111,ntmps111
 go_wp2
 go_loopw [1,4] (λpc hd wr=>∃(q rest blk':List UInt8),s.data.toList=q++rest/\pc= .string ⟨rest.toArray⟩/\hd= .i (((L++q).length%64:Nat):Int)/\fT wr b KS (L++q) blk' (L.length+s.size)/\w.grownBy wr (some b)) (λpc _ _=>qS pc)
 case atStart=>exact⟨[],s.data.toList,blk,rfl,rfl,s_,by rw[ax_];have:=HD.out.setLen (L.length+s.size);simp_all,qE _ _ _ _⟩
 case round=>
  clear hc hf;obtain⟨q,rest,blk',hq,rfl,rfl,hD,hG⟩:=hrel;have HQ:Hid (s.data.toList=q++rest):=hq;have HD':Hid (fT wr b KS (L++q) blk' (L.length+s.size)):=hD;have HG:Hid (w.grownBy wr (some b)):=hG;have hm:(L++q).length%64<64:=o_
  generalize hh:(L++q).length%64=h at hm;have HH:Hid ((L++q).length%64=h):=hh;clear hq hD hG hh;by_cases hr:rest=[]
  .subst hr
   go_wp2
   go_end0
   exact⟨rfl,HG.out,blk',by rw[HQ.out,ax_];exact HD'.out⟩
  .have hpos:0<rest.length:=List.length_pos_iff.2 hr;have hsz:(ByteArray.mk rest.toArray).size=rest.length:=(by show rest.toArray.size=_;simp);obtain⟨n,hn⟩:∃n,n=min rest.length (64- h):=s_;have hcp:=rU (P:=(aI ql tP)) wr 83 3 5 lu83 k_ 9 b (8+h) (64- h) (64- h) n ⟨rest.toArray⟩ (by simp_all) (j5 HD'.out.there o_ o_);have hn1:n<=rest.length:=o_;have hn2:n<=64- h:=o_;have hn0:0<n:=o_;have Hn:Hid (n=min rest.length (64- h)):=hn;clear hn;have hsl:=λW=>Eb (ql:=ql) b h hm W;by_cases hfull:h+n=64
   .have hfb:(((h:Int)+(n:Int))==64)=true:=by grind
    go_wp2_with fail
    obtain⟨c1,c2,c3,c4⟩:=HD'.out.copied (rest.take n) (by rw[HH.out];simp;omega);rw[HH.out]at c1 c2 c3 c4;have hWs:(wr.setCells b (8+h) (aX (rest.take n))).heap.size=wr.heap.size:=ib _ _ _ _;obtain⟨W1,hW1⟩:∃W1,W1=wr.setCells b (8+h) (aX (rest.take n)):=s_;rw[←hW1]at c1 c2 c3 c4 hWs⊢;have HW1:Hid (W1=wr.setCells b (8+h) (aX (rest.take n))):=hW1;have hlt:(rest.take n).length=n:=(by simp;omega);have hB':(j1 blk' (rest.take n) h).length=64:=iR _ _ _ HD'.out.len o_;have hH':(cM KS (L++q) ((L++q).length/64)).length=8:=dA _ _ _;generalize hBB:j1 blk' (rest.take n) h=BB at*;generalize hFF:cM KS (L++q) ((L++q).length/64)=FF at*;have hi53:((aI ql tP).info? 163).map (·.size)=some (aQ FF).length:=(by rw[bG,hH'];kernel_rfl);have hi54:((aI ql tP).info? 164).map (·.size)=some (aX BB).length:=(by rw[d9,hB'];kernel_rfl);clear hcp hsl hfb;have hKW:(YP W1).rangeAt 0 0 (aQ KS):=by rw[World.rangeAt_drew,HW1.out];exact QN (C8 HG.out HK.out (by simp;omega)) _ _ _ o_
    have hgs:=HG.out.size;have hW0:0<(YP W1).heap.size:=(by show 0<W1.heap.size;omega);have hbW:b<W1.heap.size:=o_;have HKW:Hid ((YP W1).rangeAt 0 0 (aQ KS)):=hKW;have HW0:Hid (0<(YP W1).heap.size):=hW0;have HWs:Hid (W1.heap.size=wr.heap.size):=hWs;have Hc4:Hid (W1.there b 0 73):=c4;have HBB:Hid (j1 blk' (rest.take n) h=BB):=hBB;have HFF:Hid (cM KS (L++q) ((L++q).length/64)=FF):=hFF;clear hKW hW0 hWs c3 c4 hBB hFF hW1 hgs;have hml:(od KS FF BB).length=8:=po _ _ _;have hmx:=Jp (ql:=ql) FF KS BB hH' hB' (YP W1) HKW.out hKl HW0.out;generalize hMM:od KS FF BB=MM at*;have HMM:Hid (od KS FF BB=MM):=hMM;have Hmx:Hid (Calls _ _ _ _ _):=hmx;have hms:(aQ MM).toArray.size=8:=(by simp[bG,hml]);have Ht53:Hid ((YP W1).there b 0 (aQ MM).toArray.size):=(by show(YP W1).there b 0 _;rw[hms];exact(World.there_drew _ _ _ _).2 (j5 Hc4.out o_ o_));have Hi53:Hid (((aI ql tP).info? 163).map (·.size)=some (aQ MM).toArray.size):=(by show _=some (aQ MM).toArray.size;rw[hms];kernel_rfl);clear hMM hmx hH' hB' hms;refine wp_region_any k_ ?_
    change wpAny _ _ _ _ _ _ _ (YP W1)
    refine wT 0 (.pk b 0) ?_;refine wT 1 (.pk b 0) ?_;refine wT 2 (.pk b 0) ?_;refine wT 3 (.pk b 0) ?_;refine wT 5 (.pk b 0) ?_;refine wT 6 (.pk b 0) ?_;refine wT 7 (.pk b 8) ?_;refine wpAny_all (rs:=[4,8]) k_ s_ (lW (aH5 (S:=λw'=>w'=YP W1) (v:= .agg (aQ FF).toArray) rfl (yieldsIf_load_mid (by rfl) 163 (.tmp 43) rfl b 0 (by go_simp) (aQ FF) _ (λw' hw'=>hw'▸fK c2) lu163 rfl hi53) rfl ?_) (aH5 (S:=λw'=>w'=YP W1) (v:= .agg (aX BB).toArray) rfl (yieldsIf_load_mid (by rfl) 164 (.tmp 47) rfl b 8 (by go_simp) (aX BB) _ (λw' hw'=>hw'▸fK c1) lu164 rfl hi54) rfl ?_))
    .refine wpAny_all (rs:=[8]) k_ s_ (cW (aH5 (S:=λw'=>w'=YP W1) (v:= .agg (aX BB).toArray) rfl (yieldsIf_load_mid (by rfl) 164 (.tmp 47) rfl b 8 (by go_simp) (aX BB) _ (λw' hw'=>hw'▸fK c1) lu164 rfl hi54) rfl ?_));refine wpAny_all (rs:=[9]) k_ s_ (cW (yB rfl rfl 131 #[.agg (aQ FF).toArray, .agg (aX BB).toArray] (by go_simp) (.agg (aQ MM).toArray) _ Hmx.out λw2 hb2=> ?_));refine wT 10 (.pk b 0) ?_;refine wT 11 (.pk b 0) ?_;have ht2:w2.there b 0 (aQ MM).toArray.size:=fF hb2 (show b<(YP W1).heap.size from hbW) Ht53.out;refine wpAny_all (rs:=[12]) k_ s_ (cW (dS (by rfl) (by rfl) 163 (.tmp 51) (.tmp 49) (by rfl) b 0 (aQ MM).toArray ?e4 ?e5 ht2 Hi53.out (all_oneCell_toArray (ji MM)) (by rfl) ?e7))
     case e4=>go_simp
     case e5=>go_simp
     case e7=>
      refine wpAny_done k_ ?_ _;have HB2:Hid (Below (YP W1).heap.size (YP W1) w2):=hb2;clear hb2 ht2
      go_wp2_with fail
      rw[t8];have hst:qS (.string ⟨(rest.drop n).toArray⟩)<qS (.string ⟨rest.toArray⟩):=by show(rest.drop n).toArray.size<rest.toArray.size;simp;omega
      have hbw:Below wr.heap.size (wr.setCells b (8+(L++q).length%64) (aX (rest.take n))) w2:=by rw[HH.out,←HW1.out];exact(aM_ (aA1 _ W1)).trans (HB2.out.mono (show wr.heap.size<=W1.heap.size from by rw[HWs.out];omega))
      have hfu:=HD'.out.full (rest.take n) (by rw[HH.out,hlt];exact hfull) hbw (by exact HWs.out▸hbW);rw[HH.out,HFF.out,HBB.out,HMM.out,ZQ]at hfu;have hmod:(L++(q++rest.take n)).length%64=0:=by
       have:=HH.out
       grind
      have hgr:w.grownBy W1 (some b):=(by rw[HW1.out];exact fG HG.out (fB _ _ _ _));exact⟨⟨q++rest.take n,rest.drop n,_,by rw[HQ.out];simp,rfl,by rw[hmod];rfl,hfu,fG hgr (fG (uS ((aM_ (aA1 _ W1)).trans HB2.out)) (fB _ _ _ _))⟩,hst⟩
    .refine wpAny_all (rs:=[4]) k_ s_ (cW (aH5 (S:=λw'=>w'=YP W1) (v:= .agg (aQ FF).toArray) rfl (yieldsIf_load_mid (by rfl) 163 (.tmp 43) rfl b 0 (by go_simp) (aQ FF) _ (λw' hw'=>hw'▸fK c2) lu163 rfl hi53) rfl ?_));refine wpAny_all (rs:=[9]) k_ s_ (cW (yB rfl rfl 131 #[.agg (aQ FF).toArray, .agg (aX BB).toArray] (by go_simp) (.agg (aQ MM).toArray) _ Hmx.out λw2 hb2=> ?_));refine wT 10 (.pk b 0) ?_;refine wT 11 (.pk b 0) ?_;have ht2:w2.there b 0 (aQ MM).toArray.size:=fF hb2 (show b<(YP W1).heap.size from hbW) Ht53.out;refine wpAny_all (rs:=[12]) k_ s_ (cW (dS (by rfl) (by rfl) 163 (.tmp 51) (.tmp 49) (by rfl) b 0 (aQ MM).toArray ?e4 ?e5 ht2 Hi53.out (all_oneCell_toArray (ji MM)) (by rfl) ?e7))
     case e4=>go_simp
     case e5=>go_simp
     case e7=>
      refine wpAny_done k_ ?_ _;have HB2:Hid (Below (YP W1).heap.size (YP W1) w2):=hb2;clear hb2 ht2
      go_wp2_with fail
      rw[t8];have hst:qS (.string ⟨(rest.drop n).toArray⟩)<qS (.string ⟨rest.toArray⟩):=by show(rest.drop n).toArray.size<rest.toArray.size;simp;omega
      have hbw:Below wr.heap.size (wr.setCells b (8+(L++q).length%64) (aX (rest.take n))) w2:=by rw[HH.out,←HW1.out];exact(aM_ (aA1 _ W1)).trans (HB2.out.mono (show wr.heap.size<=W1.heap.size from by rw[HWs.out];omega))
      have hfu:=HD'.out.full (rest.take n) (by rw[HH.out,hlt];exact hfull) hbw (by exact HWs.out▸hbW);rw[HH.out,HFF.out,HBB.out,HMM.out,ZQ]at hfu;have hmod:(L++(q++rest.take n)).length%64=0:=by
       have:=HH.out
       grind
      have hgr:w.grownBy W1 (some b):=(by rw[HW1.out];exact fG HG.out (fB _ _ _ _));exact⟨⟨q++rest.take n,rest.drop n,_,by rw[HQ.out];simp,rfl,by rw[hmod];rfl,hfu,fG hgr (fG (uS ((aM_ (aA1 _ W1)).trans HB2.out)) (fB _ _ _ _))⟩,hst⟩
   .have hfb:(((h:Int)+(n:Int))==64)=false:=by grind
    go_wp2_with fail
    rw[t8];have hlt:(rest.take n).length=n:=(by simp;omega);have hst:qS (.string ⟨(rest.drop n).toArray⟩)<qS (.string ⟨rest.toArray⟩):=by show(rest.drop n).toArray.size<rest.toArray.size;simp;omega
    have hmo:=HD'.out.more (rest.take n) (by rw[HH.out,hlt];omega);have hmod:(L++(q++rest.take n)).length%64=h+n:=by
     have:=HH.out
     grind
    rw[HH.out,ZQ]at hmo;exact⟨⟨q++rest.take n,rest.drop n,_,by rw[HQ.out];simp,rfl,by rw[hmod];simp,hmo,fG HG.out (fB _ _ _ _)⟩,hst⟩
end
section

open Go.RowKit
def Lf.size57:((aI ql tP).info? 166).map (·.size)=some 73:=k_
def Pn(w):
 Calls (aI ql tP) 110 #[] w λe w'=>e= .returned (.agg mR.toArray)/\Bw w w':=by
 have a:mR.toArray.size=73:=by rw[JR,gD]
 have f:((aI ql tP).info? 166).map (·.size)=some mR.toArray.size:=a▸Lf.size57;have b:(w.alloc (.cells zeroCells166 166)).there w.heap.size 0 mR.toArray.size:=a▸dB _ _ _ _ _ rfl k_;have d:Hid ((w.alloc (.cells zeroCells166 166)).there w.heap.size 0 mR.toArray.size):=b;have c:Hid ((w.alloc (.cells zeroCells166 166)).there w.heap.size 0 mR.length):=o_
 have g:Hid (((aI ql tP).info? 166).map (·.size)=some mR.toArray.size):=f;clear a f b
 go_enter lf110,ntmps110
 go_wp2_with (first
  |refine wpList_buildTo rfl 166 #[(0, .tmp 1)] rfl (some 2) rfl mR.toArray k_ ?_
  |refine wpList_store_mid rfl 166 (.tmp 0) (.tmp 2) rfl w.heap.size 0 mR.toArray rfl rfl d.out g.out (all_oneCell_toArray (D6 _ _ _)) ?_)
 exact bodyPost_ret (gR (p:=0) k_ _ _ w.heap.size 0 mR _ rfl (Kq _ _ _ _ c.out) lu166 rfl (gD▸Lf.size57)) rfl ⟨rfl,bV (ar5 _) _ _ _ _ ((bR).alloc o_ _)⟩
end
section

open Go.RowKit
def O4(x)(h:0<=x)(w):
 Calls (aI ql tP) 132 #[.int .u64 x] w λe w'=>e= .returned (.string ⟨(dm x.toNat 8).toArray⟩)/\Bw w w':=by obtain⟨n,rfl⟩:=Ld h;exact O5 n w
def Oa(KS)(L blk)(w:World)(hbl:blk.length=64)(htl:blk.take (L.length%64)=L.drop (64*(L.length/64)))(hK:w.rangeAt 0 0 (aQ KS))(hKl:KS.length=64)(h0:0<w.heap.size)
 (hlen:L.length<=576460752303423488):
 Calls (aI ql tP) 112 #[.agg (li (cM KS L (L.length/64)) blk L.length).toArray] w λe w'=>e= .returned (.string ⟨(iu KS L).toArray⟩)/\Bw w w':=by
 have hD:=fT.made w KS L blk L.length 166 hbl htl;generalize li (cM KS L (L.length/64)) blk L.length=DC at*;have HD:Hid (fT (w.alloc (.cells DC.toArray 166)) w.heap.size KS L blk L.length):=hD;have HK:Hid (w.rangeAt 0 0 (aQ KS)):=hK;have Hlen:Hid (L.length<=576460752303423488):=hlen;have hc:=hD.length;have h8:8*(L.length:Int)<=9223372036854775807:=o_
 clear hD hK hbl htl hlen
 go_enter lf112,ntmps112
 go_wp2_with fail
 refine(O4 _ o_ _).mono ?_;rintro e w1 ⟨rfl,hb1⟩;rw[show(8*(L.length:Int)).toNat=8*L.length from o_];have hz1:w.heap.size<w1.heap.size:=by have:=hb1.size;simp at this;omega
 have hD1:=HD.out.below hb1 s_;have hc1:=hD1.length;have HD1:Hid (fT w1 w.heap.size KS L blk L.length):=hD1;have Hb1:Hid (Bw w w1):=((bR).alloc o_ _).trans (hb1.mono s_);have hos:(ByteArray.mk (dm (8*L.length) 8).toArray).size=8:=by show(dm (8*L.length) 8).toArray.size=8;simp[cO]
 generalize hO:dm (8*L.length) 8=O at*;have HO:Hid (dm (8*L.length) 8=O):=hO;clear hD1 hb1 hO hc
 go_wp2_with fail
 obtain⟨c,hcc⟩:∃c:Nat,c=(119- L.length%64)%64:=s_;rw[show((119-(L.length:Int))%64)=(c:Int)from o_];refine(Lf.strings_Repeat (q:=ql) _ c _ o_ (by show 1*c<=_;omega)).mono ?_;rintro e w2 ⟨rfl,hb2⟩;have hz2:w.heap.size<w2.heap.size:=by have:=hb2.size;omega
 have HD2:Hid (fT w2 w.heap.size KS L blk L.length):=HD1.out.below hb2 hz1;have Hb2:Hid (Bw w w2):=Hb1.out.trans (hb2.mono o_);have HC:Hid (c=(119- L.length%64)%64):=hcc;generalize hR:aK0 (ByteArray.mk #[0]).data.toList c=R at*;have HR:Hid (aK0 (ByteArray.mk #[0]).data.toList c=R):=hR;have hRl:R.length<=64:=by rw[←hR,Lib.repeatL_length];grind
 have hO8:O.length=8:=by rw[←HO.out,cO]
 clear hb2 hR hcc hc1 hos;have hsd:(ByteArray.mk #[128]++ByteArray.mk R.toArray++ByteArray.mk O.toArray).data.toList=iY L:=by rw[iY,←HC.out,←HR.out,←HO.out];simp
 have hss:(ByteArray.mk #[128]++ByteArray.mk R.toArray++ByteArray.mk O.toArray).size=(iY L).length:=by rw[←hsd,au3];rfl
 have hpl:(iY L).length<=73:=by rw[←hsd];simp;omega
 go_wp2_with fail
 generalize ByteArray.mk #[128]++ByteArray.mk R.toArray++ByteArray.mk O.toArray=sp at*;refine(yy KS L blk sp w2 w.heap.size HD2.out (bN Hb2.out h0 HK.out) hKl h0 hz2 o_).mono ?_;rintro e w3 ⟨rfl,hg3,blk3,hD3⟩;rw[hsd]at hD3;have HG3:Hid (w2.grownBy w3 (some w.heap.size)):=hg3;have HD3:Hid (fT w3 w.heap.size KS (L++iY L) blk3 (L.length+sp.size)):=hD3;have hz3:w.heap.size<w3.heap.size:=by have:=hg3.size;omega
 have hmk:∀W,(ZB 83 (.i 32) (.i 32)).run (aI ql tP) W= .ok (.sk W.heap.size 32 32) (W.alloc (.cells (madeCells #[.int .u8 0] 32) 5)):=
  λW=>run_make_row' (P:=(aI ql tP)) 83 5 (.int .u8 0) 1 lu83 Lf.info5 rfl .i64 .i64 32 o_ o_ W
 clear hg3 hD3 hsd hss hpl
 go_wp2
 have hHl:(cM KS (L++iY L) ((L++iY L).length/64)).length=8:=dA _ _ _;have hwr:=HD3.out.words;generalize hH:cM KS (L++iY L) ((L++iY L).length/64)=H at hHl hwr;have HH:Hid (cM KS (L++iY L) ((L++iY L).length/64)=H):=hH;have Hwr:Hid (w3.rangeAt w.heap.size 0 (aQ H)):=hwr;have HHl:Hid (H.length=8):=hHl;clear hH hwr hHl hmk
 go_loopw [7,31] (λ_ i wr=>∃k:Nat,k<=32/\i= .i k/\wr=w3.alloc (.cells (d8 H k).toArray 5)) (λ_ i _=>32-(intOf i).toNat)
 case atStart=>exact⟨0,o_,rfl,by rw[eq];rfl⟩
 case round=>
  obtain⟨k,hk,rfl,rfl⟩:=hrel;by_cases hlt:k<32
  .have hg:=Cj H k hlt;have hln:=uF H k hk;have hcw:=λo:Obj=>aI5 (w:=w3) o w.heap.size (k/4) hz3;have hcv:w3.cell? ⟨w.heap.size,k/4,none⟩=some (.int .u32 (H.getD (k/4) 0)):=iQ Hwr.out (k/4) (by rw[HHl.out];omega);generalize hx:H.getD (k/4) 0=x at hcv;have HX:Hid (H.getD (k/4) 0=x):=hx;clear hx;have b1:(k:Int)/4<8:=o_;have b2:(0:Int)<=(k:Int)/4:=o_;have b3:(0:Int)<=24- 8*((k:Int)%4):=o_;have hx0:Hid (0<=x):=by show 0<=x;rw[←HX.out,←HH.out];exact qG _ _ _ _
   go_wp2
   go_roundw
   case rel=>exact⟨k+1,o_,by go_num,by rw[Ci H k hlt _ (Cg H k x HX.out hx0.out)]⟩
   case measure=>simp[intOf];omega
  .have hk32:k=32:=o_;subst hk32;clear hlt hk;rw[Ck];have hcv:=run_convert_bytes_back (P:=(aI ql tP)) (w3.alloc (.cells (aX ((ar7 32).map (ra H))).toArray 5)) 83 9 5 ⟨w3.heap.size,0,none⟩ 32 ((ar7 32).map (ra H)) lu83 lu5 lu9
    (λj hj=>by rw[AS,at5 _ _ _ _ rfl];simp[aX]at hj⊢;simp[hj])
   rw[show((ar7 32).map (ra H)).length=32 from s_]at hcv;generalize hZ:(ar7 32).map (ra H)=Z at*;have HZ:Hid (iu KS L=Z):=(by show iu KS L=Z;rw[iu,HH.out,hZ]);clear hZ
   go_wp2
   go_ret
   refine⟨si HZ.out.symm, ?_⟩;exact(pE Hb2.out HG3.out o_).alloc o_ _
end
section

open Go.RowKit
def LK(KS)(ps)(cap)(w)(b)(hb:b<w.heap.size)(hcell:∀k h,w.cell? ⟨b,k,none⟩=some (.s ps[k]))(hK:w.rangeAt 0 0 (aQ KS))(hKl:KS.length=64)
 (hlen:(fh ps ps.length).length<=576460752303423488) (hn:ps.length<=1152921504606846976):
 Calls (aI ql tP) 91 #[.sk b ps.length cap] w λe w'=>e= .returned (.string ⟨(iu KS (fh ps ps.length)).toArray⟩)/\Bw w w':=by
 have HK:Hid (w.rangeAt 0 0 (aQ KS)):=hK;have Hc:Hid (∀k (h:k<ps.length),w.cell? ⟨b,k,none⟩=some (.s ps[k])):=hcell;have Hlen:Hid ((fh ps ps.length).length<=576460752303423488):=hlen;have hsz:mR.toArray.size=73:=by rw[JR,gD]
 have Hi:Hid (((aI ql tP).info? 166).map (·.size)=some mR.toArray.size):=by show _=some mR.toArray.size;exact hsz▸Lf.size57
 clear hK hcell hlen
 go_enter lf91,ntmps91
 go_wp2_with fail
 refine(Pn _).mono ?_;rintro e w1 ⟨rfl,hb1⟩;have hs1:=hb1.size;have hth:(w1.alloc (.cells zeroCells166 166)).there w1.heap.size 0 73:=dB _ _ _ _ _ rfl k_;have hst:=run_storeCells_cells (P:=(aI ql tP)) w1.heap.size 0 mR 0 (w1.alloc (.cells zeroCells166 166)) (λj hj=>by simp_all) (λj hj=>by simp_all) (D6 _ _ _);simp only[aS1]at hst;have HD1:Hid (fT ((w1.alloc (.cells zeroCells166 166)).setCells w1.heap.size 0 mR) w1.heap.size KS [] (ar9 64 0) 0):=fT.new w1 KS _ _ k_;have Hb1:Hid (Bw w w1):=hb1;clear hb1 hsz hth Hi
 go_wp2
 clear hst
 go_loopw [5,9] (λ_ i wr=>∃(k:Nat) (blk:List UInt8),k<=ps.length/\i= .i k/\fT wr w1.heap.size KS (fh ps k) blk (fh ps k).length/\Bw w wr/\w1.heap.size<wr.heap.size) (λ_ i _=>ps.length-(intOf i).toNat)
 case atStart=>exact⟨0,ar9 64 0,o_,rfl,HD1.out,bV hs1 _ _ _ _ (Hb1.out.alloc hs1 _),by rw[ib];simp⟩
 case round=>
  obtain⟨k,blk,hk,rfl,hD,hB,hz⟩:=hrel;have HD:Hid (fT wr w1.heap.size KS (fh ps k) blk (fh ps k).length):=hD;have HB:Hid (Bw w wr):=hB;clear hD hB HD1;by_cases hlt:k<ps.length
  .have hcl:wr.cell? ⟨b,k,none⟩=some (.s ps[k]):=(by rw[HB.out.cell (p:=⟨b,k,none⟩) hb];exact Hc.out k hlt);have hlt':(k:Int)<(ps.length:Int):=o_;generalize hp:ps[k]=p at hcl;have HP:Hid (fh ps (k+1)=fh ps k++p.data.toList):=(by show fh ps (k+1)=_;rw[Kk ps k hlt,hp]);have hpl:(fh ps k).length+p.size<=4611686018427387904:=by
    have h1:=Qn ps (k+1)
    have h2:=HP.out
    have h3:=Hlen.out
    have h4:p.data.toList.length=p.size:=by simp_all
    grind
   clear hp
   go_wp2_with fail
   refine(yy KS (fh ps k) blk p wr w1.heap.size HD.out (bN HB.out o_ HK.out) hKl o_ hz hpl).mono ?_;rintro e w4 ⟨rfl,hg4,blk4,hD4⟩;have hz4:w1.heap.size<w4.heap.size:=(by have:=hg4.size;omega);have hB4:Bw w w4:=pE HB.out hg4 hs1;have h4:p.data.toList.length=p.size:=(by simp_all);have HD4:Hid (fT w4 w1.heap.size KS (fh ps (k+1)) blk4 (fh ps (k+1)).length):=by show fT w4 w1.heap.size KS (fh ps (k+1)) blk4 (fh ps (k+1)).length;rw[HP.out,List.length_append,h4];exact hD4
   have HB4:Hid (Bw w w4):=hB4;clear hg4 hD4 hB4 h4 hpl
   go_wp2
   go_roundw
   case rel=>exact⟨k+1,blk4,o_,by go_num,HD4.out,HB4.out,hz4⟩
   case measure=>simp[intOf];omega
  .have hkl:k=ps.length:=o_;subst hkl;clear hlt hk;have hdl:=D7 KS (fh ps ps.length) blk (fh ps ps.length).length ((fh ps ps.length).length/64) HD.out.len;have hi57:((aI ql tP).info? 166).map (·.size)=some (li (cM KS (fh ps ps.length) ((fh ps ps.length).length/64)) blk (fh ps ps.length).length).length:=(by exact hdl▸Lf.size57);have Hwh:Hid (wr.rangeAt w1.heap.size 0 (li (cM KS (fh ps ps.length) ((fh ps ps.length).length/64)) blk (fh ps ps.length).length)):=HD.out.whole;have hsum:=Oa (ql:=ql) KS (fh ps ps.length) blk wr HD.out.len HD.out.tail (bN HB.out o_ HK.out) hKl o_ Hlen.out;generalize li (cM KS (fh ps ps.length) ((fh ps ps.length).length/64)) blk (fh ps ps.length).length=DC at*;have Hsum:Hid (Calls _ _ _ _ _):=hsum;have Hi57:Hid (((aI ql tP).info? 166).map (·.size)=some DC.length):=hi57;clear hsum hdl hi57
   go_wp2_with (refine wpList_load_mid rfl 166 (.tmp 3) rfl w1.heap.size 0 rfl DC _ Hwh.out lu166 rfl Hi57.out ?_)
   refine Hsum.out.mono ?_;rintro e w5 ⟨rfl,hb5⟩
   go_wp2
   go_ret
   exact⟨rfl,HB.out.trans (hb5.mono o_)⟩
end
section

open Go Go.Conc Go.RowKit
section
variable{s:dQ}{y z:Operand}
def bH:Bn (aI ql tP) 3:=λw=>⟨k_,k_⟩
def cC:Bn (aI ql tP) 9:=λw=>⟨k_,k_⟩
def sB:Bn (aI ql tP) 24:=λw=>⟨k_,k_⟩
def uH:Bn (aI ql tP) 43:=λw=>⟨k_,k_⟩
def aO{ad}(d:Bn (aI ql tP) t)(a:o.op= .load t x)(b:ev x= .pointer (some ad))(h:w.cell? ad=some v):Yl (aI ql tP) ev o w v #[⟨.cell ad,false,false⟩]:=by
 have⟨c,e⟩:=d w;constructor
 .simp[execOp,a,b,as_,loadVar,c,h,go_sem]
 .simp[execOp,a,b,as_,loadVar,c,e,h,go_sem]
def mz{ex}(e:o.op= .load 119 x)(t:ev x= .pk b 0)(h:w.heap[b]?=some (.cells (s.cells++ex) 119)):Yl (aI ql tP) ev o w (.agg s.cells) (nV b):=by
 have u:(isAgg 119).run (aI ql tP) w= .ok true w:=k_
 have y:(isAgg 119).events (aI ql tP) w #[]=#[]:=k_
 have a:∀k,k<12->w.cell? ⟨b,k,none⟩=s.cells[k]?:=λk v=>(aH h k).trans (ay5 v);have r:w.cell? ⟨b,0,none⟩=some (.s s.tree):=a 0 d_;have q:w.cell? ⟨b,1,none⟩=some (.s s.chains):=a 1 d_;have p:w.cell? ⟨b,2,none⟩=some (.s s.id):=a 2 d_;have n:w.cell? ⟨b,3,none⟩=some (.s s.root):=a 3 d_;have m:w.cell? ⟨b,4,none⟩=some (.i s.height):=a 4 d_;have l:w.cell? ⟨b,5,none⟩=some (.i s.width):=a 5 d_;have j:w.cell? ⟨b,6,none⟩=some (.i s.count):=a 6 d_;have i:w.cell? ⟨b,7,none⟩=some (.i s.shift):=a 7 d_;have g:w.cell? ⟨b,8,none⟩=some (.i s.q):=a 8 d_;have f:w.cell? ⟨b,9,none⟩=some (.s s.salt):=a 9 d_;have d:w.cell? ⟨b,10,none⟩=some (.s s.links):=a 10 d_;have c:w.cell? ⟨b,11,none⟩=some (.s s.path):=a 11 d_;constructor
 .simp[execOp,e,t,as_,loadVar,u,loadCells,loadCellsFrom,Y1,r,q,p,n,m,l,j,i,g,f,d,c,dQ.cells,go_sem]
 .simp[execOp,e,t,as_,loadVar,u,y,loadCells,loadCellsFrom,Y1,r,q,p,n,m,l,j,i,g,f,d,c,nV,go_sem]
def vN(a:o.op= .fieldAddr 119 x 0)(c:ev x= .pk b k):Yl (aI ql tP) ev o w (.pk b k) #[]:=by unfold Yl;simp[execOp,a,c];constructor<;>kernel_rfl
def BA(a:o.op= .fieldAddr 115 x 6)(c:ev x= .pk b 0):Yl (aI ql tP) ev o w (.pk b 6) #[]:=by
 have e:execOp ev o=(do pure (.value (←V9 115 (.pk b 0) 6))):=by simp only[execOp,a,c]
 unfold Yl;rw[e];constructor<;>kernel_rfl
def KO(a:o.op= .fieldAddr 119 x 3)(c:ev x= .pk b 0):Yl (aI ql tP) ev o w (.pk b 10) #[]:=by
 have e:execOp ev o=(do pure (.value (←V9 119 (.pk b 0) 3))):=by simp only[execOp,a,c]
 unfold Yl;rw[e];constructor<;>kernel_rfl
def gy{m n}(a:o.op= .binOp .lss 3 x y u)(c:ev x= .i m)(b:ev y= .i n):Yl (aI ql tP) ev o w (.bool (decide (m<n))) #[]:=by constructor<;>simp[execOp,a,c,b,go_sem]
def oT{m n}(a:o.op= .binOp .add 3 x y u)(c:ev x= .i m)(b:ev y= .i n)(h: -9223372036854775808<=m+n/\m+n<9223372036854775808):Yl (aI ql tP) ev o w (.i (m+n)) #[]:=by
 have e:DN.wrap (m+n)=m+n:=by rw[as3];omega
 constructor<;>simp[execOp,a,c,b,go_sem,e]
def kD{m n}(a:o.op= .binOp .mul 3 x y u)(c:ev x= .i m)(b:ev y= .i n)(h: -9223372036854775808<=m*n/\m*n<9223372036854775808):Yl (aI ql tP) ev o w (.i (m*n)) #[]:=by
 have e:DN.wrap (m*n)=m*n:=by rw[as3];omega
 constructor<;>simp[execOp,a,c,b,go_sem,e]
def t4(a:o.op= .unOp .not t x)(b:ev x= .bool q):Yl (aI ql tP) ev o w (.bool (!q)) #[]:=by constructor<;>simp[execOp,a,b,go_sem,Op.unary]
def eC{t}(a:o.op= .slice 9 x (some y) (some z) none)(d:ev x= .s t)(c:ev y= .i m)(b:ev z= .i n)(h:m<=n)(f:n<=t.size):Yl (aI ql tP) ev o w (.s (t.extract m n)) #[]:=by
 have e:(aI ql tP).underlying 9=some .string:=k_
 constructor
 .simp[execOp,a,d,c,b,Mv,YT,Ng,s_,Tv,asIntOf,h,f]
 .simp[execOp,a,d,c,b,Mv,YT,Ng,run_underlying e,Tv,asIntOf,h,f,go_sem]
def dI{e}{a}{len cap}(f:(aI ql tP).underlying t=some (.slice e))(h:∀w,(sizeOf e).run (aI ql tP) w= .ok 1 w)(b:o.op= .indexAddr t x y)(d:ev x= .slice (some a) len cap)(c:ev y= .i n)(g:n<len):
 Yl (aI ql tP) ev o w (.pointer (some (a.add n))) #[]:=by constructor<;>simp[execOp,b,d,c,go_sem,f,(h w),g]
def jZ(a:o.op= .alloc 3):Mk (aI ql tP) ev o w #[.i 0] 3:=by unfold Mk;simp[execOp,a];constructor<;>kernel_rfl
def mV(a:o.op= .alloc 43):Mk (aI ql tP) ev o w #[.slice none 0 0] 43:=by
 have e:execOp ev o=(do pure (.value (←aA7 43 true (.tuple #[])))):=by simp only[execOp,a]
 unfold Mk;rw[e];constructor<;>kernel_rfl
def ff{b}{v0}(hv:v.cells=#[v])(a:v.oneCell'=true)(d:(sizeOf t).run (aI ql tP) w= .ok 1 w)(c:o.op= .store t x y)(i:ev x= .pk b k)(g:ev y=v)(h:w.cell? ⟨b,k,none⟩=some v0)(f:w.frozen? ⟨b,k,none⟩=false):
 (execOp ev o).run (aI ql tP) w= .ok .skip (w.setCell ⟨b,k,none⟩ v)/\(execOp ev o).events (aI ql tP) w #[]=#[⟨.cell ⟨b,k,none⟩,true,false⟩]:=by
 simp[execOp,c,i,g];simp only[au5,storeVar,hv];constructor
 .simp[d,storeCells,Y1,run_store _ _ _ _ _ a,h,f,go_sem]
 .simp[d,storeCells,Y1,events_store (hv:=a),h,f,go_sem]
end
end
section

open Go.RowKit
def RU(n:Nat)(c:n<9223372036854775808)(w):
 Calls (aI ql tP) 151 #[.i n] w λe w'=>e= .returned (.string ⟨(dm n 1).toArray⟩)/\Bw w w':=by
 have b:Tu.wrap (n:Int)=n:=by rw[XZ];omega
 go_enter lf151,ntmps151
 go_wp2_with (go_at_call 106;refine(rM n 1 _ o_).mono ?_;rintro e w' ⟨rfl,a⟩)
 go_ret
 simp_all
def nH(n:Nat)(c:n<9223372036854775808)(w):
 Calls (aI ql tP) 92 #[.i n] w λe w'=>e= .returned (.string ⟨(dm n 2).toArray⟩)/\Bw w w':=by
 have b:Tu.wrap (n:Int)=n:=by rw[XZ];omega
 go_enter lf92,ntmps92
 go_wp2_with (go_at_call 106;refine(rM n 2 _ o_).mono ?_;rintro e w' ⟨rfl,a⟩)
 go_ret
 simp_all
def vE(n:Nat)(c:n<9223372036854775808)(w):
 Calls (aI ql tP) 89 #[.i n] w λe w'=>e= .returned (.string ⟨(dm n 4).toArray⟩)/\Bw w w':=by
 have b:Tu.wrap (n:Int)=n:=by rw[XZ];omega
 go_enter lf89,ntmps89
 go_wp2_with (go_at_call 106;refine(rM n 4 _ o_).mono ?_;rintro e w' ⟨rfl,a⟩)
 go_ret
 simp_all
def Gj(s:dQ)(n:Nat)(b:s.width=n)(c:n<=8)(w):
 Calls (aI ql tP) 108 #[.agg s.key] w λe w'=>e= .returned (.i (dH n))/\Bw w w':=by
 have a:n=0\/n=1\/n=2\/n=3\/n=4\/n=5\/n=6\/n=7\/n=8:=o_
 unfold dQ.key;rw[b];obtain rfl|rfl|rfl|rfl|rfl|rfl|rfl|rfl|rfl:=a
 all_goals
  go_enter lf108,ntmps108
  go_wp2
  go_ret
  exact⟨by simp[dH],aR w _⟩
end
section

open Go Go.Conc Go.RowKit
def Um:f120.body=some (.seq (rG f120 0) (.seq (rD f120 1) (.seq (.seq (rG f120 2)
 (.block 0 (.rangeFunc (.tmp 24) #[25] (rG f120 3) (.block 1 (rD f120 4))))) (.seq (rG f120 5) .ret)))):=k_
def IL(a)(d)(w):
 Calls (aI ql tP) 150 #[.agg a, .i d] w λe w'=>e= .returned (.func (.func 173) #[] #[.pk (w.heap.size+1) 0, .pk w.heap.size 0])/\w'=(w.alloc (.cells a 115)).alloc (.cells #[.i d] 3):=by
 go_enter lf150,ntmps150
 go_wp2
 go_ret
 simp_all
section
variable{s:dQ}{y:Operand}
def Vy(a:o.op= .fieldAddr 115 x 2)(c:ev x= .pk b 0):Yl (aI ql tP) ev o w (.pk b 2) #[]:=by unfold Yl;simp[execOp,a,c];constructor<;>kernel_rfl
def Xs(a:o.op= .fieldAddr 119 x 1)(c:ev x= .pk b 0):Yl (aI ql tP) ev o w (.pk b 8) #[]:=by unfold Yl;simp[execOp,a,c];constructor<;>kernel_rfl
def j7{cs}(c:o.op= .load 115 x)(n:ev x= .pk b 0)(h:w.heap[b]?=some (.cells cs t))(a:∀i,i<8->cs[i]?=s.key[i]?):(execOp ev o).run (aI ql tP) w= .ok (.value (.agg s.key)) w:=by
 have q:(isAgg 115).run (aI ql tP) w= .ok true w:=k_
 have m:=a 0 d_;have l:=a 1 d_;have k:=a 2 d_;have j:=a 3 d_;have g:=a 4 d_;have f:=a 5 d_;have e:=a 6 d_;have d:=a 7 d_;simp[dQ.key]at m l k j g f e d;simp[execOp,c,n,as_,loadVar,q,loadCells,loadCellsFrom,Y1,(aH h),m,l,k,j,g,f,e,d,dQ.key,go_sem]
def rV{t u}{z}(a:o.op= .binOp .add 9 x y z)(c:ev x= .s t)(b:ev y= .s u)(h:t.size+u.size<=9223372036854775807):(execOp ev o).run (aI ql tP) w= .ok (.value (.s (t++u))) w:=by simp[execOp,a,c,b,h,go_sem]
def tz(a:o.op= .alloc 9):Mk (aI ql tP) ev o w #[.string ⟨#[]⟩] 9:=by unfold Mk;simp[execOp,a];constructor<;>kernel_rfl
end
end
section

open Go Go.Conc Go.RowKit
def J0{y z}{t u v}(a:o.op= .buildSlice 43 3 #[(0,x),(1,y),(2,z)])(d:ev x= .s t)(c:ev y= .s u)(b:ev z= .s v):
 (execOp ev o).run (aI ql tP) w= .ok (.value (.sk w.heap.size 3 3)) (w.alloc (.cells #[.s t, .s u, .s v] 9)):=by simp[execOp,a,d,c,b];kernel_rfl
def Qz:f173.body=some (.seq (rG f173 0) (.block 0 (.loop (oi f173)))):=k_
section
variable{s:dQ}{k2 ld:Nat}{x:List UInt8}{T:Array Value}{cf:Frame}
def Ol(hKl:KS.length=64)(hid:s.id.size<65536)(hK:w0.rangeAt 0 0 (aQ KS))(h0:0<w0.heap.size)(hT:Has [(7, .pt b7),(9, .pt b9)] 33 [] ⟨T,[]⟩)(hf:zY b7 b9 k2 l ld w0)(hj:j<256)(hx:x.length=32)
 (hC:Ch s i b7 b9 k2 l ld (FL f120 120 T ld) 9 115 w0 .ready x w)
 (next:∀w',Ch s i b7 b9 k2 l ld (FL f120 120 T ld) 9 115 w0 .ready (lH KS (kU s i) j x) w'->Rn (aI ql tP) Goal (cf.finish (.bool true)) cs w'):
 Rn (aI ql tP) Goal (YU l 120 (((#[25]:Array Tmp).zip #[.i j]).foldl (λtmps (t,a)=>tmps.setIfInBounds t a) T) (rG f120 3) (.block 1 (rD f120 4)) .normal) (cf::cs) w:=by
 have hF:=hT.put (d:=25) d_ (.i j);have ez:((#[25]:Array Tmp).zip #[.i j]).foldl (λ tmps x=>match x with|(t,a)=>tmps.setIfInBounds t a) T=T.setIfInBounds 25 (.i j):=s_
 rw[ez];show Rn _ Goal ((rb 120 l).atR (ZM ⟨T,[]⟩ (some 25) (.i j)) [.code (rG f120 3), .beginRound, .code (.block 1 (rD f120 4))]) (cf::cs) w;refine Rn.uu hF λa hF=> ?_;refine Rn.p rfl (Rn.rounds rfl hC.loop rfl ?_);have hC1:=hC.turn hf .busy;have h7:=hC1.seven;have h9:=hC1.nine;refine Rn.p rfl (Rn.gu 6 hF ?_)
 iterate 2 refine n_ ?_
 refine p_ lf151 (λw _ _=>RU j o_ w) ?_;refine n_ ?_;refine f_ [.inl (.string ⟨(lH KS (kU s i) j x).toArray⟩)] (V:=λb=> .sk b 3 3) (λu=> ?_) (y:=λo a w ho z=>J0 ho gx gx gx);refine y8 lf91 (λw hb hM=> ?_) (y_ λa w2 hF hb _ rest hgo=> ?_)
 .have hcat:fh [Dk s i,⟨(dm j 1).toArray⟩,⟨x.toArray⟩] 3=kU s i++dm j 1++x:=by simp[fh,Nb]
  have hlen:(kU s i++dm j 1++x).length<=65600:=by have:s.id.data.toList.length=s.id.size:=s_;simp[kU,cO,hx];omega
  obtain⟨p,rfl,_,hp⟩:=hM.1 k_;have:=LK (ql:=ql) KS [Dk s i,⟨(dm j 1).toArray⟩,⟨x.toArray⟩] 3 w p (gA hp).1 (λk hk=>by
   rw[aH hp]
   grind) (bN (hC1.below hb).old h0 hK) hKl (by grind) s_
  rw[show[Dk s i,⟨(dm j 1).toArray⟩,(⟨x.toArray⟩:ByteArray)].length=3 from rfl,hcat]at this;exact this
 have hC2:=hC1.below hb;refine Rn.nn hF (λo ho=>(ff rfl rfl k_ ho (hF.G 7) (hF.G 31) (by rw[aH hC2.seven];rfl) (by simp[If,hC2.seven])).1) λa _=>hgo _ _ ?_;have hC2:=hC2.put hf (lH KS (kU s i) j x);exact Rn.p rfl (Rn.through rfl rfl hC2.loop (next _ (hC2.turn hf .ready)))
def T3(hKl:KS.length=64)(hid:s.id.size<65536)(hwd:s.width=n)(hn:n<=8)(hK:w0.rangeAt 0 0 (aQ KS))(h0:0<w0.heap.size)(hT:Has [(7, .pt b7),(9, .pt b9)] 33 [] ⟨T,[]⟩)(hf:zY b7 b9 k2 l ld w0){fin}
 (hend:∀w',Ch s i b7 b9 k2 l ld (FL f120 120 T ld) 9 115 w0 .ready fin w'->Rn (aI ql tP) Goal (cf.finish (.tuple #[])) cs w'):
 ∀fuel j x a w,dH n- j<fuel->j<257->x.length=32->jR KS (kU s i) (dH n- j) j x=fin->Has [(0, .func (.yield l) #[] #[]),(2, .pt k2),(4, .i j)] 16 [] a->
  Ch s i b7 b9 k2 l ld (FL f120 120 T ld) 9 115 w0 .ready x w->
  Rn (aI ql tP) Goal ((base 173).atR a [.code (oi f173), .inLoop (oi f173), .inBlock 0]) (cf::cs) w:=by
 have ht:dH n<=255:=by unfold dH;rcases(o_:n=0\/n=1\/n=2\/n=3\/n=4\/n=5\/n=6\/n=7\/n=8)with rfl|rfl|rfl|rfl|rfl|rfl|rfl|rfl|rfl<;>decide
 intro fuel;induction fuel with
 |zero=>omega
 |succ fuel ih=>
  intro j x a w hfu hj hx hfin hF hC;refine Rn.uu hF λa hF=> ?_;refine Rn.vv hF (λo ho=>j7 (s:=s) ho (hF.G 2) hC.key s_) λa hF=> ?_;refine Rn.cw hF lf108 (Gj s n hwd hn w) λw1 hb1 a hF=> ?_;have hC:=hC.below hb1;refine Rn.uu hF λa hF=> ?_;refine Rn.p rfl (Rn.cond (decide ((j:Int)<dH n)) (hF.G 9) ?_);by_cases hlt:j<dH n
  .rw[decide_eq_true o_]
   iterate 2 refine Rn.uu hF λa hF=> ?_
   have⟨o,ho,e1,e2,e3⟩:=q9 (ops:=bP f173 3) (n:=2) (d:=some 14) (p:= .call {callee:= .value (.tmp 12),args:=#[.tmp 13],argTypes:=#[3]}) (by rfl);refine Rn.yields (args:=#[.i j]) ho (e3 _) (by rw[e2];simp) hC.loop rfl (λw=>kM e2 gx (by simp[hF.G 13]) w) (Ol hKl hid hK h0 hT hf o_ hx hC λw2 hC=> ?_);rw[Df,ho,IS,e1];have hF:=hF.put (d:=14) d_ (.bool true);refine Rn.uu hF λa hF=> ?_;refine Rn.p rfl (Rn.cond false (hF.G 15) ?_)
   iterate 3 refine Rn.uu hF λa hF=> ?_
   exact Rn.p rfl (Rn.p rfl (ih (j+1) _ a w2 o_ o_ (rP ..) (FJ _ _ _ _ _ hlt▸hfin) (hF.only ⟨rfl,rfl,by simp_all,trivial⟩) hC))
  .rw[decide_eq_false o_];rw[show dH n- j=0 from o_]at hfin;obtain rfl:x=fin:=hfin;exact Rn.p rfl (Rn.ends rfl s_ (Rn.leave (.tuple #[]) rfl hF.defers lf173 (results_none rfl _ _ w1) (events_results_none rfl _ _) (hend w1 hC)))
end
def HI(KS:List Int)(s:dQ)(i:Nat)(d:Int)(m:ByteArray)(c:Ga s i d m)(w:World)(hK:w.rangeAt 0 0 (aQ KS))(O:KS.length=64)(h0:0<w.heap.size):
 Calls (aI ql tP) 120 #[.agg s.cells, .i i, .i d, .s m] w λe w'=>e= .returned (.s (lA KS s i d m))/\Bw w w':=by
 obtain⟨n,Y⟩:∃n:Nat,s.width=n:=⟨s.width.toNat,(YO c.width.1).symm⟩;obtain⟨j,rfl⟩:∃j:Nat,d=j:=⟨d.toNat,(YO c.d.1).symm⟩;have K:n<=8:=by have:=c.width.2;omega
 have hj:=c.d.2;have hq:(s.q.toNat:Int)=s.q:=YO c.q.1;have a2:=c.q.2;have hi:=c.i;have L:=c.id;refine eK (N:=33) lf120 Um λcs a f=>Rn.zz f λB a D W a1 f=> ?_;refine Rn.al (ob:= .cells #[.s m] 9) f (λo p=>by rw[Oh p,f.G 3];rfl) λw2 a C f7 a0 f=> ?_;refine Rn.uu f λa f=> ?_;have W:=bk C W;refine Rn.p rfl (Rn.p rfl (Rn.gu 11 f ?_));refine n_ ?_ (y:=λo a w p z=>(vN p gx).1);refine n_ ?_ (y:=λo a w p z=>(Vy p gx).1);refine n_ ?_;refine n_ ?_ (y:=λo a w p z=>(Xs p gx).1);refine n_ ?_;refine p_ (v:= .string ⟨(dm s.q.toNat 4).toArray⟩) lf89 (λw _ _=>by have:=vE (ql:=ql) s.q.toNat o_ w;rwa [hq]at this) ?_;refine n_ ?_ (y:=λo a w p z=>rV p gx gx (by rw[mQ];omega));refine n_ ?_;refine p_ lf92 (λw _ _=>nH i o_ w) ?_;refine n_ ?_ (y:=λo a w p z=>rV p gx gx (by simp only[ax3,mQ];omega));refine f_ [] (V:=λb=> .pk b 0) (λu=>y_ λa l f x hM X M=> ?_) (y:=λo a w p _=>(tz p).1);obtain⟨q,rfl,a3,U⟩:=hM.1 rfl;refine Rn.nn f (λo p=>(ff (ql:=ql) (w:=l) (b:=q) (k:=0) (v:= .s (Dk s i)) (v0:= .string ⟨#[]⟩) rfl rfl k_ p (f.G 9) (f.G 20) (by rw[aH U];rfl) (by simp[If,U])).1) λa f=>M _ _ ?_;have S:=(cP l (a:=⟨q,0,none⟩) (.s (Dk s i)) (show w.heap.size≠q by omega)).trans (bk x W);have R:=(cP l (a:=⟨q,0,none⟩) (.s (Dk s i)) (show B.heap.size≠q by omega)).trans (bk x f7);have H:=kJ (v:= .s (Dk s i)) U;have Q:Bw w (l.setCell ⟨q,0,none⟩ (.s (Dk s i))):=(aD (aD D D.size C) o_ x).trans (eJ l _ _ (show w.heap.size<=q by omega));have Z:w2.heap.size<=(l.setCell ⟨q,0,none⟩ (.s (Dk s i))).heap.size:=by have:=x.size;simpa[JX]using this
 revert S R H Q Z;generalize l.setCell ⟨q,0,none⟩ (.s (Dk s i))=l;intro S R H Q Z;refine Rn.vv f (λo p=>(vN p (f.G 4)).1) λa f=> ?_;refine Rn.vv f (λo p=>j7 (s:=s) p (f.G 21) S λk hk=>by rcases(o_:k=0\/k=1\/k=2\/k=3\/k=4\/k=5\/k=6\/k=7)with rfl|rfl|rfl|rfl|rfl|rfl|rfl|rfl<;>rfl) λa f=> ?_;refine Rn.uu f λa f=> ?_;refine Rn.cw f lf150 (IL s.key j l) λh r a f=> ?_;have J:Bw l h:=by rw[r];exact aD (aR l _) (by rw[aJ];omega) (aR _ _)
 have ks:h.heap.size=l.heap.size+2:=by rw[r,aJ,aJ]
 have kk:h.heap[l.heap.size]?=some (.cells s.key 115):=by rw[r];exact(cV _ _ (by rw[aJ];omega)).trans (aY l _)
 have E:h.heap[l.heap.size+1]?=some (.cells #[.i j] 3):=by
  have:=aY (l.alloc (.cells s.key 115)) (.cells #[.i j] 3)
  rwa [aJ,←r]at this
 have k7:=bk J R;have k9:=bk J H;have l9:=(gA H).1;clear r;refine Rn.p rfl (Rn.p rfl ?_);refine Rn.rangeAs (FL f120 120 a.tmps h.heap.size .ready) (args:=[.func (.yield (h.heap.size+1)) #[] #[], .pk (l.heap.size+1) 0, .pk l.heap.size 0].toArray) rfl rfl lf173 k_ k_ (f.G 24) s_ ?_;have t:Ch s i B.heap.size q l.heap.size (h.heap.size+1) h.heap.size (FL f120 120 a.tmps h.heap.size) 9 115 w .ready m.data.toList (du h (FL f120 120 a.tmps h.heap.size .ready)):=
  ⟨aD (aD Q o_ J) o_ (m5 h _),(bK h _ o_).trans k7,(bK h _ o_).trans k9,(bK h _ o_).trans kk,fI h _,fJ h _⟩
 have A:zY B.heap.size q l.heap.size (h.heap.size+1) h.heap.size w:=⟨⟨o_,o_,o_⟩,⟨o_,o_,o_,o_⟩,o_,o_,o_⟩;have E:=(bK h (FL f120 120 a.tmps h.heap.size .ready) o_).trans E;revert t E;generalize du h (FL f120 120 a.tmps h.heap.size .ready)=I;intro t E;refine Rn.ent (N:=16) lf173 Qz λg P=> ?_
 iterate 2 refine Rn.uu P λg P=> ?_
 refine Rn.p rfl (Rn.p rfl (Rn.p rfl ?_));refine T3 (s:=s) (i:=i) (T:=a.tmps) O L Y K hK h0 ⟨rfl,f.size,(f.only (G:=[(7, .pt B.heap.size),(9, .pt q)]) ⟨rfl,rfl,trivial⟩).slot⟩ A (λI t=> ?_) _ j m.data.toList g I (Nat.lt_succ_self _) o_ (by have:=c.link;simpa using this) rfl P.O t;show Rn (aI ql tP) _ ((base 120).atR ⟨a.tmps,{target:= .collected h.heap.size,args:=#[]}::a.defers⟩ (.endRangeFunc (h.heap.size+1)::_)) cs I;refine Rn.rangeOver t.loop rfl rfl ?_;have t:=t.turn A .exhausted;have F:Has [(7, .pt B.heap.size)] 33 [{target:= .collected h.heap.size,args:=#[]}] (Act.mk a.tmps ({target:= .collected h.heap.size,args:=#[]}::a.defers)):=⟨by rw[f.defers],f.size,(f.only (G:=[(7, .pt B.heap.size)]) ⟨rfl,trivial⟩).slot⟩;have c7:=t.seven
 iterate 2 refine Rn.uu F λa F=> ?_
 refine Rn.p rfl (Rn.ends rfl (.inr ⟨_,rfl⟩) (Rn.take (ds:=[]) F.defers t.list (Rn.now ⟨⟨_,[]⟩,_,_,rfl,rfl,F.slot 8 _ rfl, ?_,t.old.trans (gJ _ _ o_)⟩)));unfold lA;rw[Y,Zt,Zt];rfl
end
end L1
namespace L1
open Go.Conc Go.RowKit
def QQ(P:Program)(ev:Operand->Value)(o:Oper)(w:World):Prop:=∃x w',(execOp ev o).run P w= .halt x w'/\((∃s,x= .stuck s)\/x= .unsupported .addressObserved)
def Mc(a:o.op=ij n)(b:ev (.tmp n)= .s s):(execOp ev o).run lT w= .ok (.value (.i s.size)) w:=by
 have c:lT.underlying 9=some .string:=k_
 simp[execOp,a,ij,resolve,b,invoke,builtin,YQ,run_underlying c,goInt]
def JD(a:o.op=ij n)(b:ev (.tmp n)=v):(∃s,v= .s s/\(execOp ev o).run lT w= .ok (.value (.i s.size)) w)\/QQ lT ev o w:=by
 have c:lT.underlying 9=some .string:=k_
 cases v with
 |string s=>exact .inl ⟨s,rfl,by simp[execOp,a,ij,resolve,b,invoke,builtin,YQ,run_underlying c,goInt]⟩
 |_=>exact .inr ⟨_,w,by simp[execOp,a,ij,resolve,b,invoke,builtin,YQ,run_underlying c];rfl, .inl ⟨_,rfl⟩⟩
def Ju(a:o.op=iB n c)(b:ev (.tmp n)=v)(d:ev (.const (.i c))= .i c):(∃m,v= .i m/\eX ev o w (.bool (decide (m<c))))\/QQ lT ev o w:=by
 cases v with
 |int k m=>
  by_cases e:k= .i64
  .subst e;exact .inl ⟨m,rfl,(gy a b d).1⟩
  .exact .inr ⟨_,w,by simp[execOp,a,iB,b,d,eqGuard,binOp,e];rfl, s_⟩
 |pointer p=>exact .inr ⟨.unsupported .addressObserved,w,by simp[execOp,a,iB,b,d,eqGuard,binOp], .inr rfl⟩
 |_=>exact .inr ⟨_,w,by simp[execOp,a,iB,b,d,eqGuard,binOp];rfl, .inl ⟨_,rfl⟩⟩
def Qm{cs}(h:12<=cs.size):∃n m k j i g f e d c b a r,cs=(n::m::k::j::i::g::f::e::d::c::b::a::r:List Value).toArray:=by
 have⟨l⟩:=cs
 match l,h with
 |n::m::k::j::i::g::f::e::d::c::b::a::r,_=>simp_all
def Fc(a:o.op= .field 119 x 4)(b:ev x=v):(∃cs,v= .agg cs/\12<=cs.size/\∃u,(execOp ev o).run lT w= .ok (.value u) w)\/QQ lT ev o w:=by
 have k:∃e,lT.underlying 119=some (.struct e)/\∃f,e[4]?=some f/\f.type=9/\f.offset=11:=s_;have⟨e,c,f,d,g,i⟩:=k;have j:(isAgg 9).run lT w= .ok false w:=k_
 cases v with
 |agg cs=>
  by_cases h:12<=cs.size
  .refine .inl ⟨cs,rfl,h,cs[11], ?_⟩;simp[execOp,a,b,aC7,run_underlying c,d,part,asAgg,g,i,j,BY (show 11<cs.size by omega)]
  .refine .inr ⟨.stuck "part: no such cell",w, ?_, s_⟩;simp[execOp,a,b,aC7,run_underlying c,d,part,asAgg,g,i,j,aI6 (show cs.size<=11 by omega)]
 |_=>exact .inr ⟨_,w,by simp[execOp,a,b,aC7,run_underlying c,d,asAgg];rfl, .inl ⟨_,rfl⟩⟩
section
variable{c0 c1 c2 c3 c4 c5 c6 c7 c8 c9 c10 c11:Value}
def fs0(a:o.op= .field 119 x 0)(b:ev x= .agg #[c0,c1,c2,c3,c4,c5,c6,c7,c8,c9,c10,c11]):(execOp ev o).run lT w= .ok (.value (.agg #[c0,c1,c2,c3,c4,c5,c6,c7])) w:=by simp[execOp,a,b];kernel_rfl
def fs1(a:o.op= .field 119 x 1)(b:ev x= .agg #[c0,c1,c2,c3,c4,c5,c6,c7,c8,c9,c10,c11]):(execOp ev o).run lT w= .ok (.value c8) w:=by simp[execOp,a,b];kernel_rfl
def fs2(a:o.op= .field 119 x 2)(b:ev x= .agg #[c0,c1,c2,c3,c4,c5,c6,c7,c8,c9,c10,c11]):(execOp ev o).run lT w= .ok (.value c9) w:=by simp[execOp,a,b];kernel_rfl
def fs3(a:o.op= .field 119 x 3)(b:ev x= .agg #[c0,c1,c2,c3,c4,c5,c6,c7,c8,c9,c10,c11]):(execOp ev o).run lT w= .ok (.value c10) w:=by simp[execOp,a,b];kernel_rfl
def Y8(a:o.op= .field 119 x 4)(b:ev x= .agg #[c0,c1,c2,c3,c4,c5,c6,c7,c8,c9,c10,c11]):(execOp ev o).run lT w= .ok (.value c11) w:=by simp[execOp,a,b];kernel_rfl
def fk0(a:o.op= .field 115 x 0)(b:ev x= .agg #[c0,c1,c2,c3,c4,c5,c6,c7]):(execOp ev o).run lT w= .ok (.value c0) w:=by simp[execOp,a,b];kernel_rfl
def fk1(a:o.op= .field 115 x 1)(b:ev x= .agg #[c0,c1,c2,c3,c4,c5,c6,c7]):(execOp ev o).run lT w= .ok (.value c1) w:=by simp[execOp,a,b];kernel_rfl
def fk2(a:o.op= .field 115 x 2)(b:ev x= .agg #[c0,c1,c2,c3,c4,c5,c6,c7]):(execOp ev o).run lT w= .ok (.value c2) w:=by simp[execOp,a,b];kernel_rfl
def fk3(a:o.op= .field 115 x 3)(b:ev x= .agg #[c0,c1,c2,c3,c4,c5,c6,c7]):(execOp ev o).run lT w= .ok (.value c3) w:=by simp[execOp,a,b];kernel_rfl
def fk4(a:o.op= .field 115 x 4)(b:ev x= .agg #[c0,c1,c2,c3,c4,c5,c6,c7]):(execOp ev o).run lT w= .ok (.value c4) w:=by simp[execOp,a,b];kernel_rfl
def fk5(a:o.op= .field 115 x 5)(b:ev x= .agg #[c0,c1,c2,c3,c4,c5,c6,c7]):(execOp ev o).run lT w= .ok (.value c5) w:=by simp[execOp,a,b];kernel_rfl
def fk6(a:o.op= .field 115 x 6)(b:ev x= .agg #[c0,c1,c2,c3,c4,c5,c6,c7]):(execOp ev o).run lT w= .ok (.value c6) w:=by simp[execOp,a,b];kernel_rfl
def fk7(a:o.op= .field 115 x 7)(b:ev x= .agg #[c0,c1,c2,c3,c4,c5,c6,c7]):(execOp ev o).run lT w= .ok (.value c7) w:=by simp[execOp,a,b];kernel_rfl
def Mb{r}(hop:o.op= .load 119 x)(hx:ev x= .pk b 0)(h:w.heap[b]?=some (.cells (c0::c1::c2::c3::c4::c5::c6::c7::c8::c9::c10::c11::r:List Value).toArray 119)):(execOp ev o).run lT w= .ok (.value (.agg #[c0,c1,c2,c3,c4,c5,c6,c7,c8,c9,c10,c11])) w:=by
 have h1:(isAgg 119).run lT w= .ok true w:=k_
 simp[execOp,hop,hx,as_,loadVar,h1,loadCells,loadCellsFrom,Y1,(aH h),go_sem]
end
def Lg(h:(args++ar6 k undef)[i]?=some v)(hv:v≠undef):args[i]?=some v:=by grind
section
variable{Stop:Goroutine->World->Prop}(hS:∀g w,Stop g w->g.frame.mode= .returning/\g.callers=[]){Q:Prop}{g0:Goroutine}{b:Frame}{k:List Item}
include hS
def qR(j:Has F N ds a)(d x)(q:d<N)(f:F.lookup x=some v)(h:(ops[m]?).map (λo=>(o.dst,o.op,o.guard))=some (some d,ij x,none))
 (next:∀s,v= .s s->∀a',Has ((d, .i s.size)::F) N ds a'->Tk lT Stop Q g0 w0 (b.atR a' (.inRegion ops rest::k)) cs w):Tk lT Stop Q g0 w0 (b.atR a (.inRegion ops (m::rest)::k)) cs w:=by
 have⟨o,i,r,n,l⟩:=q9 h;have e:∀c,o.op≠ .defer c:=λc=>by rw[n];simp[ij]
 rcases JD n (j.get f)with⟨s,p,g⟩|⟨x,t,g,f⟩
 .refine Tk.ran hS i (l _) e g ?_;rw[r];exact next s p _ (j.put q _)
 .exact Tk.stuck hS i (l _) e g f
def kF(l:Has F N ds a)(d x)(c)(r:d<N)(f:F.lookup x=some v)(h:(ops[m]?).map (λo=>(o.dst,o.op,o.guard))=some (some d,iB x c,none))
 (next:∀i,v= .i i->∀a',Has ((d, .bool (decide (i<c)))::F) N ds a'->Tk lT Stop Q g0 w0 (b.atR a' (.inRegion ops rest::k)) cs w):Tk lT Stop Q g0 w0 (b.atR a (.inRegion ops (m::rest)::k)) cs w:=by
 have⟨o,j,t,p,n⟩:=q9 h;have e:∀c,o.op≠ .defer c:=λc=>by rw[p];simp[iB]
 rcases Ju p (l.get f) rfl with⟨s,q,g⟩|⟨x,u,g,f⟩
 .refine Tk.ran hS j (n _) e g ?_;rw[t];exact next s q _ (l.put r _)
 .exact Tk.stuck hS j (n _) e g f
def O9(l:Has F N ds a)(d x)(r:d<N)(f:F.lookup x=some v)(h:(ops[m]?).map (λo=>(o.dst,o.op,o.guard))=some (some d, .field 119 (.tmp x) 4,none))
 (next:∀cells,v= .agg cells->12<=cells.size->∀a' u,Has ((d,u)::F) N ds a'->Tk lT Stop Q g0 w0 (b.atR a' (.inRegion ops rest::k)) cs w):Tk lT Stop Q g0 w0 (b.atR a (.inRegion ops (m::rest)::k)) cs w:=by
 have⟨o,j,t,p,n⟩:=q9 h;have e:∀c,o.op≠ .defer c:=λc=>by rw[p];simp
 rcases Fc p (l.get f)with⟨s,q,i,u,g⟩|⟨x,y,g,f⟩
 .refine Tk.ran hS j (n _) e g ?_;rw[t];exact next s q i _ u (l.put r _)
 .exact Tk.stuck hS j (n _) e g f
def BI{x}(d:Has F N ds a)(c:F.lookup x=some (.bool q))(next:q=true→Tk lT Stop Q g0 w0 (b.atR a k) cs w):Tk lT Stop Q g0 w0 (b.atR a (.code (.cond (.tmp x) .skip (.refuse ""))::k)) cs w:=by
 refine Tk.cond hS q (d.get c) ?_;cases q with
 |true=>exact Tk.plain hS rfl (next rfl)
 |false=>exact Tk.refuse hS
def j4{x}(d:Has F N ds a)(c:F.lookup x=some (.bool q))(next:q=false→Tk lT Stop Q g0 w0 (b.atR a k) cs w):Tk lT Stop Q g0 w0 (b.atR a (.code (.cond (.tmp x) (.refuse "") .skip)::k)) cs w:=by
 refine Tk.cond hS q (d.get c) ?_;cases q with
 |false=>exact Tk.plain hS rfl (next rfl)
 |true=>exact Tk.refuse hS
def Xu{v0 v1:Value}(c:Has [(0,v0),(1,v1)] 36 [] a)
 (next:∀(s:dQ) (ex:List Value) (a':Act),v0= .agg (s.cells++ex.toArray)->1<=s.count->s.count<65537->0<=s.width/\s.width<9->0<=s.q/\s.q<4294967296->s.id.size<65536->Has [(1,v1),(3, .agg s.cells),(10, .i s.count),(13, .string s.links)] 36 [] a'->
   Tk lT Stop Q g0 w0 (b.atR a' (.code (.seq (.region 6 Xv false) (.seq (.cond (.tmp 22) (.refuse "") .skip) (.seq (.cond (.tmp 27) (.refuse "") .skip) (.seq (.cond (.tmp 28) (.refuse "") .skip) (.seq (.region 1 Xx false) (.seq (.block 0 (.loop qW)) (.seq (.region 5 Xw false) .ret)))))))::k)) cs (w.alloc (.cells (s.cells++ex.toArray) 119))):
 Tk lT Stop Q g0 w0 (b.atR a (.code oV::k)) cs w:=by
 refine Tk.plain hS rfl (Tk.region hS (L:=[0,1,2,3,4,5,6,7,8,9,10,11,12,13,14,15,16,17,18,19,20,21,22,23,24,25,26,27,28,29,30,31]) rfl ?_);refine O9 hS c 6 0 d_ rfl rfl λZ f S a u c=> ?_;obtain⟨c0,c1,c2,c3,c4,c5,c6,c7,c8,c9,C,B,r,rfl⟩:=Qm S;refine Tk.op hS c 2 (.box 119 (.tmp 0)) d_ rfl s_ (v:= .pk w.heap.size 0) (w':=w.alloc (.cells (c0::c1::c2::c3::c4::c5::c6::c7::c8::c9::C::B::r:List Value).toArray 119)) (λo e=> ?_) λa c=> ?_
 .have h:=(mg lT (w:=w) (ev:=a.eval) e).1;rw[c.G 0,f]at h;exact h
 have R:=aY w (.cells (c0::c1::c2::c3::c4::c5::c6::c7::c8::c9::C::B::r:List Value).toArray 119);refine Tk.op hS c 3 (.load 119 (.tmp 2)) d_ rfl s_ (λo e=>Mb e (c.G 2) R) λa c=>Tk.op hS c 5 (.field 119 (.tmp 3) 0) d_ rfl s_ (λo e=>fs0 e (c.G 3)) λa c=>Tk.op hS c 6 (.field 115 (.tmp 5) 0) d_ rfl s_ (λo e=>fk0 e (c.G 5)) λa c=>qR hS c 7 6 d_ rfl rfl λH e0 a c=> ?_;subst e0;refine Tk.op hS c 6 (.field 115 (.tmp 5) 1) d_ rfl s_ (λo e=>fk1 e (c.G 5)) λa c=>qR hS c 7 6 d_ rfl rfl λG e1 a c=> ?_;subst e1;refine Tk.op hS c 8 (.field 115 (.tmp 5) 2) d_ rfl s_ (λo e=>fk2 e (c.G 5)) λa c=>qR hS c 9 8 d_ rfl rfl λD e2 a c=> ?_;subst e2;refine Tk.op hS c 6 (.field 115 (.tmp 5) 3) d_ rfl s_ (λo e=>fk3 e (c.G 5)) λa c=>qR hS c 7 6 d_ rfl rfl λF e3 a c=> ?_;subst e3;refine Tk.op hS c 6 (.field 115 (.tmp 5) 4) d_ rfl s_ (λo e=>fk4 e (c.G 5)) λa c=>kF hS c 7 6 0 d_ rfl rfl λP e4 a c=> ?_;subst e4;refine Tk.op hS c 11 (.field 115 (.tmp 5) 5) d_ rfl s_ (λo e=>fk5 e (c.G 5)) λa c=>kF hS c 16 11 0 d_ rfl rfl λO e5 a c=> ?_;subst e5;refine Tk.op hS c 10 (.field 115 (.tmp 5) 6) d_ rfl s_ (λo e=>fk6 e (c.G 5)) λa c=>kF hS c 15 10 65537 d_ rfl rfl λi6 e6 a c=> ?_;subst e6;refine Tk.op hS c 6 (.field 115 (.tmp 5) 7) d_ rfl s_ (λo e=>fk7 e (c.G 5)) λa c=>kF hS c 7 6 0 d_ rfl rfl λN e7 a c=> ?_;subst e7;refine Tk.op hS c 12 (.field 119 (.tmp 3) 1) d_ rfl s_ (λo e=>fs1 e (c.G 3)) λa c=>kF hS c 18 12 0 d_ rfl rfl λM e8 a c=> ?_;subst e8;refine Tk.op hS c 6 (.field 119 (.tmp 3) 2) d_ rfl s_ (λo e=>fs2 e (c.G 3)) λa c=>qR hS c 7 6 d_ rfl rfl λE e9 a c=> ?_;subst e9;refine Tk.op hS c 13 (.field 119 (.tmp 3) 3) d_ rfl s_ (λo e=>fs3 e (c.G 3)) λa c=>qR hS c 7 13 d_ rfl rfl λj Y a c=> ?_;subst Y;refine Tk.op hS c 6 (.field 119 (.tmp 3) 4) d_ rfl s_ (λo e=>Y8 e (c.G 3)) λa c=>qR hS c 7 6 d_ rfl rfl λi X a c=> ?_;subst X;refine kF hS c 14 10 1 d_ rfl rfl λa3 W a c=> ?_;cases W;refine kF hS c 17 11 9 d_ rfl rfl λa2 V a c=> ?_;cases V;refine kF hS c 19 12 4294967296 d_ rfl rfl λa1 U a c=> ?_;cases U;refine kF hS c 20 9 65536 d_ rfl rfl λa0 T a c=> ?_;cases T;refine Tk.plain hS rfl (Tk.plain hS rfl ?_);refine j4 hS c (x:=14) rfl λK=>Tk.plain hS rfl ?_;refine BI hS c (x:=15) rfl λJ=>Tk.plain hS rfl ?_;refine j4 hS c (x:=16) rfl λq=>Tk.plain hS rfl ?_;refine BI hS c (x:=17) rfl λp=>Tk.plain hS rfl ?_;refine j4 hS c (x:=18) rfl λm=>Tk.plain hS rfl ?_;refine BI hS c (x:=19) rfl λl=>Tk.plain hS rfl ?_;refine BI hS c (x:=20) rfl λI=> ?_;simp only[decide_eq_true_eq,decide_eq_false_iff_not,aQ5]at K J q p m l I;obtain⟨n,hn⟩:∃n:Nat,i6=n:=⟨i6.toNat,(YO o_).symm⟩;subst hn;have z:(dQ.mk H G D F P O n N M E j i).cells++r.toArray=(.string H:: .string G:: .string D:: .string F:: .i P:: .i O:: .i n:: .i N:: .i M:: .string E:: .string j:: .string i::r:List Value).toArray:=by simp[dQ.cells]
 have g:=next ⟨H,G,D,F,P,O,n,N,M,E,j,i⟩ r a (f.trans (by rw[z])) (by grind) (by grind) ⟨q,p⟩ ⟨m,l⟩ (by grind)
 rw[z]at g;refine g ?_;refine c.sub λd v A=> ?_;by_cases q1:d=1
 .subst q1;exact A
 by_cases q3:d=3
 .subst q3;exact A
 by_cases y:d=10
 .subst y;exact A
 by_cases t:d=13
 .subst t;exact A
 simp[ZU,show(d==1)=false from by simp_all,show(d==3)=false from by simp_all,show(d==10)=false from by simpa using y,show(d==13)=false from by simpa using t]at A
end
section
variable{y:Operand}
def F0(c:o.op= .call {callee:= .builtin .len,args:=#[.tmp 1],argTypes:=#[24]})(d:ev (.tmp 1)=v):(∃a b cap,v= .slice a b cap/\(execOp ev o).run lT w= .ok (.value (.i (b:Nat))) w)\/QQ lT ev o w:=by
 have e:lT.underlying 24=some (.slice 3):=k_
 cases v with
 |slice a b cap=>exact .inl ⟨a,b,cap,rfl,by simp[execOp,c,resolve,d,invoke,builtin,YQ,run_underlying e,goInt]⟩
 |_=>exact .inr ⟨_,w,by simp[execOp,c,resolve,d,invoke,builtin,YQ,run_underlying e];rfl, .inl ⟨_,rfl⟩⟩
def Py{a}{b cap}(c:o.op= .call {callee:= .builtin .len,args:=#[.tmp 1],argTypes:=#[24]})(d:ev (.tmp 1)= .slice a b cap):(execOp ev o).run lT w= .ok (.value (.i (b:Nat))) w:=by
 have e:lT.underlying 24=some (.slice 3):=k_
 simp[execOp,c,resolve,d,invoke,builtin,YQ,run_underlying e,goInt]
def CW{p}{c}(b:o.op= .binOp .eql 24 (.tmp 1) (.const (.slice none 0 0)) 24)(f:ev (.tmp 1)= .slice p l c)(d:ev (.const (.slice none 0 0))= .slice none 0 0):(execOp ev o).run lT w= .ok (.value (.bool p.isNone)) w:=by
 have h:(do pure (.value (←(do eqGuard .eql 24 (.tmp 1) (.const (.slice none 0 0)) (.slice none l c) (.slice none 0 0);binOp .eql 24 (.slice none l c) (.slice none 0 0)))):Sem Next).run lT w= .ok (.value (.bool true)) w:=k_
 have g (a:Addr):(do pure (.value (←(do eqGuard .eql 24 (.tmp 1) (.const (.slice none 0 0)) (.slice (some a) l c) (.slice none 0 0);binOp .eql 24 (.slice (some a) l c) (.slice none 0 0)))):Sem Next).run lT w= .ok (.value (.bool false)) w:=k_
 simp[execOp,b,f,d];cases p with
 |none=>exact h
 |some a=>exact g a
def Fi{len cap}{a}(b:o.op= .indexAddr 24 x y)(d:ev x= .slice (some a) len cap)(c:ev y= .i n)(h:n<len):eX ev o w (.pointer (some (a.add n))):=
 (dI (k_:lT.underlying 24=some (.slice 3)) s_ b d c h).1
def JC{a}{u}(h:(as_ 3 (.pointer (some a))).run lT w= .ok u w'):w'=w:=by
 have b:(isAgg 3).run lT w= .ok false w:=k_
 simp only[as_,VJ,loadVar,pure_bind,Rk,b,Zu]at h;simp only[BZ,↓reduceIte]at h;unfold load at h;rw[J2]at h;split at h
 .cases h;rfl
 .split at h
  .simp_all
  .cases h
def Px{a}{v}(h:(as_ 3 (.pointer (some a))).run lT w= .halt (.panic v) w'):False:=by
 have c:(isAgg 3).run lT w= .ok false w:=k_
 simp only[as_,VJ,loadVar,pure_bind,Rk,c,Zu]at h;simp only[BZ,↓reduceIte]at h;unfold load at h;rw[J2]at h;split at h
 .cases h
 .split at h
  .cases h
  .rename_i b;simp at h;exact rn b _ h.1
def EX{a}(f:bE w)(c:o.op= .load 3 x)(d:ev x= .pointer (some a)):(∃u,(as_ 3 (.pointer (some a))).run lT w= .ok u w/\(execOp ev o).run lT w= .ok (.value u) w)\/∃h w',(execOp ev o).run lT w= .halt h w'/\fR h:=by
 simp only[execOp,c,d];cases b:(as_ 3 (.pointer (some a))).run lT w with
 |ok u w'=>
  obtain rfl:=JC b;simp_all
 |halt h w'=>
  refine .inr ⟨h,w',by simp[b],(eo (iG (ρ:=id) uv.same 3 (.pointer (some a))) w f h w' b).resolve_right λ⟨v,e⟩=>Px (by rw[b,e])⟩
def GV(g:0<n)(k:n<=65536)(a:o.op= .makeSlice 43 x y)(e:ev x= .i n)(d:ev y= .i n):
 (execOp ev o).run lT w= .ok (.value (.sk w.heap.size n n)) (w.alloc (.cells (ar6 n (.string ⟨#[]⟩)) 9)):=by
 have f:lT.underlying 43=some (.slice 9):=k_
 have b:DN.wrap (n:Int)=n:=by rw[as3];omega
 have h:Tryz.t9.bytes=16:=k_
 have c:¬(281474976710656<16*(n:Int)):=o_
 have j:¬n=0:=o_
 simp[execOp,a,e,d,ZB,run_underlying f,b,c,askRoom,newRow,h,j,go_sem];refine congrArg (λz=>aH7 (aI2 (Value.sk w.heap.size n n)) (w.alloc (aE7 z 9))) (aw_ s_ λi m l=> ?_)
 grind
end
def Ae(KS:List Int)(s:dQ)(dig:Nat->Int)(c:Nat):Value:= .string (lA KS s c (dig c) (s.links.extract (c*32) ((c+1)*32)))
def oL(KS:List Int)(s:dQ)(dig:Nat->Int)(n i:Nat):Array Value:=aw8 λc:Fin n=>if c.val<i then Ae KS s dig c.val else .string ⟨#[]⟩
def Ya(v1:Value)(wE:World)(dig:Nat->Int)(c:Nat):Prop:=∃ga glen gcap,v1= .slice (some ga) glen gcap/\c<glen/\(0<=dig c/\dig c<256)/\∃wc,Bw wE wc/\(as_ 3 (.pointer (some (ga.add c)))).run (aI true prog) wc= .ok (.int .i64 (dig c)) wc
def Dl(KS)(s)(dig)(n):oL KS s dig n 0=ar6 n (.string ⟨#[]⟩):=by
 apply aw_
 .simp[oL]
 .intro i b a;simp[oL]
def Dn(KS)(s)(dig)(n):oL KS s dig n n=aw8 λc:Fin n=>Ae KS s dig c.val:=by
 apply aw_
 .simp[oL]
 .intro i b a;simp[oL]
def Dm{s}{dig dig'}(h:∀c,c<i->dig' c=dig c):(oL KS s dig n i).setIfInBounds i (Ae KS s dig' i)=oL KS s dig' n (i+1):=by
 apply aw_
 .simp[oL]
 .intro j f d;have b:j<n:=by simpa[oL]using d
  rw[Array.getElem_setIfInBounds (by simp_all)];simp[oL,Array.getElem_ofFn];by_cases e:i=j
  .simp_all
  .rw[if_neg e];by_cases a:j<i
   .rw[if_pos a,if_pos o_];unfold Ae;rw[h j a]
   grind
def kI{cs}(h:w.heap[b]?=some (.cells cs t)):(w.setCell ⟨b,i,none⟩ v).heap[b]?=some (.cells (cs.setIfInBounds i v) t):=by
 simp[JX]
 grind
def Yc(c:0<w.heap.size)(b:Bw w w')(h:w.rangeAt 0 0 (aQ KS)):w'.rangeAt 0 0 (aQ KS):=λj v a=>by have:=h j v a;unfold AT at this⊢;exact b.block 0 c▸this
section
variable{Stop:Goroutine->World->Prop}(hstop:∀g w,Stop g w->∀τ d,∃o w1 es,stepG (aI true prog) true g (my w τ d)= .ended o w1 es)(hS:∀g w,Stop g w->g.frame.mode= .returning/\g.callers=[]){Q:Prop}{g0:Goroutine}
 (hq:∀g2 w2,StepsIn (λ_=>True) (aI true prog) (solo g0 w0) (solo g2 w2)->bE w2)
 {b:Frame} {k:List Item} {cs:List Frame} {KS:List Int} (hKl:KS.length=64) {wE:World} (hK:wE.rangeAt 0 0 (aQ KS)) (h0:0<wE.heap.size) {s:dQ} {n bL:Nat} {v1:Value}
 (hn:s.count=n) {ga:Addr} {glen gcap:Nat} (hv1:v1= .slice (some ga) glen gcap) (hgl:n<=glen) (hn1:1<=n) (hn2:n<65537) (hwd:0<=s.width/\s.width<9) (hqq:0<=s.q/\s.q<4294967296) (hid:s.id.size<65536) (hlk:n*32<=s.links.size) (hbL:wE.heap.size<=bL)
include hstop hS hq hKl hK h0 hn hv1 hgl hn1 hn2 hwd hqq hid hlk hbL
def Od(next:∀(dig:Nat->Int) (a:Act) (w:World),(∀c,c<n->Ya v1 wE dig c)->Bw wE w->w.heap[bL]?=some (.cells (oL KS s dig n n) 9)->Has [(23, .sk bL n n)] 36 [] a->Tk (aI true tP) Stop Q g0 w0 (b.atR a k) cs w):
 ∀(j i:Nat) (dig:Nat->Int) (a:Act) (w:World),n- i=j->i<=n->(∀c,c<i->Ya v1 wE dig c)->Bw wE w->w.heap[bL]?=some (.cells (oL KS s dig n i) 9)->
  Has [(1,v1),(3, .agg s.cells),(10, .int .i64 n),(13, .s s.links),(23, .sk bL n n),(24, .int .i64 i)] 36 [] a->Tk (aI true tP) Stop Q g0 w0 (b.atR a (.code qW:: .inLoop qW:: .inBlock 0::k)) cs w:=by
 intro j;induction j with
 |zero=>
  intro i dig a w hj hi q g l f;have p:i=n:=o_
  subst p;refine Tk.plain hS rfl (Tk.plain hS rfl (Tk.region hS (L:=[0]) rfl ?_));refine Tk.op hS f 25 (.binOp .lss 3 (.tmp 24) (.tmp 10) 3) d_ rfl s_ (λo m=>(gy m (f.get (d:=24) rfl) (f.get (d:=10) rfl)).1) λa f=>Tk.plain hS rfl (Tk.cond hS (decide ((i:Int)<i)) (f.get (d:=25) rfl) ?_);rw[show(decide ((i:Int)<i))=false by simp];refine Tk.plain hS rfl (next dig a w q g l (f.sub λd v hd=> ?_));by_cases U:d=23
  .subst U;exact hd
  grind
 |succ j ih=>
  intro i dig a w hj hi q g l f;have p:i<n:=o_
  refine Tk.plain hS rfl (Tk.plain hS rfl (Tk.region hS (L:=[0]) rfl ?_));refine Tk.op hS f 25 (.binOp .lss 3 (.tmp 24) (.tmp 10) 3) d_ rfl s_ (λo m=>(gy m (f.get (d:=24) rfl) (f.get (d:=10) rfl)).1) λa f=>Tk.plain hS rfl (Tk.cond hS (decide ((i:Int)<n)) (f.get (d:=25) rfl) ?_);rw[show(decide ((i:Int)<n))=true by simpa using p];refine Tk.plain hS rfl (Tk.plain hS rfl (Tk.region hS (L:=[0,1,2,3]) rfl ?_));have z:i<glen:=o_
  have Z:=Fi (w:=w) (ev:=a.eval) (o:=fU (some 26) (.indexAddr 24 (.tmp 1) (.tmp 24))) (x:= .tmp 1) (y:= .tmp 24) rfl ((f.get (d:=1) rfl).trans hv1) (f.get (d:=24) rfl) z;refine Tk.ran hS (o:=fU (some 26) (.indexAddr 24 (.tmp 1) (.tmp 24))) rfl rfl (by simp[fU]) Z ?_;have f:=f.put (d:=26) d_ (.pointer (some (ga.add i)));refine Tk.calm hq λG=> ?_;refine(EX (w:=w) (ev:=(a.put (some 26) (.pointer (some (ga.add i)))).eval) (o:=fU (some 27) (.load 3 (.tmp 26))) (x:= .tmp 26) G rfl (f.get (d:=26) rfl)).elim (λ⟨u,Y,X⟩=> ?_) λ⟨x,T,Z,hx⟩=>Tk.dead hS (o:=fU (some 27) (.load 3 (.tmp 26))) rfl rfl (by simp[fU]) Z hx;refine Tk.ran hS (o:=fU (some 27) (.load 3 (.tmp 26))) rfl rfl (by simp[fU]) X ?_;have f:=f.put (d:=27) d_ u;refine kF hS f 28 27 0 d_ rfl rfl λd e a f=> ?_;subst e;refine kF hS f 29 27 256 d_ rfl rfl λd2 e a f=> ?_;cases e;refine Tk.plain hS rfl (Tk.plain hS rfl ?_);refine j4 hS f (x:=28) rfl λB=>Tk.plain hS rfl ?_;refine BI hS f (x:=29) rfl λA=> ?_;simp only[decide_eq_true_eq,decide_eq_false_iff_not,aQ5]at B A;refine Tk.region hS (L:=[0,1,2,3,4,5,6,7]) rfl ?_;refine Tk.op hS f 30 (.binOp .mul 3 (.tmp 24) (.const (.int .i64 32)) 3) d_ rfl s_ (λo m=>(kD m (f.get (d:=24) rfl) rfl o_).1) λa f=>Tk.op hS f 31 (.binOp .add 3 (.tmp 24) (.const (.int .i64 1)) 3) d_ rfl s_ (λo m=>(oT m (f.get (d:=24) rfl) rfl o_).1) λa f=>Tk.op hS f 32 (.binOp .mul 3 (.tmp 31) (.const (.int .i64 32)) 3) d_ rfl s_ (λo m=>(kD m (f.get (d:=31) rfl) rfl o_).1) λa f=> ?_;have a4:a.eval (.tmp 30)= .int .i64 ((i*32:Nat):Int):=(f.get (d:=30) rfl).trans (by simp_all);have a3:a.eval (.tmp 32)= .int .i64 (((i+1)*32:Nat):Int):=(f.get (d:=32) rfl).trans (by simp_all);refine Tk.op hS f 33 (.slice 9 (.tmp 13) (some (.tmp 30)) (some (.tmp 32)) none) d_ rfl s_ (λo m=>(eC m (f.get (d:=13) rfl) a4 a3 o_ o_).1) λa f=> ?_;have D:Ga s i d (s.links.extract (i*32) ((i+1)*32)):=⟨hwd,hqq,hid,o_,⟨B,A⟩,by rw[as6];omega⟩;have H:(execOp a.eval (fU (some 34) (.call {callee:= .value (.func 120),args:=#[.tmp 3, .tmp 24, .tmp 27, .tmp 33],argTypes:=#[119,3,3,9]}))).run (aI true tP) w= .ok (.enter 120 #[.agg s.cells, .int .i64 i, .int .i64 d, .s (s.links.extract (i*32) ((i+1)*32))]) w:=
   (bI (w:=w) (o:=fU (some 34) _) rfl (by simp[f.get (d:=3) rfl,f.get (d:=24) rfl,f.get (d:=27) rfl,f.get (d:=33) rfl]) (rI (P:=aI true tP) lf120 _)).1
  refine Tk.call hstop hS (o:=fU (some 34) _) rfl rfl (by simp[fU]) H (R:=λv T=>v= .s (lA KS s i d (s.links.extract (i*32) ((i+1)*32)))/\Bw w T) (λcs=> ?_) λv V hv=> ?_
  .obtain⟨e,T,fr,⟨U,q2⟩,q3⟩:=HI KS s i d _ D w (Yc h0 g hK) hKl (ar4 h0 g.size) cs;exact⟨e,T,fr,⟨_,U,rfl,q2⟩,q3⟩
  obtain⟨rfl,r⟩:=hv;have f:=f.put (d:=34) d_ (.s (lA KS s i d (s.links.extract (i*32) ((i+1)*32))));have h:=(r.block bL (gA l).1).trans l;have a0:=(dI (ql:=true) (w:=V) (ev:=(a.put (fU (some 34) (.call {callee:= .value (.func 120),args:=#[.tmp 3, .tmp 24, .tmp 27, .tmp 33],argTypes:=#[119,3,3,9]})).dst (.s (lA KS s i d (s.links.extract (i*32) ((i+1)*32))))).eval) (o:=fU (some 35) (.indexAddr 43 (.tmp 23) (.tmp 24))) (t:=43) (e:=9) k_ (λw=>k_) rfl (f.get (d:=23) rfl) (f.get (d:=24) rfl) p).1;refine Tk.ran hS (o:=fU (some 35) (.indexAddr 43 (.tmp 23) (.tmp 24))) rfl rfl (by simp[fU]) a0 ?_;have f:=f.put (d:=35) d_ (.pointer (some ((⟨bL,0,none⟩:Addr).add i)));have W:=(ff (ql:=true) (w:=V) (ev:=((a.put (some 34) (.s (lA KS s i d (s.links.extract (i*32) ((i+1)*32))))).put (some 35) (.pointer (some ((⟨bL,0,none⟩:Addr).add i)))).eval) (o:=fU none (.store 9 (.tmp 35) (.tmp 34))) (t:=9) (b:=bL) (k:=i) (v:= .s (lA KS s i d (s.links.extract (i*32) ((i+1)*32)))) (v0:= .string ⟨#[]⟩) rfl rfl k_ rfl
   ((f.get (d:=35) rfl).trans (by rw[rC,as5])) (f.get (d:=34) rfl) (by rw[aH h];simp[oL,p]) (by simp[If,h])).1
  refine Tk.did hS (o:=fU none (.store 9 (.tmp 35) (.tmp 34))) rfl rfl (by simp[fU]) W ?_;have K:=λ(o:Oper) (m:o.op= .move (.tmp 31))=>(cH (w:=V.setCell ⟨bL,i,none⟩ (.s (lA KS s i d (s.links.extract (i*32) ((i+1)*32))))) (ev:=((a.put (some 34) (.s (lA KS s i d (s.links.extract (i*32) ((i+1)*32))))).put (some 35) (.pointer (some ((⟨bL,0,none⟩:Addr).add i)))).eval) (aI true tP) (.inl m)).1;rw[f.get (d:=31) rfl]at K;refine Tk.op hS f 24 (.move (.tmp 31)) d_ rfl s_ K λa f=>Tk.plain hS rfl (Tk.plain hS rfl ?_);have C:∀c,c<i->(λc=>if c=i then d else dig c) c=dig c:=λc hc=>by grind
  refine ih (i+1) (λc=>if c=i then d else dig c) a _ o_ o_ (λc hc=> ?_) ((aD g g.size r).trans (eJ _ _ _ hbL)) ?_ (f.sub λe v E=> ?_)
  .by_cases F:c=i
   .subst F;exact⟨ga,glen,gcap,hv1,z,by simp_all,w,g,by simpa using Y⟩
   .obtain⟨a2,I,J,x1,x2,x3,wc,x4,x5⟩:=q c o_;exact⟨a2,I,J,x1,x2,by simp_all,wc,x4,by simp_all⟩
  .rw[kI h,←Dm C];unfold Ae;simp
  .by_cases M:e=24
   .subst M;have a1:some (.int .i64 ((i+1:Nat):Int))=some v:=E;simp_all
   by_cases e1:e=1
   .subst e1;exact E
   by_cases e3:e=3
   .subst e3;exact E
   by_cases S:e=10
   .subst S;exact E
   by_cases O:e=13
   .subst O;exact E
   by_cases N:e=23
   .subst N;exact E
   simp[ZU,show(e==24)=false from by simpa using M,show(e==1)=false from by simp_all,show(e==3)=false from by simp_all,show(e==10)=false from by simpa using S,show(e==13)=false from by simpa using O,show(e==23)=false from by simpa using N]at E
end
structure NH (PL:Program) (KS:List Int) (Stop:Goroutine->World->Prop) (args:Array Value) (wE:World) (c:Frame) (cs:List Frame) (s:dQ) (ex:List Value) (ga:Addr) (glen gcap:Nat) (dig:Nat->Int) (bL:Nat) (w2:World):Prop where
 a0:args[0]?=some (.agg (s.cells++ex.toArray))
 a1:args[1]?=some (.slice (some ga) glen gcap)
 pos:1<=s.count
 small:s.count<=65536
 glen:s.count<=glen
 links:s.count*32<=s.links.size
 fine:∀i,i<s.count->Ga s i (dig i) (s.links.extract (i*32) ((i+1)*32))
 digs:∀i,i<s.count->∃wc,Bw wE wc/\(as_ 3 (.pointer (some (ga.add i)))).run PL wc= .ok (.int .i64 (dig i)) wc
 keep:Bw wE w2
 low:wE.heap.size<=bL
 list:w2.heap[bL]?=some (.cells (aw8 λi:Fin s.count=>Ae KS s dig i.val) 9)
 steps:StepsIn (λ_=>True) PL (solo (bT PL 94 args (c::cs)) wE) (solo (cD (c.finish (.sk bL s.count s.count)) cs) w2)
 tree:iy PL Stop (cD (c.finish (.sk bL s.count s.count)) cs) w2
def zp(c:N<=args.size+(N- args.size))(b:i<N)(h:(Act.mk (args++ar6 (N- args.size) undef) []).eval (.tmp i)=v)(hv:v≠undef):args[i]?=some v:=by
 refine Lg (k:=N- args.size) ?_ hv;have a:i<(args++ar6 (N- args.size) undef).size:=by simp;omega
 rw[BY a];have e:(args++ar6 (N- args.size) undef).getD i undef=v:=h;rw[JQ,BY a]at e;simp_all
def Vk{j:Goroutine->World->Prop}(r:∀g w,j g w->∀τ d,∃o w1 es,stepG (aI true tP) true g (my w τ d)= .ended o w1 es)(f:∀g w,j g w->g.frame.mode= .returning/\g.callers=[]){c:Frame}
 (hq:∀g2 z,StepsIn (λ_=>True) (aI true tP) (solo (bT (aI true tP) 94 args (c::cs)) wE) (solo g2 z)->bE z)  (a5:KS.length=64) (hK:wE.rangeAt 0 0 (aQ KS)) (h0:0<wE.heap.size)
 (ht:iy (aI true tP) j (bT (aI true tP) 94 args (c::cs)) wE):∃s ex ga glen gcap dig bL z,NH (aI true tP) KS j args wE c cs s ex ga glen gcap dig bL z:=by
 have p:bT (aI true tP) 94 args (c::cs)=cD ((base 94).atR ⟨args++ar6 (36- args.size) undef,[]⟩ [.code oV]) (c::cs):=by unfold bT;rw[enter_at args uQ rfl];rfl
 suffices h:Tk (aI true tP) j (∃s ex ga glen gcap dig bL z,NH (aI true tP) KS j args wE c cs s ex ga glen gcap dig bL z) (bT (aI true tP) 94 args (c::cs)) wE ((base 94).atR ⟨args++ar6 (36- args.size) undef,[]⟩ [.code oV]) (c::cs) wE by
  refine h ?_ ?_
  .simp_all
  .rw[←p];exact .refl _
 have b:Has [(0,(Act.mk (args++ar6 (36- args.size) undef) []).eval (.tmp 0)),(1,(Act.mk (args++ar6 (36- args.size) undef) []).eval (.tmp 1))] 36 [] ⟨args++ar6 (36- args.size) undef,[]⟩:=by
  have m:36<=(args++ar6 (36- args.size) undef).size:=by simp;omega
  refine⟨rfl,m,λd v B=> ?_⟩;have C:∀d,d<36->(args++ar6 (36- args.size) undef)[d]?=some ((args++ar6 (36- args.size) undef).getD d undef):=λd B=>by rw[JQ,BY o_];rfl
  by_cases V:d=0
  .subst V;have:some _=some v:=B;rw[←this];exact C 0 o_
  by_cases U:d=1
  .subst U;have:some _=some v:=B;rw[←this];exact C 1 o_
  grind
 refine Xu f b λs ex a V G a1 D F J b=> ?_;have a4:args[0]?=some (.agg (s.cells++ex.toArray)):=zp o_ o_ V (by simp[undef]);refine Tk.plain f rfl (Tk.region f (L:=[0,1,2,3,4,5]) rfl ?_);refine Tk.op f b 21 (.binOp .mul 3 (.tmp 10) (.const (.int .i64 32)) 3) d_ rfl s_ (λo k=>(kD k (b.get (d:=10) rfl) rfl o_).1) λa b=>Tk.op f b 7 (ij 13) d_ rfl (by simp[ij]) (λo k=>Mc k (b.get (d:=13) rfl)) λa b=>Tk.op f b 22 (Jv 7 21) d_ rfl (by simp[Jv]) (λo k=>(gy k (b.get (d:=7) rfl) (b.get (d:=21) rfl)).1) λa b=> ?_;refine(F0 (w:=wE.alloc (.cells (s.cells++ex.toArray) 119)) (ev:=a.eval) (o:=fU (some 26) (.call {callee:= .builtin .len,args:=#[.tmp 1],argTypes:=#[24]})) rfl (b.get (d:=1) rfl)).elim (λ⟨O,glen,gcap,l,A⟩=> ?_) λ⟨x,w',A,hx⟩=>Tk.stuck f (o:=fU (some 26) (.call {callee:= .builtin .len,args:=#[.tmp 1],argTypes:=#[24]})) rfl rfl (by simp[fU]) A hx;refine Tk.ran f (o:=fU (some 26) (.call {callee:= .builtin .len,args:=#[.tmp 1],argTypes:=#[24]})) rfl rfl (by simp[fU]) A ?_;have b:=b.put (d:=26) d_ (.int .i64 (glen:Nat));refine Tk.op f b 27 (Jv 26 10) d_ rfl (by simp[Jv]) (λo k=>(gy k (b.get (d:=26) rfl) (b.get (d:=10) rfl)).1) λa b=>Tk.op f b 28 (.binOp .eql 24 (.tmp 1) (.const (.slice none 0 0)) 24) d_ rfl s_ (λo k=>CW k ((b.get (d:=1) rfl).trans l) rfl) λa b=>Tk.plain f rfl (Tk.plain f rfl ?_);refine j4 f b (x:=22) rfl λY=>Tk.plain f rfl ?_;refine j4 f b (x:=27) rfl λX=>Tk.plain f rfl ?_;refine j4 f b (x:=28) rfl λW=> ?_;obtain⟨ga,rfl⟩:∃ga,O=some ga:=by cases O with|none=>cases W|some g=>simp_all
 simp only[decide_eq_false_iff_not,aQ5]at Y X;have I:s.count*32<=s.links.size:=o_
 have K:s.count<=glen:=o_
 refine Tk.plain f rfl (Tk.region f (L:=[0,1]) rfl ?_);refine Tk.op f b 23 (.makeSlice 43 (.tmp 10) (.tmp 10)) d_ rfl s_ (λo k=>GV o_ o_ k (b.get (d:=10) rfl) (b.get (d:=10) rfl)) λa b=>Tk.op f b 24 (.move (.const (.int .i64 0))) d_ rfl s_ (λo k=>(cH (aI true tP) (.inl k)).1) λa b=>Tk.plain f rfl (Tk.plain f rfl (Tk.plain f rfl (Tk.plain f rfl ?_)));have m:=aJ wE (.cells (s.cells++ex.toArray) 119);have N:=aR wE (.cells (s.cells++ex.toArray) 119);have a3:=aR (wE.alloc (.cells (s.cells++ex.toArray) 119)) (.cells (ar6 s.count (.string ⟨#[]⟩)) 9);have a2:=aY (wE.alloc (.cells (s.cells++ex.toArray) 119)) (.cells (ar6 s.count (.string ⟨#[]⟩)) 9);refine Od r f hq a5 hK h0 rfl l K G a1 D F J I (bL:=(wE.alloc (.cells (s.cells++ex.toArray) 119)).heap.size) (by rw[m];omega) (n:=s.count) (v1:=(Act.mk (args++ar6 (36- args.size) undef) []).eval (.tmp 1)) ?_ s.count 0 (λ_=>0) a _ rfl (Nat.zero_le _) (λc hc=>absurd hc (aD4 c)) (aD N N.size a3) (by rw[Dl];exact a2) (b.sub λe v y=> ?_)
 .intro dig a w q M u b;refine Tk.plain f rfl (Tk.region f (L:=[0]) rfl ?_);have H:=λ(o:Oper) (k:o.op= .move (.tmp 23))=>(cH (w:=w) (ev:=a.eval) (aI true tP) (.inl k)).1;rw[b.get (d:=23) rfl]at H;refine Tk.op f b 4 (.move (.tmp 23)) d_ rfl s_ H λa b=> ?_;have A:=sj (P:=aI true tP) (fn:=wl) (t:=4) rfl (b.slot 4 _ rfl) w;refine Tk.plain f rfl (Tk.ends f rfl (.inr ⟨_,rfl⟩) (Tk.leave f (.sk ((wE.alloc (.cells (s.cells++ex.toArray) 119)).heap.size) s.count s.count) rfl b.defers uQ A.1 A.2 ?_));intro Z a0;refine⟨s,ex,ga,glen,gcap,dig,_,w,a4,zp o_ o_ l (by simp[undef]),G,o_,K,I,λi hi=> ?_,λi hi=> ?_,M,by rw[m];omega, ?_,a0,Z⟩
  .obtain⟨_,_,_,_,_,B,_⟩:=q i hi;exact⟨D,F,J,o_,B,by rw[as6];omega⟩
  .obtain⟨a8,a6,a7,E,_,_,wc,q1,q2⟩:=q i hi
   grind
  .rw[←Dn];exact u
 .by_cases Q:e=24
  .subst Q;exact y
  by_cases U:e=1
  .subst U;exact y
  by_cases e3:e=3
  .subst e3;exact y
  by_cases T:e=10
  .subst T;exact y
  by_cases S:e=13
  .subst S;exact y
  by_cases R:e=23
  .subst R;exact y
  simp[ZU,show(e==24)=false from by simpa using Q,show(e==1)=false from by simpa using U,show(e==3)=false from by simp_all,show(e==10)=false from by simpa using T,show(e==13)=false from by simpa using S,show(e==23)=false from by simpa using R]at y
end L1
section
open Go Go.Conc Go.RowKit
open Go.ConcN (WgLive)
abbrev i4(P:Program)(ty Wg C n:Nat)(val:Nat->Value)(RO:Nat->Prop):bX:={P:=P,ty:=ty,Wg:=Wg,C:=C,ety:=9,n:=n,val:=val,RO:=RO,mine:=λi c=>c%8=i/\c<n}
structure g8 where
 s:dQ
 /-- what may stand behind its cells-/
 ex:Array Value
 bs:Nat
 bg:Nat
 be:Nat
 ga:Addr
 glen:Nat
 gcap:Nat
 dig:Nat->Int
 /-- where the digits lie-/
 gr:Nat->Prop
 wL:World
 G:Nat
def Vd(N:g8)(n:Nat)(w:World):Prop:=∀w':World,(∀b,N.gr b->w'.heap[b]?=w.heap[b]?)->∀c,c<n->
 (as_ 3 (.pointer (some (N.ga.add c)))).run prog w'= .ok (.int .i64 (N.dig c)) w'/\∀e∈(as_ 3 (.pointer (some (N.ga.add c)))).events prog w' #[],∃a:Addr,e=⟨.cell a,false,false⟩/\N.gr a.block
structure G7 (N:g8) (C n:Nat) (w:World):Prop where
 sig:w.heap[N.bs]?=some (.cells (N.s.cells++N.ex) 119)
 gone:w.heap[N.bg]?=some (.cells #[.slice (some N.ga) N.glen N.gcap] 24)
 ends:w.heap[N.be]?=some (.cells #[.sk C n n] 43)
 digs:Vd N n w
 tab:mq N.wL w
 size:N.G<=w.heap.size
 zero:∃v0,w.cell? ⟨0,0,none⟩=some v0
def mP{N}{ty Wg C}{val}(h:RO N.bs/\RO N.bg/\RO N.be/\(∀b,N.gr b->RO b)/\RO 0):Ii (i4 prog ty Wg C n val RO) (G7 N C n):=λw r d o a=>by
 refine⟨(d _ h.1).trans a.sig,(d _ h.2.1).trans a.gone,(d _ h.2.2.1).trans a.ends,λi p=>a.digs i λb g=>(p b g).trans (d b (h.2.2.2.1 b g)), ?_,as8 a.size o, ?_⟩
 .have⟨c,e,f,m,l,k⟩:=a.tab;exact⟨c,e,f,m,l,(d _ h.2.2.2.2).trans k⟩
 .have⟨j,q⟩:=a.zero;refine⟨j, ?_⟩;rw[←q];unfold AT;simp_all
structure ub (N:g8) (n:Nat) (val:Nat->Value) (PL:Program):Prop where
 env:mu PL prog N.G
 same:∀f (fn:Func),PL.funcs[f]?=some fn->fn.body.isSome=true->jT PL prog f
 here:∃fn fn',PL.funcs[120]?=some fn/\prog.funcs[120]?=some fn'/\fn.ntmps=fn'.ntmps/\fn.body=fn'.body/\∃c,fn.body=some c/\vq 120 c=true
 calm:bE N.wL
 low:2<=N.G/\N.G<=N.wL.heap.size
 tree:∀c,c<n->iy PL (rF 120 8 (· =val c)) (bT PL 120 #[.agg N.s.cells, .int .i64 c, .int .i64 (N.dig c), .string (N.s.links.extract (c*32) ((c+1)*32))] []) N.wL
 plain:∀c,c<n->∃t,val c= .string t
 glen:n<=N.glen
 count:N.s.count=n
 small:n<=65536
 links:n*32<=N.s.links.size
section
variable{N:g8}{ty C:Nat}{val:Nat->Value}{done:Nat->Prop}{k:List Item}
def R2(N:g8)(c:Nat):List (Nat×Value):=[(1, .pt N.bs),(3, .pt N.bg),(4, .pt N.be),(5, .int .i64 c),(6, .string (N.s.links.extract (c*32) ((c+1)*32)))]
def L6(N:g8)(C n:Nat)(val:Nat->Value)(c:Nat):List (Nat×Nat×Value):=[(0,12, .sk C n n),(1,13, .int .i64 c),(2,14, .agg N.s.cells),(3,15, .int .i64 c),(4,16, .slice (some N.ga) N.glen N.gcap),(5,17, .int .i64 c),
 (6,18, .pointer (some (N.ga.add c))),(7,19, .int .i64 (N.dig c)),(8,20, .string (N.s.links.extract (c*32) ((c+1)*32))),(9,21,val c),(10,22, .pointer (some ((⟨C,0,none⟩:Addr).add c)))]
def XS:HU (bP f117 4)=true:=k_
def VD(N)(C n)(val)(c):∀p∈L6 N C n val c,∀q∈L6 N C n val c,p.2.1=q.2.1\/p.1=q.1->p=q:=by intro p b q a h;simp[L6,V4,PI,or_false]at b a;rcases b with rfl|rfl|rfl|rfl|rfl|rfl|rfl|rfl|rfl|rfl|rfl<;>rcases a with rfl|rfl|rfl|rfl|rfl|rfl|rfl|rfl|rfl|rfl|rfl<;>first|rfl|(exfalso;simp at h)
def FQ(N)(C n)(val)(c):∀p∈L6 N C n val c,p.2.1<23/\p.1≠11/\∀q∈R2 N c,q.1≠p.2.1:=by intro p b;simp[L6,V4,PI,or_false]at b;rcases b with rfl|rfl|rfl|rfl|rfl|rfl|rfl|rfl|rfl|rfl|rfl<;>refine⟨s_,s_,λq a=> ?_⟩<;>simp[R2,V4,PI,or_false]at a<;>rcases a with rfl|rfl|rfl|rfl|rfl<;>simp
def W3{c}(h:il (R2 N c) (L6 N C n val c) 23 listed a){d}(b:(m,d,v)∈L6 N C n val c):il (R2 N c) (L6 N C n val c) 23 (listed.setIfInBounds m true) (a.put (some d) v):=
 h.put (FQ N C n val c _ b).1 (FQ N C n val c _ b).2.2 λp f e=>VD N C n val c p f _ b e
def Pg:(∀w,(sizeOf 3).run prog w= .ok 1 w)/\(∀w,(sizeOf 9).run prog w= .ok 1 w):=s_
def da{ev}{V RO}(h:Yl P ev o w v #[]):(execOp ev o).run P w= .ok (.value v) w/\∀e∈(execOp ev o).events P w #[],im V RO e:=⟨h.1,λe a=>by rw[h.2]at a;simp at a⟩
def uW{ev}{V RO}{ad}(b:V ad.block\/RO ad.block)(h:Yl P ev o w v #[⟨.cell ad,false,false⟩]):(execOp ev o).run P w= .ok (.value v) w/\∀e∈(execOp ev o).events P w #[],im V RO e:=⟨h.1,λe a=>by rw[h.2]at a;simp at a;subst a;exact⟨rfl,b.imp id s_⟩⟩
def MG{ev}{V RO}(c:V b\/RO b)(h:Yl P ev o w v (nV b)):(execOp ev o).run P w= .ok (.value v) w/\∀e∈(execOp ev o).events P w #[],im V RO e:=⟨h.1,λe a=>by rw[h.2]at a;obtain⟨k,rfl⟩:=Eo a;exact⟨rfl,c.imp id s_⟩⟩
def IR(s:dQ):bW (.agg s.cells)=true:=rfl
def KD(X:bX)(i:Nat)(V:Nat->Prop)(c:Nat)(w0:World)(listed:Array Bool)(w:World):Prop:=(listed[11]?=some false/\w=w0)\/(listed[11]?=some true/\∃w1,bY X i V w0 w1/\w=w1.setCell (X.at c) (X.val c))
def KD.other{c}(a:m≠11)(h:KD X i V c w0 listed w):KD X i V c w0 (listed.setIfInBounds m true) w:=by unfold KD;rw[sN a];exact h
def S8(D:ub N n val PL)(S:RO N.bs/\RO N.bg/\RO N.be/\(∀b,N.gr b->RO b)/\RO 0){c:Nat}(K:c%8=i/\c<n)(hS:xP (i4 prog ty Wg C n val RO) i (G7 N C n) V done w0)(X:a.defers=[])(hz:23<=a.tmps.size)(hf:∀p∈R2 N c,a.tmps[p.1]?=some p.2)
 (Q:∀a' w,bY (i4 prog ty Wg C n val RO) i V w0 w->Wk (i4 prog ty Wg C n val RO) i V ((rb 117 l).atR a' k) cs (w.setCell ⟨C,c,none⟩ (val c))):
 Wk (i4 prog ty Wg C n val RO) i V ((rb 117 l).atR a (.code (rD f117 4)::k)) cs w0:=by
 have hL:=mP (ty:=ty) (Wg:=Wg) (C:=C) (n:=n) (val:=val) S;have aa:∀w,bY (i4 prog ty Wg C n val RO) i V w0 w->G7 N C n w:=λw r=>(hS.rely hL r).pap;refine Wk.draw λt=> ?_;have T:ZE ((i4 prog ty Wg C n val RO).P.follows .mixedOrders) (bP f117 4) t=Region.linearise .any (bP f117 4) t:=by unfold ZE;rw[show Region.departs (bP f117 4)=false from k_];simp
 rw[T];refine Wk.ordered (FE XS) (λu a w=>il (R2 N c) (L6 N C n val c) 23 u a/\KD (i4 prog ty Wg C n val RO) i V c w0 u w) (λu a w Y h=> ?_) (λu a w m o M a0 j hm q h x=> ?_) t a w0 ⟨⟨X,hz,hf,λp O hl=> ?_⟩, .inl ⟨by rfl,rfl⟩⟩
 .obtain⟨B,L⟩:=h;rcases L with⟨L,_⟩|⟨_,w1,r1,rfl⟩
  .rw[Y 11 d_]at L;cases L
  .exact Wk.plain rfl (Q a w1 r1)
 .obtain⟨B,L⟩:=h;have ab:m<12:=(gA j).1;have Z:∃I,xP (i4 prog ty Wg C n val RO) i (G7 N C n) V I w:=by
   rcases L with⟨_,rfl⟩|⟨_,w1,r1,rfl⟩
   .grind
   .exact⟨_,(hS.rely hL r1).put hL K.2⟩
  have F:∀f,bY (i4 prog ty Wg C n val RO) i V w f->G7 N C n f:=λf r=>(Z.choose_spec.rely hL r).pap;have g:∀{m:Nat} {o:Oper} {d:Nat} (v:Value),(m,d,v)∈L6 N C n val c->o.dst=some d->(∀y,ar3 o y=true)->(∀c,o.op≠ .defer c)->m≠11->(bP f117 4)[m]?=some o->
   (∀f,bY (i4 prog ty Wg C n val RO) i V w f->(execOp a.eval o).run prog f= .ok (.value v) f/\∀e∈(execOp a.eval o).events prog f #[],im V RO e)->
   (∀a' f,il (R2 N c) (L6 N C n val c) 23 (u.setIfInBounds m true) a'/\KD (i4 prog ty Wg C n val RO) i V c w0 (u.setIfInBounds m true) f->Wk (i4 prog ty Wg C n val RO) i V ((rb 117 l).atR a' (.inRegion (bP f117 4) M::k)) cs f)->
   Wk (i4 prog ty Wg C n val RO) i V ((rb 117 l).atR a (.inRegion (bP f117 4) (m::M)::k)) cs w:=λ{m o d} v U A z a5 a8 j H x=>by refine Wk.value v j (z _) a5 H ?_;rw[A];exact x _ _ ⟨W3 B U,L.other a8⟩
  rcases(o_:m=0\/m=1\/m=2\/m=3\/m=4\/m=5\/m=6\/m=7\/m=8\/m=9\/m=10\/m=11)with rfl|rfl|rfl|rfl|rfl|rfl|rfl|rfl|rfl|rfl|rfl|rfl
  .obtain⟨A,s,z⟩:=cL (d:=some 12) (p:= .load 43 (.tmp 4)) j k_;refine g (m:=0) _ (mG (i:=0) rfl) A z (by rw[s];simp) d_ j (λf E=> ?_) x;exact uW (.inr S.2.2.1) (aO uH s (aB (B.fixed _ (mG (i:=2) rfl))) (by rw[aH (F f E).ends];rfl))
  .obtain⟨A,s,z⟩:=cL (d:=some 13) (p:= .move (.tmp 5)) j k_;refine g (m:=1) _ (mG (i:=1) rfl) A z (by rw[s];simp) d_ j (λf E=> ?_) x;have H:=cH (ev:=a.eval) (o:=o) (w:=f) prog (.inl s);rw[(aB (B.fixed _ (mG (i:=3) rfl)))]at H;exact da H
  .obtain⟨A,s,z⟩:=cL (d:=some 14) (p:= .load 119 (.tmp 1)) j k_;refine g (m:=2) _ (mG (i:=2) rfl) A z (by rw[s];simp) d_ j (λf E=> ?_) x;exact MG (.inr S.1) (mz s (aB (B.fixed _ (mG (i:=0) rfl))) (F f E).sig)
  .obtain⟨A,s,z⟩:=cL (d:=some 15) (p:= .move (.tmp 5)) j k_;refine g (m:=3) _ (mG (i:=3) rfl) A z (by rw[s];simp) d_ j (λf E=> ?_) x;have H:=cH (ev:=a.eval) (o:=o) (w:=f) prog (.inl s);rw[(aB (B.fixed _ (mG (i:=3) rfl)))]at H;exact da H
  .obtain⟨A,s,z⟩:=cL (d:=some 16) (p:= .load 24 (.tmp 3)) j k_;refine g (m:=4) _ (mG (i:=4) rfl) A z (by rw[s];simp) d_ j (λf E=> ?_) x;exact uW (.inr S.2.1) (aO sB s (aB (B.fixed _ (mG (i:=1) rfl))) (by rw[aH (F f E).gone];rfl))
  .obtain⟨A,s,z⟩:=cL (d:=some 17) (p:= .move (.tmp 5)) j k_;refine g (m:=5) _ (mG (i:=5) rfl) A z (by rw[s];simp) d_ j (λf E=> ?_) x;have H:=cH (ev:=a.eval) (o:=o) (w:=f) prog (.inl s);rw[(aB (B.fixed _ (mG (i:=3) rfl)))]at H;exact da H
  .obtain⟨A,s,z⟩:=cL (d:=some 18) (p:= .indexAddr 24 (.tmp 16) (.tmp 17)) j k_;refine g (m:=6) _ (mG (i:=6) rfl) A z (by rw[s];simp) d_ j (λf E=> ?_) x;exact da (dI (e:=3) k_ Pg.1 s (aB (B.come _ (mG (i:=4) rfl) (cF (n:=6) (k:=4) k_ j q))) (aB (B.come _ (mG (i:=5) rfl) (cF (n:=6) (k:=5) k_ j q))) (ar4 K.2 D.glen))
  .obtain⟨A,s,z⟩:=cL (d:=some 19) (p:= .load 3 (.tmp 18)) j k_;refine g (m:=7) _ (mG (i:=7) rfl) A z (by rw[s];simp) d_ j (λf E=> ?_) x;have O:=(aB (B.come _ (mG (i:=6) rfl) (cF (n:=7) (k:=6) k_ j q)));have X:=(F f E).digs f (λ_ _=>rfl) c K.2;have e:execOp a.eval o=(do pure (.value (←as_ 3 (.pointer (some (N.ga.add c)))))):=(by simp only[execOp,s,O]);refine⟨by rw[e,Rk,X.1];simp,λev W=> ?_⟩;rw[e]at W;have W:ev∈(as_ 3 (.pointer (some (N.ga.add c)))).events prog f #[]:=by rw[Sem.events_bind,X.1]at W;simpa using W
   obtain⟨ad,rfl,hg⟩:=X.2 ev W;exact⟨rfl, .inr ⟨S.2.2.2.1 _ hg,rfl⟩⟩
  .obtain⟨A,s,z⟩:=cL (d:=some 20) (p:= .move (.tmp 6)) j k_;refine g (m:=8) _ (mG (i:=8) rfl) A z (by rw[s];simp) d_ j (λf E=> ?_) x;have H:=cH (ev:=a.eval) (o:=o) (w:=f) prog (.inl s);rw[(aB (B.fixed _ (mG (i:=4) rfl)))]at H;exact da H
  .obtain⟨A,s,z⟩:=cL (d:=some 21) (p:= .call {callee:= .value (.func 120),args:=#[.tmp 14, .tmp 15, .tmp 19, .tmp 20],argTypes:=#[119,3,3,9]}) j k_;obtain⟨I,a7⟩:=Z;have a1:=(aB (B.come _ (mG (i:=2) rfl) (cF (n:=9) (k:=2) k_ j q)));have a2:=(aB (B.come _ (mG (i:=3) rfl) (cF (n:=9) (k:=3) k_ j q)));have a3:=(aB (B.come _ (mG (i:=7) rfl) (cF (n:=9) (k:=7) k_ j q)));have a4:=(aB (B.come _ (mG (i:=8) rfl) (cF (n:=9) (k:=8) k_ j q)));have R:(#[at6 14, .tmp 15, .tmp 19, .tmp 20]:Array Operand).map a.eval=#[.agg N.s.cells, .i c, .i (N.dig c), .s (N.s.links.extract (c*32) ((c+1)*32))]:=(by simp[a1,a2,a3,a4]);obtain⟨t,ht⟩:=D.plain c K.2;refine Wk.call (r:=8) (Val:=(· =val c)) D.env S.2.2.2.2 D.same func120 d_ (λa9 v w J=> ?_) (λv J=>by rw[J,ht];rfl) D.here ?_ D.calm (D.tree c K.2) (λf E=>⟨D.low.1,D.low.2,(F f E).size⟩) (λf E=>(F f E).tab) a7.low j (z _) (by rw[s];simp) (λf=> ?_) λv J=> ?_
   .exact sj (t:=8) rfl J w
   .intro v J;simp only[List.mem_toArray,V4,PI,or_false]at J;rcases J with rfl|rfl|rfl|rfl
    .exact IR N.s
    all_goals rfl
   .have hr:=dJ (P:=prog) (w:=f) func120 k_ k_ #[.agg N.s.cells, .i c, .i (N.dig c), .s (N.s.links.extract (c*32) ((c+1)*32))];exact bI s R hr
   .subst J;rw[A];exact x _ _ ⟨W3 B (mG (i:=9) rfl),L.other d_⟩
  .obtain⟨A,s,z⟩:=cL (d:=some 22) (p:= .indexAddr 43 (.tmp 12) (.tmp 13)) j k_;refine g (m:=10) _ (mG (i:=10) rfl) A z (by rw[s];simp) d_ j (λf E=> ?_) x;exact da (dI (e:=9) k_ Pg.2 s (aB (B.come _ (mG (i:=0) rfl) (cF (n:=10) (k:=0) k_ j q))) (aB (B.come _ (mG (i:=1) rfl) (cF (n:=10) (k:=1) k_ j q))) K.2)
  .obtain⟨A,s,z⟩:=cL (d:=none) (p:= .store 9 (.tmp 22) (.tmp 21)) j k_;obtain⟨t,ht⟩:=D.plain c K.2;have O:=(aB (B.come _ (mG (i:=10) rfl) (cF (n:=11) (k:=10) k_ j q)));rw[rC,as5]at O;have J:=(aB (B.come _ (mG (i:=9) rfl) (cF (n:=11) (k:=9) k_ j q)));rcases L with⟨_,rfl⟩|⟨h3,_⟩
   .refine Wk.store (c:=c) (v:=val c) j (z _) (by rw[s];simp) rfl k_ K (λf E=> ?_) λf E=> ?_
    .obtain⟨G,q1,q2⟩:=(hS.rely hL E).list;have q3:c<G.size:=(by rw[show G.size=n from q2];exact K.2);have a6:f.cell? ⟨C,c,none⟩=some G[c]:=by rw[aH q1];exact BY q3
     exact ff (by rw[ht];rfl) (by rw[ht];rfl) (Pg.2 f) s O J a6 (by unfold If;rw[show f.heap[(⟨C,c,none⟩:Addr).block]?=_ from q1];simp)
    .rw[A];refine x _ _ ⟨B.pass (λp O=>(FQ N C n val c p O).2.1) _, .inr ⟨?_,f,E,rfl⟩⟩;exact AI (by rw[a0];decide)
   .rw[h3]at hm;cases hm
 .simp[Array.getElem?_replicate]at hl
end
end
section
open Go.Conc Go.RowKit
def I7:∀f fn c,(aI false tP).funcs[f]?=some fn->fn.body=some c->vq f c=true:=by have⟨c,h,_⟩:=Hs;rw[PC];exact uP h
def Ba:∀f fn c,(aI true tP).funcs[f]?=some fn->fn.body=some c->vq f c=true:=by rw[Pz];exact uP Hq
def VU(f)(fn)(a:(aI true tP).funcs[f]?=some fn)(b:fn.body.isSome=true)(c:f≠94):jT (aI true tP) tP f:=by rw[Pz]at a⊢;exact uO Hq f fn a b c
def VV(f)(fn)(b:(aI false tP).funcs[f]?=some fn)(g:fn.body.isSome=true):jT (aI false tP) tP f:=by
 by_cases i:f=91
 .subst i;have⟨c,d⟩:=Option.isSome_iff_exists.1 g;have a:(aI false tP).funcs[91]?=some f91:=s_;cases (a.symm.trans b);exact⟨_,_,a,func91,rfl,rfl,c,d,I7 _ _ c a d⟩
 .have⟨c,h,_⟩:=Hs;rw[PC]at b⊢;exact uO h f fn b g i
def WF:(aI false tP).funcs[120]?=some f120:=s_
def ML{s}{d}{link}(a:Ga s i d link)(n:w.rangeAt 0 0 (aQ KS))(g:KS.length=64)(o:2<=w.heap.size)(f:mq w w)(b:bE w):
 iy (aI false tP) (rF 120 8 (· = .s (lA KS s i d link))) (bT (aI false tP) 120 #[.agg s.cells, .i i, .i d, .s link] []) w:=by
 refine xR VT I7 WF rfl rfl d_ (λv m=> ?_) ⟨o_,o⟩ f b rfl (by simp[undef]) λh q=> ?_
 .have:v= .agg s.cells\/v= .i i\/v= .i d\/v= .s link:=by simpa using m
  rcases this with rfl|rfl|rfl|rfl<;>rfl
 .have⟨e,j,p,l,k⟩:=L1.HI (ql:=false) KS s i d link a (my w h 0) n g (show 0<w.heap.size by omega) q
  grind
def VC(KS:List Int)(N:g8)(c:Nat):Value:= .string (lA KS N.s c (N.dig c) (N.s.links.extract (c*32) ((c+1)*32)))
def Qd{N}(j:N.G=2)(g:∀c,c<n->Ga N.s c (N.dig c) (N.s.links.extract (c*32) ((c+1)*32)))(m:N.wL.rangeAt 0 0 (aQ KS))(i:KS.length=64)(k:2<=N.wL.heap.size)(h:mq N.wL N.wL)(a:bE N.wL)
 (f:n<=N.glen) (e:N.s.count=n) (b:n<=65536) (d:n*32<=N.s.links.size):ub N n (VC KS N) (aI false tP) where
 env:=j▸XO
 same:=VV
 here:=⟨_,_,WF,func120,rfl,rfl,(f120.body).getD .skip,rfl,k_⟩
 calm:=a
 low:=by simp_all
 tree:=λc l=>ML (g c l) m i k h a
 plain:=λc _=>⟨_,rfl⟩
 glen:=f
 count:=e
 small:=b
 links:=d
end
section
open Go Go.Conc Go.RowKit
open Go.ConcN (WgLive)
def Wk.cond{b:Frame}{k}{w0}{A B}(q)(c:a.eval x= .bool q)(h:Wk X i V (b.atR a (.code (if q then A else B)::k)) cs w0):Wk X i V (b.atR a (.code (.cond x A B)::k)) cs w0:=by
 refine Wk.plain ?_ h;have e:(b.atR a (.code (.cond x A B)::k)).eval x= .bool q:=by rw[Mz];exact c
 show(match (b.atR a (.code (.cond x A B)::k)).eval x with| .bool q=>some (ax1 (if q then A else B)::k)|_=>none)=_;rw[e]
def Un:f119.body=some (.seq (rG f119 0) (.seq (rG f119 1) .ret)):=k_
def rk(f:Func):Code:= .seq (.seq (rG f 1) (.cond (.tmp 10) .skip (.exit 0))) (.seq (.block 1 (.seq (rG f 3) (.cond (.tmp 24) .ret .skip))) (rG f 2))
def QA:f149.body=some (.seq (rG f149 0) (.block 0 (.loop (rk f149)))):=k_
def roundOf(f:Func):Code:= .block 1 (rD f 4)
def fY(f:Func):Code:= .seq (rG f 2) (rG f 3)
def Uo:f117.body=some (.seq (rG f117 0) (.seq (rG f117 1)
 (.block 0 (.rangeFunc (.tmp 9) #[10,11] (fY f117) (roundOf f117))))):=k_
section
variable{N:g8}{ty C:Nat}{val:Nat->Value}{ld b1:Nat}
structure pM (N:g8) (b1 ld l:Nat) (T:Array Value) (st:LoopState) (w:World):Prop where
 sig:w.heap[b1]?=some (.cells N.s.cells 119)
 list:w.heap[ld]?=some (.deferred (some []))
 loop:w.heap[l]?=some (.loop {state:=st,pending:=none,fn:=117,tmps:=T,params:=#[10,11],assign:=fY f117,body:=roundOf f117,defers:=ld})
def pM.rely{T}{b}(h:pM N b1 ld l T b w)(a:V b1/\V ld/\V l)(r:bY X i V w w'):pM N b1 ld l T b w':=
 ⟨(r.own.keep _ (.inl a.1)).trans h.sig,(r.own.keep _ (.inl a.2.1)).trans h.list,(r.own.keep _ (.inl a.2.2)).trans h.loop⟩
def pM.turn{T}{st st'}(h:pM N b1 ld l T st w)(a:b1≠l/\ld≠l):pM N b1 ld l T st' (bU w l {state:=st',pending:=none,fn:=117,tmps:=T,params:=#[10,11],assign:=fY f117,body:=roundOf f117,defers:=ld}):=
 ⟨(bD _ _ a.1).trans h.sig,(bD _ _ a.2).trans h.list,iA h.loop⟩
def pM.put{T}{e}(h:pM N b1 ld l T e w)(a:b1≠C/\ld≠C/\l≠C)(c)(v):pM N b1 ld l T e (w.setCell ⟨C,c,none⟩ v):=by
 have d:∀b,b≠C->(w.setCell ⟨C,c,none⟩ v).heap[b]?=w.heap[b]?:=λb f=>by simp[JX];grind
 exact⟨(d _ a.1).trans h.sig,(d _ a.2.1).trans h.list,(d _ a.2.2).trans h.loop⟩
def Om(D:ub N n val PL)(H:RO N.bs/\RO N.bg/\RO N.be/\(∀b,N.gr b->RO b)/\RO 0){T}(M:Has [(1, .pt N.bs),(3, .pt N.bg),(4, .pt N.be)] 23 [] ⟨T,[]⟩)(f:V b1/\V ld/\V l)(m:b1≠l/\ld≠l)
 {c} (G:c%8=i/\c<n) {A}  {done} {w0} (u:xP (i4 prog ty Wg C n val RO) i (G7 N C n) V done w0) (I:pM N b1 ld l T .ready w0)
 (g:∀w,xP (i4 prog ty Wg C n val RO) i (G7 N C n) V (λd=>done d\/d=c) w->pM N b1 ld l T .ready w->Wk (i4 prog ty Wg C n val RO) i V (A.finish (.bool true)) cs w):
 Wk (i4 prog ty Wg C n val RO) i V (YU l 117 (((#[10,11]:Array Tmp).zip #[.i c, .s (N.s.links.extract (c*32) ((c+1)*32))]).foldl (λtmps (t,a)=>tmps.setIfInBounds t a) T) (fY f117) (roundOf f117) .normal) (A::cs) w0:=by
 have j:=mP (ty:=ty) (Wg:=Wg) (C:=C) (n:=n) (val:=val) H;have e:=(M.put (d:=10) d_ (.i c)).put (d:=11) d_ (.s (N.s.links.extract (c*32) ((c+1)*32)));have O:((#[10,11]:Array Tmp).zip #[.i c, .s (N.s.links.extract (c*32) ((c+1)*32))]).foldl (λ tmps x=>match x with|(t,a)=>tmps.setIfInBounds t a) T=(T.setIfInBounds 10 (.i c)).setIfInBounds 11 (.s (N.s.links.extract (c*32) ((c+1)*32))):=s_
 rw[O];show Wk _ i V ((rb 117 l).atR ((ZM ⟨T,[]⟩ (some 10) (.i c)).put (some 11) (.s (N.s.links.extract (c*32) ((c+1)*32)))) [.code (fY f117), .beginRound, .code (roundOf f117)]) (A::cs) w0;revert e;generalize (ZM ⟨T,[]⟩ (some 10) (.i c)).put (some 11) (.s (N.s.links.extract (c*32) ((c+1)*32)))=a;intro e;refine Wk.plain rfl (Wk.region rfl (Wk.op e 5 (.assign (.tmp 10)) (.i c) d_ k_ s_ (λo v w _=> ?_) λa e=> ?_))
 .have k:=cH (ev:=a.eval) (w:=w) prog (.inr v);rw[e.G 10]at k;exact da k
 refine Wk.plain rfl (Wk.region rfl (Wk.op e 6 (.assign (.tmp 11)) (.s (N.s.links.extract (c*32) ((c+1)*32))) d_ k_ s_ (λo v w _=> ?_) λa e=> ?_))
 .have k:=cH (ev:=a.eval) (w:=w) prog (.inr v);rw[e.G 11]at k;exact da k
 refine Wk.plain rfl (Wk.rounds rfl f.2.2 I.loop rfl λw r=> ?_);have h:=(u.rely j r).own j (j3 {state:= .busy,pending:=none,fn:=117,tmps:=T,params:=#[10,11],assign:=fY f117,body:=roundOf f117,defers:=ld} f.2.2);rw[gP]at h;refine Wk.plain rfl (S8 D H G h e.defers e.size (λp F=> ?_) λQ P E=> ?_)
 .simp[R2,V4,PI,or_false]at F;obtain rfl|rfl|rfl|rfl|rfl:=F
  .exact e.slot 1 _ rfl
  .exact e.slot 3 _ rfl
  .exact e.slot 4 _ rfl
  .exact e.slot 5 _ rfl
  .exact e.slot 6 _ rfl
 have K:b1≠C/\ld≠C/\l≠C:=⟨(u.sep.1 _ f.1).2.1,(u.sep.1 _ f.2.1).2.1,(u.sep.1 _ f.2.2).2.1⟩;have s:=(((I.rely f r).turn (st':= .busy) m).rely f E).put K c (val c);refine Wk.plain rfl (Wk.through rfl rfl f.2.2 s.loop λJ B=> ?_);have q:=(((h.rely j E).put j G.2).rely j B).own j (j3 {state:= .ready,pending:=none,fn:=117,tmps:=T,params:=#[10,11],assign:=fY f117,body:=roundOf f117,defers:=ld} f.2.2);rw[gP]at q;exact g _ q ((s.rely f B).turn m)
end
section
variable{N:g8}{ty C:Nat}{val:Nat->Value}{ld b1:Nat}
def CE(D:ub N n val PL)(E:RO N.bs/\RO N.bg/\RO N.be/\(∀b,N.gr b->RO b)/\RO 0){T:Array Value}(P:Has [(1, .pt N.bs),(3, .pt N.bg),(4, .pt N.be)] 23 [] ⟨T,[]⟩)(k:V b1/\V ld/\V l)(x:b1≠l/\ld≠l){A:Frame}
 (t:∀w,xP (i4 prog ty Wg C n val RO) i (G7 N C n) V (λ_=>True) w->pM N b1 ld l T .ready w->Wk (i4 prog ty Wg C n val RO) i V (A.finish (.tuple #[])) cs w)
 (c:Nat) (a:Act) (w0:World) (O:c%8=i) (M:c<=n+8) (f:Has [(0, .func (.yield l) #[] #[]),(2, .pt b1),(4, .i c)] 25 [] a) (B:xP (i4 prog ty Wg C n val RO) i (G7 N C n) V (· <c) w0) (u:pM N b1 ld l T .ready w0)
 (q:c<n->∀a w0,Has [(0, .func (.yield l) #[] #[]),(2, .pt b1),(4, .i (c+8:Nat))] 25 [] a->xP (i4 prog ty Wg C n val RO) i (G7 N C n) V (· <c+8) w0->pM N b1 ld l T .ready w0->
   Wk (i4 prog ty Wg C n val RO) i V ((base 149).atR a [.code (rk f149), .inLoop (rk f149), .inBlock 0]) (A::cs) w0):
 Wk (i4 prog ty Wg C n val RO) i V ((base 149).atR a [.code (rk f149), .inLoop (rk f149), .inBlock 0]) (A::cs) w0:=by
 have Q:=mP (ty:=ty) (Wg:=Wg) (C:=C) (n:=n) (val:=val) E;have J:=D.small;refine Wk.plain rfl (Wk.plain rfl (Wk.region (L:=[0,1,2,3,4]) rfl ?_));refine Wk.op f 6 (.move (.tmp 4)) (.i c) d_ k_ s_ (λo g w _=> ?_) λa f=> ?_
 .have h:=cH (ev:=a.eval) (w:=w) prog (.inl g);rw[f.G 4]at h;exact da h
 refine Wk.op f 7 (.fieldAddr 119 (.tmp 2) 0) (.pk b1 0) d_ k_ s_ (λo g w _=>da (vN g (f.G 2))) λa f=>Wk.op f 8 (.fieldAddr 115 (.tmp 7) 6) (.pk b1 6) d_ k_ s_ (λo g w _=>da (BA g (f.G 7))) λa f=>Wk.op f 9 (.load 3 (.tmp 8)) (.i n) d_ k_ s_ (λo g w r=>uW (.inl k.1) (aO bH g (f.G 8) (by rw[aH (u.rely k r).sig,←D.count];rfl))) λa f=> ?_;refine Wk.op f 10 (.binOp .lss 3 (.tmp 6) (.tmp 9) 3) (.bool (decide ((c:Int)<n))) d_ k_ s_ (λo g w r=>da (gy g (f.G 6) (f.G 9))) λa f=>Wk.plain rfl (Wk.cond (decide ((c:Int)<n)) (f.G 10) ?_);by_cases s:c<n
 .have e:decide ((c:Int)<n)=true:=decide_eq_true o_;rw[e];refine Wk.plain rfl (Wk.plain rfl (Wk.plain rfl (Wk.plain rfl (Wk.region (L:=[0,1,2,3,4,5,6,7,8,9,10,11]) rfl ?_))));refine Wk.op f 13 (.move (.tmp 0)) (.func (.yield l) #[] #[]) d_ k_ s_ (λo g w _=> ?_) λa f=> ?_
  .have h:=cH (ev:=a.eval) (w:=w) prog (.inl g);rw[f.G 0]at h;exact da h
  refine Wk.op f 14 (.move (.tmp 4)) (.i c) d_ k_ s_ (λo g w _=> ?_) λa f=> ?_
  .have h:=cH (ev:=a.eval) (w:=w) prog (.inl g);rw[f.G 4]at h;exact da h
  refine Wk.op f 15 (.fieldAddr 119 (.tmp 2) 3) (.pk b1 10) d_ k_ s_ (λo g w _=>da (KO g (f.G 2))) λa f=>Wk.op f 16 (.load 9 (.tmp 15)) (.s N.s.links) d_ k_ s_ (λo g w r=>uW (.inl k.1) (aO cC g (f.G 15) (by rw[aH (u.rely k r).sig];rfl))) λa f=> ?_;refine Wk.op f 17 (.move (.tmp 4)) (.i c) d_ k_ s_ (λo g w _=> ?_) λa f=> ?_
  .have h:=cH (ev:=a.eval) (w:=w) prog (.inl g);rw[f.G 4]at h;exact da h
  refine Wk.op f 18 (.binOp .mul 3 (.tmp 17) (.const (.i 32)) 3) (.i (c*32:Nat)) d_ k_ s_ (λo g w _=> ?_) λa f=> ?_
  .have h:=kD (ev:=a.eval) (w:=w) (m:=c) (n:=32) g (f.G 17) rfl o_;exact da (by simp_all)
  refine Wk.op f 19 (.move (.tmp 4)) (.i c) d_ k_ s_ (λo g w _=> ?_) λa f=> ?_
  .have h:=cH (ev:=a.eval) (w:=w) prog (.inl g);rw[f.G 4]at h;exact da h
  refine Wk.op f 20 (.binOp .add 3 (.tmp 19) (.const (.i 1)) 3) (.i (c+1:Nat)) d_ k_ s_ (λo g w _=> ?_) λa f=> ?_
  .have h:=oT (ev:=a.eval) (w:=w) (m:=c) (n:=1) g (f.G 19) rfl o_;exact da (by simp_all)
  refine Wk.op f 21 (.binOp .mul 3 (.tmp 20) (.const (.i 32)) 3) (.i ((c+1)*32:Nat)) d_ k_ s_ (λo g w _=> ?_) λa f=> ?_
  .have h:=kD (ev:=a.eval) (w:=w) (m:=(c+1:Nat)) (n:=32) g (f.G 20) rfl o_;exact da (by simp_all)
  refine Wk.op f 22 (.slice 9 (.tmp 16) (some (.tmp 18)) (some (.tmp 21)) none) (.s (N.s.links.extract (c*32) ((c+1)*32))) d_ k_ s_
   (λo g w _=>da (eC g (f.G 16) (f.G 18) (f.G 21) o_ (by have:=D.links;omega))) λa f=> ?_
  cases g:(bP f149 3)[10]? with
  |none=>exact absurd g (by simp;decide)
  |some o=>
   obtain⟨U,I,S⟩:=cL (d:=some 23) (p:= .call {callee:= .value (.tmp 13),args:=#[.tmp 14, .tmp 22],argTypes:=#[3,9]}) g k_;have X:=f.G 14;have W:=f.G 22;refine Wk.yields (args:=#[.i c, .s (N.s.links.extract (c*32) ((c+1)*32))]) g (S _) (by rw[I];simp) k.2.2 u.loop rfl (λw=>kM I (f.G 13) (by simp[X,W]) w) ?_;refine Om D E P k x ⟨O,s⟩ B u λw y z=> ?_;rw[Df,g,IS,U];have f:=f.put (d:=23) d_ (.bool true);revert f;generalize a.put (some 23) (.bool true)=a;intro f;refine Wk.op f 24 (.unOp .not 4 (.tmp 23)) (.bool false) d_ k_ s_ (λo g w _=>da (t4 g (f.G 23))) λa f=>Wk.plain rfl (Wk.cond false (f.G 24) ?_);refine Wk.plain rfl (Wk.plain rfl (Wk.region (L:=[0,1,2]) rfl ?_));refine Wk.op f 11 (.move (.tmp 4)) (.i c) d_ k_ s_ (λo g w _=> ?_) λa f=> ?_
   .have h:=cH (ev:=a.eval) (w:=w) prog (.inl g);rw[f.G 4]at h;exact da h
   refine Wk.op f 12 (.binOp .add 3 (.tmp 11) (.const (.i 8)) 3) (.i (c+8:Nat)) d_ k_ s_ (λo g w _=> ?_) λa f=> ?_
   .have h:=oT (ev:=a.eval) (w:=w) (m:=c) (n:=8) g (f.G 11) rfl o_;exact da (by simp_all)
   refine Wk.op f 4 (.assign (.tmp 12)) (.i (c+8:Nat)) d_ k_ s_ (λo g w _=> ?_) λa f=> ?_
   .have h:=cH (ev:=a.eval) (w:=w) prog (.inr g);rw[f.G 12]at h;exact da h
   refine Wk.plain rfl (Wk.plain rfl (q s a w ⟨f.defers,f.size,λd v j=> ?_⟩ (y.mono λd j K=> ?_) z))
   .have R:d=0\/d=2\/d=4:=by grind
    rcases R with rfl|rfl|rfl
    .exact f.slot 0 v j
    .exact f.slot 2 v j
    .exact f.slot 4 v j
   omega
 .have e:decide ((c:Int)<n)=false:=decide_eq_false o_;rw[e];refine Wk.plain rfl (Wk.ends rfl (.inl rfl) (Wk.leave (.tuple #[]) rfl f.defers func149 (λw=>⟨results_none rfl _ _ w,events_results_none rfl _ _⟩) ?_));intro w r;exact t w ((B.rely Q r).mono λd j _=>o_) (u.rely k r) w (bY.refl _ _ _ _)
def Pw(D:ub N n val PL)(s:RO N.bs/\RO N.bg/\RO N.be/\(∀b,N.gr b->RO b)/\RO 0){T}(r:Has [(1, .pt N.bs),(3, .pt N.bg),(4, .pt N.be)] 23 [] ⟨T,[]⟩)(q:V b1/\V ld/\V l)(g:b1≠l/\ld≠l){t}
 (e:∀w,xP (i4 prog ty Wg C n val RO) i (G7 N C n) V (λ_=>True) w->pM N b1 ld l T .ready w->Wk (i4 prog ty Wg C n val RO) i V (t.finish (.tuple #[])) cs w):
 ∀d c a w0,n- c<=d->c%8=i->c<=n+8->Has [(0, .func (.yield l) #[] #[]),(2, .pt b1),(4, .i c)] 25 [] a->xP (i4 prog ty Wg C n val RO) i (G7 N C n) V (· <c) w0->pM N b1 ld l T .ready w0->
  Wk (i4 prog ty Wg C n val RO) i V ((base 149).atR a [.code (rk f149), .inLoop (rk f149), .inBlock 0]) (t::cs) w0:=by
 intro d;induction d with
 |zero=>exact λc a w0 o p f m j k=>CE D s r q g e c a w0 p f m j k o_
 |succ d u=>exact λc a w0 o p f m j k=>CE D s r q g e c a w0 p f m j k λh a w m j k=>u (c+8) a w o_ o_ o_ m j k
end
end
section
open Go
abbrev NW:aU0:={add:=116,done:=118,wait:=121,relMerge:=136,disable:=137,enable:=138,inBubble:=139,associate:=140,fatal:=141,uOr:=142,uAdd:=143,raceRead:=144,uLoad:=145,uStore:=146,disassociate:=147,semrelease:=148,acquire:=152,isAssociated:=153,uCas:=154,raceWrite:=155,semacquire:=156,orU64:=169,addU64:=170,loadU64:=171,storeU64:=172,casU64:=174,tWgP:=196,tUP:=198,tAssoc:=199,tWg:=184,tAU:=182,tU64:=132,tUint:=112,tU32:=162,tPU32:=202,tPAU:=222,tPU64:=224,tNoCopy:=178,tANoCopy:=179,tAlign64:=180}
def uh:aN2 prog NW:=by
 constructor
 all_goals first|kernel_rfl|(intro w;kernel_rfl)
end
section
open Go Go.Conc Go.RowKit
open Go.ConcN (WgLive)
section
variable{N:g8}{C:Nat}{val:Nat->Value}{bi:Nat}
def RF(D:ub N n val PL)(hR:RO N.bs/\RO N.bg/\RO N.be/\(∀b,N.gr b->RO b)/\RO 0)(hi:i<8)(hS:xP (i4 prog 184 Wg C n val RO) i (G7 N C n) (· =bi) (λ_=>False) w)(hbi:w.heap[bi]?=some (.cells #[.i i] 3)):
 bC (i4 prog 184 Wg C n val RO) i ⟨(· =bi),born prog {target:= .fn (.func 117) #[.pk Wg 0, .pk N.bs 0, .pk bi 0, .pk N.bg 0, .pk N.be 0],args:=#[]},w⟩:=by
 have hL:=mP (ty:=184) (Wg:=Wg) (C:=C) (n:=n) (val:=val) hR;refine Wk.born func117 k_ k_ ?_;rw[show(#[]:Array Value)++#[.pk Wg 0, .pk N.bs 0, .pk bi 0, .pk N.bg 0, .pk N.be 0]=[.pk Wg 0, .pk N.bs 0, .pk bi 0, .pk N.bg 0, .pk N.be 0].toArray from s_,
  PV (N:=23) _ func117 Uo rfl]
 have hF:=aN [.pk Wg 0, .pk N.bs 0, .pk bi 0, .pk N.bg 0, .pk N.be 0] 23 s_;revert hF;generalize (Act.mk (([.pk Wg 0, .pk N.bs 0, .pk bi 0, .pk N.bg 0, .pk N.be 0]:List Value).toArray++ar6 (23-([.pk Wg 0, .pk N.bs 0, .pk bi 0, .pk N.bg 0, .pk N.be 0]:List Value).toArray.size) undef) [])=a;intro hF;refine Wk.plain rfl (Wk.region rfl ?_);cases ho:(bP f117 0)[0]? with
 |none=>exact absurd ho (by simp;decide)
 |some o=>
 have⟨e1,e2,e3⟩:=cL (d:=none) (p:= .defer {callee:= .value (.func 118),args:=#[.tmp 0],argTypes:=#[184]}) ho k_;refine Wk.defer ho (e3 _) (by simp[baseD]) rfl e2 ?_;have hF1:Has (gC 0 [.pk Wg 0, .pk N.bs 0, .pk bi 0, .pk N.bg 0, .pk N.be 0]) 23 [dcall NW.done #[.pk Wg 0]] (ZM ⟨a.tmps,dcall 118 (#[at6 0].map a.eval)::a.defers⟩ o.dst undef):=by rw[e1,hF.defers,show(#[at6 0]:Array Operand).map a.eval=#[.pk Wg 0]from by simp[hF.G 0]];exact⟨rfl,hF.size,hF.slot⟩
 revert hF1;generalize ZM ⟨a.tmps,dcall 118 (#[at6 0].map a.eval)::a.defers⟩ o.dst undef=a;clear hF e1 e2 e3 ho;intro hF;refine Wk.plain rfl (Wk.plain rfl (Wk.region rfl ?_));refine Wk.op hF 7 (.load 119 (.tmp 1)) (.agg N.s.cells) d_ k_ s_ (λo ho w r=>MG (.inr hR.1) (mz ho (hF.G 1) (hS.rely hL r).pap.sig)) λa hF=>Wk.op hF 8 (.load 3 (.tmp 2)) (.i i) d_ k_ s_ (λo ho w r=>uW (.inl rfl) (aO bH ho (hF.G 2) (by rw[aH ((r.own.keep bi o_).trans hbi)];rfl))) λa hF=> ?_;cases ho:(bP f117 1)[2]? with
 |none=>exact absurd ho (by simp;decide)
 |some o=>
 have⟨e1,e2,e3⟩:=cL (d:=some 9) (p:= .call {callee:= .value (.func 119),args:=#[.tmp 7, .tmp 8],argTypes:=#[119,3]}) ho k_;have hr:=λw=>bI (w:=w) e2 (show(#[at6 7, .tmp 8]:Array Operand).map a.eval=[.agg N.s.cells, .i i].toArray from by simp[hF.G 7,hF.G 8]) (dJ func119 k_ k_ _);refine Wk.enter ho (e3 _) (by rw[e2];simp) (λw _=>⟨(hr w).1,λe he=>by simp_all⟩) ?_;rw[aT (N:=6) _ func119 Un rfl];have hG:=aN [.agg N.s.cells, .i i] 6 s_;revert hG;generalize (Act.mk ([.agg N.s.cells, .i i].toArray++ar6 (6-[.agg N.s.cells,Value.i i].toArray.size) undef) [])=g;intro hG;refine Wk.plain rfl (Wk.region rfl ?_);refine Wk.mk hG 2 (.box 119 (.tmp 0)) N.s.cells 119 d_ k_ s_ (λo ho w=> ?_) λg w1 r1 hG=> ?_
 .have:=mg (ev:=g.eval) (w:=w) prog ho;rw[hG.G 0]at this;exact this
 have hS1:=(hS.rely hL r1).own hL (pY (· =bi) RO w1 (.cells N.s.cells 119));refine Wk.mk hG 3 (.box 3 (.tmp 1)) #[.i i] 3 d_ k_ s_ (λo ho w=> ?_) λg w2 r2 hG=> ?_
 .have:=mg (ev:=g.eval) (w:=w) prog ho;rw[hG.G 1]at this;exact this
 have hS2:=(hS1.rely hL r2).own hL (pY (cG (· =bi) w1 (w1.alloc (.cells N.s.cells 119))) RO w2 (.cells #[.i i] 3));have hb1:w1.heap.size<w2.heap.size:=by have:=r2.own.size;rw[aJ]at this;omega
 have hV1:cG (· =bi) w1 (w1.alloc (.cells N.s.cells 119)) w1.heap.size:= .inr ⟨ar5 _,by simp_all⟩;have hsig:(w2.alloc (.cells #[.i i] 3)).heap[w1.heap.size]?=some (.cells N.s.cells 119):=by rw[cV _ _ hb1,r2.own.keep _ (.inl hV1),aY]
 have hV2:cG (cG (· =bi) w1 (w1.alloc (.cells N.s.cells 119))) w2 (w2.alloc (.cells #[.i i] 3)) w2.heap.size:= .inr ⟨ar5 _,by simp_all⟩;have hV21:cG (cG (· =bi) w1 (w1.alloc (.cells N.s.cells 119))) w2 (w2.alloc (.cells #[.i i] 3)) w1.heap.size:= .inl hV1;have hint:=aY w2 (.cells #[.i i] 3);revert hS2 hsig hV2 hV21 hint;generalize cG (cG (· =bi) w1 (w1.alloc (.cells N.s.cells 119))) w2 (w2.alloc (.cells #[.i i] 3))=V;generalize w2.alloc (.cells #[.i i] 3)=wz;generalize hB1:w1.heap.size=b1 at hb1 hG⊢;generalize hB2:w2.heap.size=b2 at hb1 hG⊢;intro hS2 hsig hV2 hV21 hint;clear hS1 r1 r2 hV1 hB1 hB2 hS hbi;refine Wk.op hG 4 (.assign (.const .nilFunc)) .nilFunc d_ k_ s_ (λo ho w _=>da (cH prog (.inr ho))) λg hG=>Wk.plain rfl (Wk.plain rfl (Wk.region rfl ?_));refine Wk.op hG 5 (.makeFunc (.func 149) #[] #[.tmp 3, .tmp 2]) (.func (.func 149) #[] #[.pk b2 0, .pk b1 0]) d_ k_ s_ (λo ho w _=> ?_) λg hG=> ?_
 .have hy:=gw (ev:=g.eval) (w:=w) prog ho;rw[show(#[at6 3, .tmp 2]:Array Operand).map g.eval=#[.pk b2 0, .pk b1 0]from by simp[hG.G 3,hG.G 2]]at hy;exact da hy
 refine Wk.op hG 4 (.assign (.tmp 5)) (.func (.func 149) #[] #[.pk b2 0, .pk b1 0]) d_ k_ s_ (λo ho w _=> ?_) λg hG=> ?_
 .have hy:=cH (ev:=g.eval) (w:=w) prog (.inr ho);rw[hG.G 5]at hy;exact da hy
 refine Wk.plain rfl (Wk.ends rfl s_ (Wk.leave (.func (.func 149) #[] #[.pk b2 0, .pk b1 0]) rfl hG.defers func119 (λw=>sj (t:=4) rfl (hG.slot 4 _ rfl) w) ?_));rw[Df,ho,IS,e1];have hF:=hF.put (d:=9) d_ (.func (.func 149) #[] #[.pk b2 0, .pk b1 0]);revert hF;generalize a.put (some 9) (.func (.func 149) #[] #[.pk b2 0, .pk b1 0])=a;intro hF;clear e1 e2 e3 ho hr hG;refine Wk.plain rfl (Wk.plain rfl ?_);refine Wk.range (first:=#[]) rfl func149 k_ k_ (hF.G 9) λw3 r3=> ?_;have hs3:=r3.own.size;have l1:b1<w3.heap.size:=ar4 (hS2.low.1 b1 (.inl hV21)) hs3;have l2:b2<w3.heap.size:=ar4 (hS2.low.1 b2 (.inl hV2)) hs3;have hown:cQ V RO w3 (du w3 {state:= .ready,pending:=none,fn:=(baseD 117).fn,tmps:=a.tmps,params:=#[10,11],assign:=fY f117,body:=roundOf f117,defers:=w3.heap.size}) #[]:=
  ⟨λm hm _=>bK w3 _ hm,by rw[iP];omega,rfl,rfl,rfl,s_⟩
 have hS3:=(hS2.rely hL r3).own hL hown;have eg:cG V w3 (du w3 {state:= .ready,pending:=none,fn:=(baseD 117).fn,tmps:=a.tmps,params:=#[10,11],assign:=fY f117,body:=roundOf f117,defers:=w3.heap.size})=mb V w3:=by
  funext m
  apply propext;unfold cG mb;rw[iP]
  grind
 rw[eg]at hS3;have hM:pM N b1 w3.heap.size (w3.heap.size+1) a.tmps .ready (du w3 {state:= .ready,pending:=none,fn:=(baseD 117).fn,tmps:=a.tmps,params:=#[10,11],assign:=fY f117,body:=roundOf f117,defers:=w3.heap.size}):=
  ⟨(bK w3 _ l1).trans ((r3.own.keep _ (.inl hV21)).trans hsig),fJ w3 _,fI w3 _⟩
 have hint3:(du w3 {state:= .ready,pending:=none,fn:=(baseD 117).fn,tmps:=a.tmps,params:=#[10,11],assign:=fY f117,body:=roundOf f117,defers:=w3.heap.size}).heap[b2]?=some (.cells #[.i i] 3):=
  (bK w3 _ l2).trans ((r3.own.keep _ (.inl hV2)).trans hint)
 rw[show(#[]:Array Value)++#[.func (.yield (w3.heap.size+1)) #[] #[]]++#[.pk b2 0, .pk b1 0]=[.func (.yield (w3.heap.size+1)) #[] #[], .pk b2 0, .pk b1 0].toArray from s_,
  aT (N:=25) _ func149 QA rfl]
 have hH:=aN [.func (.yield (w3.heap.size+1)) #[] #[], .pk b2 0, .pk b1 0] 25 s_;revert hH;generalize (Act.mk ([.func (.yield (w3.heap.size+1)) #[] #[], .pk b2 0, .pk b1 0].toArray++ar6 (25-[.func (.yield (w3.heap.size+1)) #[] #[], .pk b2 0,Value.pk b1 0].toArray.size) undef) [])=g;intro hH;have hV3:mb V w3 b1/\mb V w3 w3.heap.size/\mb V w3 (w3.heap.size+1):=⟨.inl hV21, .inr (.inl rfl), .inr (.inr rfl)⟩;have hne:b1≠w3.heap.size+1/\w3.heap.size≠w3.heap.size+1:=o_;refine Wk.plain rfl (Wk.region (L:=[0,1]) rfl ?_);refine Wk.op hH 5 (.load 3 (.tmp 1)) (.i i) d_ k_ s_ (λo ho w r=>uW (.inl (.inl hV2)) (aO bH ho (hH.G 1) (by rw[aH ((r.own.keep b2 (.inl (.inl hV2))).trans hint3)];rfl))) λg hH=> ?_;refine Wk.op hH 4 (.assign (.tmp 5)) (.i i) d_ k_ s_ (λo ho w _=> ?_) λg hH=> ?_
 .have hy:=cH (ev:=g.eval) (w:=w) prog (.inr ho);rw[hH.G 5]at hy;exact da hy
 refine Wk.plain rfl (Wk.plain rfl (Wk.plain rfl ?_));have look3:∀{x y z:Value} (F:List (Nat×Value)),F.lookup 0=some x->F.lookup 2=some y->F.lookup 4=some z->∀d v,[(0,x),(2,y),(4,z)].lookup d=some v->F.lookup d=some v:=by grind
 have look3':∀{x y z:Value} (F:List (Nat×Value)),F.lookup 1=some x->F.lookup 3=some y->F.lookup 4=some z->∀d v,[(1,x),(3,y),(4,z)].lookup d=some v->F.lookup d=some v:=by grind
 refine Pw (l:=w3.heap.size+1) (ld:=w3.heap.size) (b1:=b1) D hR (T:=a.tmps) ⟨rfl,hF.size,λd v hd=>hF.slot d v (look3' _ rfl rfl rfl d v hd)⟩ hV3 hne (λw hSe hMe=> ?_) n i g _ o_ o_ o_ (hH.sub (look3 _ rfl rfl rfl)) (hS3.mono λc hc hlt=> ?_) hM
 .show Wk _ i (mb V w3) ((baseD 117).atR ⟨a.tmps,{target:= .collected w3.heap.size,args:=#[]}::a.defers⟩ (.endRangeFunc (w3.heap.size+1)::[.inBlock 0])) [xS prog] w;refine Wk.rangeOver hV3.2.2 hMe.loop rfl rfl λw4 r4=> ?_;have hS4:=(hSe.rely hL r4).own hL (j3 (RO:=RO) (w:=w4) {state:= .exhausted,pending:=none,fn:=117,tmps:=a.tmps,params:=#[10,11],assign:=fY f117,body:=roundOf f117,defers:=w3.heap.size} hV3.2.2);rw[gP]at hS4;have hM4:=(hMe.rely hV3 r4).turn (st':= .exhausted) hne;refine Wk.plain rfl (Wk.ends rfl s_ (Wk.take rfl hV3.2.1 hM4.list λw5 r5=> ?_));rw[hF.defers];have hown5:cQ (mb V w3) RO w5 {w5 with heap:=w5.heap.setIfInBounds w3.heap.size (.deferred none)} #[]:=
   ⟨λm _ hm=>sN (show w3.heap.size≠m from λe=>hm (e▸hV3.2.1)),s_,rfl,rfl,rfl,s_⟩
  have hS5:=(hS4.rely hL r5).own hL hown5;obtain⟨v0,h0⟩:=hS5.pap.zero;exact Wk.done (X:=i4 prog 184 Wg C n val RO) uh rfl hR.2.2.2.2 func117 rfl h0 hS5.live λc hc=>hS5.cells c hc trivial
 omega
end
end
section
open Go Go.Conc Go.RowKit
open Go.ConcN (WgLive)
open Go.ConcR (DC0)
def je(f:Func):Code:= .seq (rG f 4) (.seq (.cond (.tmp 13) .skip (.exit 0)) (.seq (.block 1 (.seq (rG f 5) (.seq (rG f 6) (rG f 7)))) (rG f 8)))
def lZ(f:Func):Code:= .seq (rG f 9) (.seq (rG f 10) .ret)
def Ut:f94.body=some (.seq (rG f94 0) (.seq (rG f94 1) (.seq (rG f94 2)
 (.seq (.seq (rG f94 3) (.block 0 (.loop (je f94)))) (lZ f94))))):=k_
def Ik.cond{c}{b:Frame}{k}{w0}{A B}(q)(d:a.eval x= .bool q)(h:Ik X c m V (b.atR a (.code (if q then A else B)::k)) cs w0):Ik X c (m+1) V (b.atR a (.code (.cond x A B)::k)) cs w0:=by
 refine Ik.plain ?_ h;have e:(b.atR a (.code (.cond x A B)::k)).eval x= .bool q:=by rw[Mz];exact d
 show(match (b.atR a (.code (.cond x A B)::k)).eval x with| .bool q=>some (ax1 (if q then A else B)::k)|_=>none)=_;rw[e]
def Ik.seg{a}{w0}(h:∀w,ce X V w0 w->Goes X.P true (ce X V) DC0 (a V) m (G fr cs) w):Ik X a m V fr cs w0:=λw b=>dX (h w b)
def cS.up{a}:∀{m:Nat} {V:Nat->Prop} {g:Goroutine} {w:World},cS X a m V g w->cS X a (m+1) V g w
 |0,_,_,_,h=> .inl h
 |_+1,_,_,_,h=>h.elim .inl λ⟨d,h⟩=> .inr ⟨d,λb c=>let ⟨g',w',es,h1,h2,h3⟩:=h b c;⟨g',w',es,h1,h2,cS.up h3⟩⟩
def cS.to{a}(h:cS X a m V g w):∀e,cS X a (m+e) V g w
 |0=>h
 |e+1=>(cS.to h e).up
def Ik.to{a}{w0}(c:m<=n)(h:Ik X a m V fr cs w0):Ik X a n V fr cs w0:=λw b=>by have:=(h w b).to (n- m);simp_all
structure Sn (X:bX) (wE w:World):Prop where
 live:WgLive X.ty X.Wg w
 since:fo X.RO wE w
def Sn.rely{b a}(h:Sn X b w)(r:ce X V w a):Sn X b a:=⟨r.live h.live,h.since.trans (r.own.mono λ_ c=> .inr c)⟩
def Sn.meet{b a}(h:Sn X b w)(r:oN X V w a):Sn X b a:=⟨r.live,h.since.trans (r.since.mono λ_ c=> .inr c)⟩
structure DI (N:g8) (Wg C n:Nat) (RO:Nat->Prop) (wE:World):Prop where
 pap:G7 N C n wE
 ro:RO N.bs/\RO N.bg/\RO N.be/\(∀b,N.gr b->RO b)/\RO 0
 low:(∀b,RO b->b<wE.heap.size)/\Wg<wE.heap.size/\C<wE.heap.size
 sep:¬RO C/\C≠Wg/\¬RO Wg
abbrev Vn:Nat->Prop:=λ_=>False
section
variable{N:g8}{C:Nat}{val:Nat->Value}{c:Frame}
def QO(N:g8)(Wg j:Nat):List (Nat×Value):=[(2, .pt N.bs),(3, .pt N.bg),(5, .pt N.be),(6, .pt Wg),(12, .int .i64 j)]
def AF(m:F.lookup 2=some (.pk N.bs 0))(l:F.lookup 3=some (.pk N.bg 0))(k:F.lookup 5=some (.pk N.be 0))(i:F.lookup 6=some (.pk Wg 0))(b:F.lookup 12=some (.i j)):
 ∀d v,(QO N Wg j).lookup d=some v->F.lookup d=some v:=by
 intro d v a;by_cases h:d=2
 .subst h;exact m▸a
 by_cases g:d=3
 .subst g;exact l▸a
 by_cases f:d=5
 .subst f;exact k▸a
 by_cases e:d=6
 .subst e;exact i▸a
 by_cases c:d=12
 .subst c;exact b▸a
 simp[QO,ZU,show(d==2)=false from by simpa using h,show(d==3)=false from by simpa using g,show(d==5)=false from by simpa using f,show(d==6)=false from by simpa using e,show(d==12)=false from by simpa using c]at a
def Im(X:bX)(wE:World)(c:Frame)(cs:List Frame)(_:Nat->Prop)(g:Goroutine)(w:World):Prop:=g=cD (c.finish (.sk X.C X.n X.n)) cs/\fo X.RO wE w
def Vi(f:FuncId)(ops:Array Oper)(k:List Item)(X:bX)(N:g8)(wE:World)(cs:List Frame)(V:Nat->Prop)(g:Goroutine)(w:World):Prop:=
 ∃w00 a,Has (QO N X.Wg 8) 20 [] a/\Sn X wE w00/\Ij X NW w00 ((base f).at a (.inRegion ops [0]::k)) cs V g w
def vC.mono{Fin A A'}(n:∀V g w,A V g w->A' V g w)(h:vC X Fin A V g w):vC X Fin A' V g w:=by refine⟨h.1,λv l j=> ?_⟩;have⟨u,r,q,p⟩:=h.2 v l j;refine⟨u,r,q,λs=> ?_⟩;have⟨k,m⟩:=p s;refine⟨k,m.mono λV g w e=>⟨e.1,λf b a=>⟨(e.2 f b a).1,λc=> ?_⟩⟩⟩;have⟨t,o,i,d⟩:=(e.2 f b a).2 c;exact⟨t,o,i,d.mono n⟩
end
def zr(V)(w)(a)(v):cG V w (w.setCell a v)=V:=by
 funext b
 apply propext;exact⟨λh=>h.elim id λh=>absurd h.2 (by simpa[JX]using h.1), .inl⟩
def zt(w)(o):cG Vn w (w.alloc o)=(· =w.heap.size):=by
 funext b
 apply propext;unfold cG;rw[aJ]
 grind
def S1{ev}{a}(b:o.op= .go {callee:= .value x,args:=#[],argTypes:=#[]})(c:ev x= .func (.func f) #[] a)(w):
 (execOp ev o).run P w= .ok (.spawn {target:= .fn (.func f) a,args:=#[]}) w/\(execOp ev o).events P w #[]=#[]:=by constructor<;>simp[execOp,b,resolve,Deferred.ofValue,c]
section
variable{N:g8}{C:Nat}{val:Nat->Value}{c:Frame}
def ze(a:DI N Wg C n RO wE)(h:fo RO wE w):G7 N C n w:=mP (ty:=0) (Wg:=Wg) (val:=λ_=>undef) a.ro wE w h.keep h.size a.pap
def BK(i:DI N Wg C n RO wE){w00}(b:Has (QO N Wg 8) 20 [] a)(f:Sn (i4 prog 184 Wg C n val RO) wE w00)(w)(k:oN (i4 prog 184 Wg C n val RO) V w00 w):
 cS (i4 prog 184 Wg C n val RO) (Im (i4 prog 184 Wg C n val RO) wE c cs) 12 V (G ((base 94).at (a.put (((bP f94 9)[0]?).bind (·.dst)) (.tuple #[])) (.inRegion (bP f94 9) []::[.code (.seq (rG f94 10) .ret)])) (c::cs)) w:=by
 have h:=f.meet k;have b:=b.put (d:=18) d_ (.tuple #[]);rw[show((bP f94 9)[0]?).bind (·.dst)=some 18 from k_];revert b;generalize a.put (some 18) (.tuple #[])=a;intro b;refine Ik.now ?_;refine Ik.plain rfl (Ik.plain rfl (Ik.region rfl ?_));refine Ik.op b 19 (.load 43 (.tmp 5)) (.sk C n n) d_ k_ s_ (λo e w r=>uW (.inr i.ro.2.2.1) (aO uH e (b.G 5) (by rw[aH (ze i (h.rely r).since).ends];rfl))) λa b=> ?_;refine Ik.op b 4 (.assign (.tmp 19)) (.sk C n n) d_ k_ s_ (λo e w _=> ?_) λa b=> ?_
 .have g:=cH (ev:=a.eval) (w:=w) prog (.inr e);rw[b.G 19]at g;exact da g
 refine Ik.plain rfl (Ik.ends rfl s_ (Ik.leave (.sk C n n) rfl b.defers func94 (λw=>sj rfl (b.slot 4 _ rfl) w) (Ik.stop λl j=>⟨rfl,(h.rely j).since⟩)))
abbrev An(X:bX)(f:Func)(g:FuncId)(N:g8)(wE:World)(cs:List Frame):=Vi g (bP f 9) [.code (.seq (rG f 10) .ret)] X N wE cs
def Kw(i:DI N Wg C n RO wE)(V)(g)(w)(h:An (i4 prog 184 Wg C n val RO) f94 94 N wE (c::cs) V g w):
 ∃k,cS (i4 prog 184 Wg C n val RO) (vC (i4 prog 184 Wg C n val RO) (Im (i4 prog 184 Wg C n val RO) wE c cs) (An (i4 prog 184 Wg C n val RO) f94 94 N wE (c::cs))) k V g w:=by have⟨w00,a,d,b,f⟩:=h;have e:=VB (i4 prog 184 Wg C n val RO) uh (BK i d b) g w f;exact⟨30,(dX e).mono λV g w=>vC.mono λV g w h=>⟨w00,a,d,b,h⟩⟩
def QE(X)(f)(d)(b)(V)(g)(w)(h:An X f d N b cs V g w):g.status= .running:=by obtain⟨c,a,_,_,T,rfl,_⟩:=h;rfl
end
def WQ(X:bX)(Anch:(Nat->Prop)->Goroutine->World->Prop):Nat->(Nat->Prop)->Goroutine->World->Prop
 |0=>NP X Anch
 |r+1=>DR X (8-(r+1)) (mr X Anch 8 r)
def VH{Anch}{r}(h:cS X (WQ X Anch r) k V g w):mr X Anch 8 r V g w:=by
 cases r with
 |zero=>exact⟨k,h⟩
 |succ r=>exact⟨k,h⟩
section
variable{N:g8}{C:Nat}{val:Nat->Value}{c:Frame}
def WA(x:DI N Wg C n RO wE){w0}(b:Has (QO N Wg 8) 20 [] a)(f:Sn (i4 prog 184 Wg C n val RO) wE w0):
 Ik (i4 prog 184 Wg C n val RO) (NP (i4 prog 184 Wg C n val RO) (An (i4 prog 184 Wg C n val RO) f94 94 N wE (c::cs))) 300 Vn ((base 94).atR a [.code (je f94), .inLoop (je f94), .inBlock 0, .code (lZ f94)]) (c::cs) w0:=by
 refine Ik.plain rfl (Ik.region rfl ?_);refine Ik.op b 13 (.binOp .lss 3 (.tmp 12) (.const (.i 8)) 3) (.bool false) d_ k_ s_ (λo e w _=>da (gy e (b.G 12) rfl)) λa b=>Ik.plain rfl (Ik.plain rfl (Ik.cond false (b.G 13) ?_));refine Ik.plain rfl (Ik.plain rfl (Ik.region rfl ?_));cases e:(bP f94 9)[0]? with
 |none=>exact absurd e (by simp;decide)
 |some o=>
 have⟨A,i,z⟩:=cL (d:=some 18) (p:= .call {callee:= .value (.func 121),args:=#[.tmp 6],argTypes:=#[184]}) e k_;have j:=λw=>bI (w:=w) i (show(#[at6 6]:Array Operand).map a.eval=#[.pk Wg 0]from by simp[b.G 6]) (dJ uh.f_wait k_ k_ _);refine Ik.enter e (z _) (by rw[i];simp) j ?_;refine Ik.to (m:=3) d_ λw r=> ?_;have s:oN (i4 prog 184 Wg C n val RO) Vn w0 w:=⟨r.live f.live,r.own,λh=>h.elim s_ x.sep.2.2⟩;have l:=E2 (i4 prog 184 Wg C n val RO) uh (c:=(base 94).atR a (.inRegion (bP f94 9) [0]::[.code (.seq (rG f94 10) .ret)])) (cs:=c::cs) w s;have q:=aT (N:=84) (c:=aS2 NW) [.pk Wg 0] uh.f_wait k_ k_;rw[q];refine(dX l).mono λV g w h=>⟨h.1, ?_⟩;have⟨y,v,k,u⟩:=h.2;exact⟨y,v,k,u.mono λV g w t=>⟨w0,a,b.sub (AF rfl rfl rfl rfl rfl),f,t⟩⟩
theorem Wz(D:ub N n val PL)(t:DI N Wg C n RO wE)(hj:j<8){y:(Nat->Prop)->Goroutine->World->Prop}{w0:World}(f:Has (QO N Wg j) 20 [] a)(a1:Sn (i4 prog 184 Wg C n val RO) wE w0)
 (O:∀a w,Has (QO N Wg j) 20 [] a->Sn (i4 prog 184 Wg C n val RO) wE w->y Vn (cD ((base 94).atR a (.inRegion (bP f94 7) []::[.inBlock 1, .code (rG f94 8), .inLoop (je f94), .inBlock 0, .code (lZ f94)])) cs) w):
 Ik (i4 prog 184 Wg C n val RO) (DR (i4 prog 184 Wg C n val RO) j y) 300 Vn ((base 94).atR a [.code (je f94), .inLoop (je f94), .inBlock 0, .code (lZ f94)]) cs w0:=by
 refine Ik.plain rfl (Ik.region (L:=[0]) rfl ?_);refine Ik.op f 13 (.binOp .lss 3 (.tmp 12) (.const (.i 8)) 3) (.bool true) d_ k_ s_ (λo g w _=> ?_) λa f=> ?_
 .have I:=gy (ev:=a.eval) (w:=w) (m:=j) (n:=8) g (f.G 12) rfl;rw[decide_eq_true o_]at I;exact da I
 refine Ik.plain rfl (Ik.plain rfl (Ik.cond true (f.G 13) ?_));refine Ik.plain rfl (Ik.plain rfl (Ik.plain rfl (Ik.plain rfl (Ik.region (L:=[0,1,2]) rfl ?_))));refine Ik.op f 14 (.move (.tmp 12)) (.i j) d_ k_ s_ (λo g w _=> ?_) λa f=> ?_
 .have I:=cH (ev:=a.eval) (w:=w) prog (.inl g);rw[f.G 12]at I;exact da I
 refine Ik.mk f 7 (.alloc 3) (λw=> .pk w.heap.size 0) (λ_=> .cells #[.i 0] 3) d_ k_ s_ (λo g w _=>⟨(jZ g).1,λe he=>by rw[(jZ g).2]at he;simp at he⟩) λa J r1 f=> ?_;have l:=a1.rely r1;rw[zt];have B:=aY J (.cells #[.i 0] 3);have A:=aJ J (.cells #[.i 0] 3);have E:Sn (i4 prog 184 Wg C n val RO) wE (J.alloc (.cells #[.i 0] 3)):=by have T:=l.since.size;have U:=t.low.2.1;refine⟨?_,λb q=>(cV _ _ (ar4 (t.low.1 b q) T)).trans (l.since.keep b q),o_,l.since.os,l.since.output,l.since.tape⟩;obtain⟨st,sm,hl⟩:=l.live;exact⟨st,sm,(cV _ _ (show Wg<J.heap.size from ar4 U T)).trans hl⟩
 have a0:wE.heap.size<=J.heap.size:=l.since.size;revert B E;generalize J.alloc (.cells #[.i 0] 3)=w2 at A⊢;generalize J.heap.size=i at a0 f A⊢;intro B E;clear l r1;cases g:(bP f94 5)[2]? with
 |none=>exact absurd g (by simp;decide)
 |some o=>
 obtain⟨S,H,R⟩:=cL (d:=none) (p:= .store 3 (.tmp 7) (.tmp 14)) g k_;refine Ik.makes g (R _) (by rw[H];simp) λz r3=> ?_;have r:z.heap[i]?=some (.cells #[.i 0] 3):=(r3.own.keep i o_).trans B;have K:=ff (w:=z) (b:=i) (k:=0) (v:= .i j) (v0:= .i 0) rfl rfl s_ H (f.G 7) (f.G 14) (by rw[aH r];rfl) (by unfold If;simp_all);refine⟨_,K.1, ?_, ?_⟩
 .rw[K.2];exact GH (V:=(· =i)) (a:=⟨i,0,none⟩) rfl _
 rw[zr,S];have s:=E.rely r3;have a4:i<z.heap.size:=(gA r).1;have Y:∀b,RO b->b≠i:=λb q e=>by have:=t.low.1 b q;omega
 have G:Sn (i4 prog 184 Wg C n val RO) wE (z.setCell ⟨i,0,none⟩ (.i j)):=by have U:=t.low.2.1;refine⟨?_,λb q=>(cP z _ (Y b q)).trans (s.since.keep b q),by simpa[JX]using s.since.size,s.since.os,s.since.output,s.since.tape⟩;obtain⟨st,sm,hl⟩:=s.live;exact⟨st,sm,(cP z _ (show Wg≠i from o_)).trans hl⟩
 have x:=kJ (v:= .i j) r;have f:Has ((7, .pt i)::(14, .i j)::(13, .bool true)::QO N Wg j) 20 [] (a.put none undef):=f;revert x G f;generalize z.setCell ⟨i,0,none⟩ (.i j)=w4;generalize a.put none undef=a;intro G x f;clear s r3 r K E B S H R g A;refine Ik.plain rfl (Ik.plain rfl (Ik.region (L:=[0]) rfl ?_));cases g:(bP f94 6)[0]? with
 |none=>exact absurd g (by simp;decide)
 |some o=>
 obtain⟨S,H,R⟩:=cL (d:=some 15) (p:= .call {callee:= .value (.func 116),args:=#[.tmp 6, .const (.i 1)],argTypes:=#[184,3]}) g k_;have hr:=λw=>bI (w:=w) H (show(#[at6 6, .const (.i 1)]:Array Operand).map a.eval=#[.pk Wg 0, .i 1]from by simp[f.G 6];rfl) (dJ (P:=prog) uh.f_add k_ k_ _);refine Ik.enter g (R _) (by rw[H];simp) hr ?_;have he:as7 prog 116 #[.pk Wg 0, .i 1] .normal=(base NW.add).at ⟨#[.pk Wg 0, .i 1]++ar6 115 undef,[]⟩ [.code (aJ3 NW)]:=aT (N:=117) (c:=aJ3 NW) [.pk Wg 0, .i 1] uh.f_add k_ k_;rw[he];refine Ik.to (m:=200) d_ (Ik.seg λw5 r5=> ?_);have a3:oN (i4 prog 184 Wg C n val RO) (· =i) w4 w5:=⟨r5.live G.live,r5.own,λh=>h.elim (λh=>by have:=t.low.2.1;grind) t.sep.2.2⟩;refine QM (i4 prog 184 Wg C n val RO) uh (mT:=4) (w00:=w4) (λw6 a2=> ?_) w5 a3;have f:=f.put (d:=15) d_ (.tuple #[]);rw[g,IS,S];revert f;generalize a.put (some 15) (.tuple #[])=a;intro f;refine Ik.now (fr:=(base 94).atR a (.inRegion (bP f94 6) []::_)) ?_;refine Ik.plain rfl (Ik.region (L:=[0,1]) rfl ?_);refine Ik.op f 16 (.makeFunc (.func 117) #[] #[.tmp 6, .tmp 2, .tmp 7, .tmp 3, .tmp 5]) (.func (.func 117) #[] #[.pk Wg 0, .pk N.bs 0, .pk i 0, .pk N.bg 0, .pk N.be 0]) d_ k_ s_ (λo g w _=> ?_) λa f=> ?_
 .have I:=gw (ev:=a.eval) (w:=w) prog g;rw[show(#[at6 6, .tmp 2, .tmp 7, .tmp 3, .tmp 5]:Array Operand).map a.eval=#[.pk Wg 0, .pk N.bs 0, .pk i 0, .pk N.bg 0, .pk N.be 0]from by simp[f.G 6,f.G 2,f.G 7,f.G 3,f.G 5]]at I;exact da I
 refine Ik.stop λw7 r7=> ?_;have Z:=aA a2 r7;have F:=G.meet Z;clear S H R g hr;cases g:(bP f94 7)[1]? with
 |none=>exact absurd g (by simp;decide)
 |some o=>
 obtain⟨S,H,R⟩:=cL (d:=none) (p:= .go {callee:= .value (.tmp 16),args:=#[],argTypes:=#[]}) g k_;have X:=S1 (P:=prog) H (f.G 16) w7;have M:=stepG_spawn (P:=prog) (main:=true) (b:=base 94) (a:=a) (k:=[.inBlock 1, .code (rG f94 8), .inLoop (je f94), .inBlock 0, .code (lZ f94)]) (cs:=cs) (rest:=[]) g (R _) (by simp[base]) X.1 rfl;unfold listed at M;rw[X.2,seen_none,S]at M;refine⟨rfl,_,_,(· =i),M,λb q=>q,λQ W=> ?_, ?_⟩
 .have u:=F.since.size;refine RF D t.ro hj ⟨ze t F.since,F.live,Q,λ_ _ h=>h.elim,⟨λb q=>q.elim (W b) λq=>ar4 (t.low.1 b q) u,ar4 t.low.2.1 u,ar4 t.low.2.2 u⟩,λb q=> ?_,t.sep.1,t.sep.2.1⟩ ((Z.since.keep i (.inl rfl)).trans x);have q:b=i:=q;subst q;exact⟨λhr=>Y b hr rfl,λe=>by have:=t.low.2.2;grind,λe=>by have:=t.low.2.1;grind⟩
 .have eV:(λb=>b=i/\¬b=i)=Vn:=by simp_all
  show y (λb=>b=i/\¬b=i) _ w7;rw[eV];exact O (a.put none undef) w7 (f.sub (AF rfl rfl rfl rfl rfl)) F
end
section
variable{y:Operand}
def EL(j:0<n)(l:n<=65536)(b:o.op= .makeSlice 43 x y)(f:ev x= .i n)(e:ev y= .i n):
 (execOp ev o).run prog w= .ok (.value (.sk w.heap.size n n)) (w.alloc (.cells (ar6 n (.string ⟨#[]⟩)) 9))/\(execOp ev o).events prog w #[]=#[]:=by
 have g:prog.underlying 43=some (.slice 9):=k_
 have c:DN.wrap (n:Int)=n:=by rw[as3];omega
 have h:Tryz.t9.bytes=16:=k_
 have d:¬(281474976710656<16*(n:Int)):=o_
 have a:n*16<=roomBytes:=by unfold roomBytes;omega
 have k:¬n=0:=o_
 constructor
 .simp[execOp,b,f,e,ZB,run_underlying g,c,d,askRoom,newRow,h,k,go_sem];refine congrArg (λz=>aH7 (aI2 (Value.sk w.heap.size n n)) (w.alloc (aE7 z 9))) (aw_ s_ λi p m=> ?_)
  grind
 .simp[execOp,b,f,e,ZB,run_underlying g,c,d,askRoom,a,newRow,h,go_sem]
def LU(a:o.op= .alloc 184):Mk prog ev o w #[.int .u64 0, .int .u32 0] 184:=by unfold Mk;simp[execOp,a];constructor<;>kernel_rfl
end
section
variable{N:g8}{C:Nat}{val:Nat->Value}{c:Frame}
def R1(D:ub N n val PL)(f:DI N Wg C n RO wE):∀r,r<=8->∀a w0,Has (QO N Wg (8- r)) 20 [] a->Sn (i4 prog 184 Wg C n val RO) wE w0->
 Ik (i4 prog 184 Wg C n val RO) (WQ (i4 prog 184 Wg C n val RO) (An (i4 prog 184 Wg C n val RO) f94 94 N wE (c::cs)) r) 300 Vn ((base 94).atR a [.code (je f94), .inLoop (je f94), .inBlock 0, .code (lZ f94)]) (c::cs) w0
 |0,_,a,w0,b,hSn=>WA f b hSn
 |r+1,hr,a,w0,b,hSn=>by
  refine Wz D f (j:=8-(r+1)) o_ b hSn λa w b g=>VH (k:=307) (Ik.now ?_);refine Ik.plain rfl (Ik.plain rfl (Ik.region (L:=[0,1]) rfl ?_));refine Ik.op b 17 (.binOp .add 3 (.tmp 12) (.const (.i 1)) 3) (.i (8- r:Nat)) d_ k_ s_ (λo e w _=> ?_) λa b=> ?_
  .have d:=oT (w:=w) e (b.G 12) rfl o_;rw[show(((8-(r+1):Nat):Int)+1)=((8- r:Nat):Int)from o_]at d;exact da d
  refine Ik.op b 12 (.move (.tmp 17)) (.i (8- r:Nat)) d_ k_ s_ (λo e w _=> ?_) λa b=> ?_
  .have d:=cH (ev:=a.eval) (w:=w) prog (.inl e);rw[b.G 17]at d;exact da d
  exact Ik.plain rfl (Ik.plain rfl (R1 D f r o_ a w (b.sub (AF rfl rfl rfl rfl rfl)) g))
def Ob(D:ub N n val PL)(f:DI N Wg C n RO wE)(b:Has [(6, .pt Wg),(2, .pt N.bs),(3, .pt N.bg),(5, .pt N.be)] 20 [] a)(e:WgLive 184 Wg wE):
 mr (i4 prog 184 Wg C n val RO) (An (i4 prog 184 Wg C n val RO) f94 94 N wE (c::cs)) 8 8 Vn
  (cD ((base 94).atR a (.inRegion (bP f94 2) []::[.code (.seq (.seq (rG f94 3) (.block 0 (.loop (je f94)))) (lZ f94))])) (c::cs)) wE:=by refine VH (k:=308) (Ik.now ?_);refine Ik.plain rfl (Ik.plain rfl (Ik.plain rfl (Ik.region rfl ?_)));refine Ik.op b 12 (.move (.const (.i 0))) (.i 0) d_ k_ s_ (λo d w _=>da (cH prog (.inl d))) λa b=> ?_;exact Ik.plain rfl (Ik.plain rfl (Ik.plain rfl (R1 D f 8 o_ a wE (b.sub (AF rfl rfl rfl rfl rfl)) ⟨e,fo.refl _ _⟩)))
end
def pv(V)(w)(o):cG V w (w.alloc o)=λb=>V b\/b=w.heap.size:=by
 funext b
 apply propext;unfold cG;rw[aJ]
 grind
def fo.alloc{R}{wK}(h:fo R wK w)(c:∀b,R b->b<wK.heap.size)(o):fo R wK (w.alloc o):=
 ⟨λb a=>(cV _ _ (ar4 (c b a) h.size)).trans (h.keep b a),by rw[aJ];have:=h.size;omega,h.os,h.output,h.tape⟩
def fo.set{R}{wK}(h:fo R wK w){a}(d:¬R a.block)(v):fo R wK (w.setCell a v):=
 ⟨λb c=>(cP w v (λe=>d (e▸c))).trans (h.keep b c),by simpa[JX]using h.size,h.os,h.output,h.tape⟩
def fo.rely{wK w₁}(h:fo X.RO wK w)(r:ce X V w w₁):fo X.RO wK w₁:=h.trans (r.own.mono λ_ a=> .inr a)
section
variable{s:dQ}{ex:Array Value}{ga:Addr}{glen gcap ty:Nat}{val:Nat->Value}{wK:World}{c:Frame}
structure At2 (s:dQ) (ex:Array Value) (ga:Addr) (glen gcap n:Nat) (RO:Nat->Prop) (wK:World) (f:Func) (g0:FuncId) (cs:List Frame) (V:Nat->Prop) (g:Goroutine) (w:World) (a:Act) (bs bg C be:Nat):Prop where
 here:g=cD ((base g0).atR a (.inRegion (bP f 2) [0]::[.code (.seq (.seq (rG f 3) (.block 0 (.loop (je f)))) (lZ f))])) cs
 has:Has [(2, .pt bs),(3, .pt bg),(5, .pt be)] 20 [] a
 sig:w.heap[bs]?=some (.cells (s.cells++ex) 119)
 gone:w.heap[bg]?=some (.cells #[.slice (some ga) glen gcap] 24)
 list:w.heap[C]?=some (.cells (ar6 n (.string ⟨#[]⟩)) 9)
 ends:w.heap[be]?=some (.cells #[.sk C n n] 43)
 own:∀b,V b↔b=bs\/b=bg\/b=C\/b=be
 order:wK.heap.size<=bs/\bs<bg/\bg<C/\C<be/\be<w.heap.size
 kept:fo RO wK w
def W4(a0:0<n)(hn:n<=65536)(l:s.count=n)(E:∀b,RO b->b<wK.heap.size)(f:Has [(0, .agg (s.cells++ex)),(1, .slice (some ga) glen gcap)] 20 [] a):
 Ik (i4 prog ty 0 0 n val RO) (λV g w=>∃a bs bg C be,At2 s ex ga glen gcap n RO wK f94 94 (c::cs) V g w a bs bg C be) 30 Vn
  ((base 94).atR a [.code (.seq (rG f94 0) (.seq (rG f94 1) (.seq (rG f94 2)
    (.seq (.seq (rG f94 3) (.block 0 (.loop (je f94)))) (lZ f94)))))]) (c::cs) wK:=by
 refine Ik.plain rfl (Ik.region (L:=[0,1,2]) rfl ?_);refine Ik.mk f 2 (.box 119 (.tmp 0)) (λw=> .pk w.heap.size 0) (λ_=> .cells (s.cells++ex) 119) d_ k_ s_ (λo i w _=> ?_) λa z Z f=> ?_
 .have:=mg (ev:=a.eval) (w:=w) prog i;rw[f.G 0]at this;exact⟨this.1,λe j=>by rw[this.2]at j;simp at j⟩
 have K:=(fo.rely (fo.refl RO wK) Z).alloc E (.cells (s.cells++ex) 119);rw[zt];have s1:wK.heap.size<=z.heap.size:=Z.own.size;have Q:=aY z (.cells (s.cells++ex) 119);have U:=aJ z (.cells (s.cells++ex) 119);revert K Q U;generalize z.alloc (.cells (s.cells++ex) 119)=u1;generalize z.heap.size=bs at s1 f⊢;intro K Q U;clear Z;refine Ik.mk f 3 (.box 24 (.tmp 1)) (λw=> .pk w.heap.size 0) (λ_=> .cells #[.slice (some ga) glen gcap] 24) d_ k_ s_ (λo i w _=> ?_) λa u G f=> ?_
 .have:=mg (ev:=a.eval) (w:=w) prog i;rw[f.G 1]at this;exact⟨this.1,λe j=>by rw[this.2]at j;simp at j⟩
 have J:=(fo.rely K G).alloc E (.cells #[.slice (some ga) glen gcap] 24);rw[pv];have Y:bs<u.heap.size:=by have:=G.own.size;omega
 have F:(u.alloc (.cells #[.slice (some ga) glen gcap] 24)).heap[bs]?=some (.cells (s.cells++ex) 119):=(cV _ _ Y).trans ((G.own.keep bs o_).trans Q);have O:=aY u (.cells #[.slice (some ga) glen gcap] 24);have T:=aJ u (.cells #[.slice (some ga) glen gcap] 24);revert J F O T;generalize u.alloc (.cells #[.slice (some ga) glen gcap] 24)=u2;generalize u.heap.size=bg at Y f⊢;intro J F O T;clear G K Q U;refine Ik.op f 4 (.assign (.const (.slice none 0 0))) (.slice none 0 0) d_ k_ s_ (λo i w _=>da (cH (ev:=a.eval) (w:=w) prog (.inr i))) λa f=>Ik.plain rfl (Ik.plain rfl (Ik.region (L:=[0,1,2,3,4,5]) rfl ?_));refine Ik.op f 8 (.fieldAddr 119 (.tmp 2) 0) (.pk bs 0) d_ k_ s_ (λo i w _=>da (vN i (f.G 2))) λa f=>Ik.op f 9 (.fieldAddr 115 (.tmp 8) 6) (.pk bs 6) d_ k_ s_ (λo i w _=>da (BA i (f.G 8))) λa f=>Ik.op f 10 (.load 3 (.tmp 9)) (.i n) d_ k_ s_ (λo i w r=>uW (.inl (.inl rfl)) (aO bH i (f.G 9) (by rw[aH ((r.own.keep bs o_).trans F),←l,ay5 (show 6<s.cells.size by simp[dQ.cells])];rfl))) λa f=> ?_;refine Ik.mk f 11 (.makeSlice 43 (.tmp 10) (.tmp 10)) (λw=> .sk w.heap.size n n) (λ_=> .cells (ar6 n (.string ⟨#[]⟩)) 9) d_ k_ s_ (λo i w _=> ?_) λa t B f=> ?_
 .have:=EL (ev:=a.eval) (w:=w) a0 hn i (f.G 10) (f.G 10);simp_all
 have I:=(fo.rely J B).alloc E (.cells (ar6 n (.string ⟨#[]⟩)) 9);rw[pv];have X:bg<t.heap.size:=by have:=B.own.size;omega
 have P:(t.alloc (.cells (ar6 n (.string ⟨#[]⟩)) 9)).heap[bs]?=some (.cells (s.cells++ex) 119):=(cV _ _ o_).trans ((B.own.keep bs o_).trans F);have N:(t.alloc (.cells (ar6 n (.string ⟨#[]⟩)) 9)).heap[bg]?=some (.cells #[.slice (some ga) glen gcap] 24):=(cV _ _ X).trans ((B.own.keep bg o_).trans O);have H:=aY t (.cells (ar6 n (.string ⟨#[]⟩)) 9);have S:=aJ t (.cells (ar6 n (.string ⟨#[]⟩)) 9);revert I P N H S;generalize t.alloc (.cells (ar6 n (.string ⟨#[]⟩)) 9)=u3;generalize t.heap.size=C at X f⊢;intro I P N H S;clear B J F O T;refine Ik.mk f 5 (.alloc 43) (λw=> .pk w.heap.size 0) (λ_=> .cells #[.slice none 0 0] 43) d_ k_ s_ (λo i w _=>⟨(mV i).1,λe j=>by rw[(mV i).2]at j;simp at j⟩) λa q y f=> ?_;have k4:=(fo.rely I y).alloc E (.cells #[.slice none 0 0] 43);rw[pv];have W:C<q.heap.size:=by have:=y.own.size;omega
 have f4:(q.alloc (.cells #[.slice none 0 0] 43)).heap[bs]?=some (.cells (s.cells++ex) 119):=(cV _ _ o_).trans ((y.own.keep bs (.inl (.inl (.inl rfl)))).trans P);have g4:(q.alloc (.cells #[.slice none 0 0] 43)).heap[bg]?=some (.cells #[.slice (some ga) glen gcap] 24):=(cV _ _ o_).trans ((y.own.keep bg (.inl (.inl (.inr rfl)))).trans N);have l4:(q.alloc (.cells #[.slice none 0 0] 43)).heap[C]?=some (.cells (ar6 n (.string ⟨#[]⟩)) 9):=(cV _ _ W).trans ((y.own.keep C (.inl (.inr rfl))).trans H);have e4:=aY q (.cells #[.slice none 0 0] 43);have z4:=aJ q (.cells #[.slice none 0 0] 43);revert k4 f4 g4 l4 e4 z4;generalize q.alloc (.cells #[.slice none 0 0] 43)=u4;generalize q.heap.size=be at W f⊢;intro k4 f4 g4 l4 e4 z4;clear y I P N H S;cases i:(bP f94 1)[5]? with
 |none=>exact absurd i (by simp;decide)
 |some o=>
 obtain⟨e1,e2,e3⟩:=cL (d:=none) (p:= .store 43 (.tmp 5) (.tmp 11)) i k_;refine Ik.makes i (e3 _) (by rw[e2];simp) λm A=> ?_;have R:m.heap[be]?=some (.cells #[.slice none 0 0] 43):=(A.own.keep be (.inl (.inr rfl))).trans e4;have D:=ff (w:=m) (b:=be) (k:=0) (v:= .sk C n n) (v0:= .slice none 0 0) rfl rfl k_ e2 (f.G 5) (f.G 11) (by rw[aH R];rfl) (by unfold If;simp_all);refine⟨_,D.1, ?_, ?_⟩
 .rw[D.2];exact GH (a:=⟨be,0,none⟩) (.inr rfl) _
 rw[zr,e1];have z5:be<m.heap.size:=(gA R).1;have a1:¬RO be:=λh=>by grind
 have k5:=(fo.rely k4 A).set (a:=⟨be,0,none⟩) a1 (.sk C n n);have f5:=(cP m (a:=⟨be,0,none⟩) (b:=bs) (.sk C n n) (show bs≠be from o_)).trans ((A.own.keep bs (.inl (.inl (.inl (.inl rfl))))).trans f4);have g5:=(cP m (a:=⟨be,0,none⟩) (b:=bg) (.sk C n n) (show bg≠be from o_)).trans ((A.own.keep bg (.inl (.inl (.inl (.inr rfl))))).trans g4);have l5:=(cP m (a:=⟨be,0,none⟩) (b:=C) (.sk C n n) (show C≠be from o_)).trans ((A.own.keep C (.inl (.inl (.inr rfl)))).trans l4);have h5:=kJ (v:= .sk C n n) R;have z6:be<(m.setCell ⟨be,0,none⟩ (.sk C n n)).heap.size:=by simp_all
 refine Ik.plain rfl (Ik.plain rfl (Ik.region (L:=[0]) rfl (Ik.stop λw6 x=>⟨a.put none undef,bs,bg,C,be, ?_⟩)));exact
  {here:=rfl
   has:=f.sub λd v M=>by
    by_cases q2:d=2
    .subst q2;exact M
    by_cases q3:d=3
    .subst q3;exact M
    grind
   sig:=(x.own.keep bs (.inl (.inl (.inl (.inl rfl))))).trans f5
   gone:=(x.own.keep bg (.inl (.inl (.inl (.inr rfl))))).trans g5
   list:=(x.own.keep C (.inl (.inl (.inr rfl)))).trans l5
   ends:=(x.own.keep be (.inl (.inr rfl))).trans h5
   own:=λb=>⟨λh=>o_,λh=>o_⟩
   order:=⟨s1,Y,X,W,ar4 z6 x.own.size⟩
   kept:=fo.rely k5 x}
end
end
section
open Go Go.Conc Go.RowKit
open Go.ConcN (WgLive sumTo upd CT WD CTag AllQuit)
open Go.ConcR (DC0 WgAt)
def ub.re{N}{val}{PL}(D:ub N n val PL)(bs bg be):ub {N with bs:=bs,bg:=bg,be:=be} n val PL:=
 ⟨D.env,D.same,D.here,D.calm,D.low,D.tree,D.plain,D.glen,D.count,D.small,D.links⟩
section
variable{N:g8}{val:Nat->Value}{wK:World}{c:Frame}{S:Nat->Prop}
def Y4(n:Nat)(val:Nat->Value)(S:Nat->Prop)(wK:World)(P:Program)(c:Frame)(cs:List Frame)(gs:Array Goroutine)(w:World)(t:Trace)(q:Nat->Nat)(Wg C:Nat):Prop:=
 gs[0]?=some (cD (c.finish (.sk C n n)) cs)/\fo (λb=>b<wK.heap.size/\¬S b) wK w/\w.heap[C]?=some (.cells (aw8 λi:Fin n=>val i) 9)/\wK.heap.size<=C/\wK.heap.size<=Wg/\Wg<w.heap.size/\Wg≠C/\
  Past (dq λb=>S b\/b=Wg) w.heap.size t/\Quiet (dq λb=>S b\/b=Wg) t/\(∀op∈t,op.g<gs.size)/\Leavers P t gs q
theorem Ov(D:ub N n val PL)(hn0:0<n)(hga:∀b,N.gr b->b<wK.heap.size/\¬S b)(hz:0<wK.heap.size/\¬S 0)(hdig:Vd N n wK)(htab:mq N.wL wK)(hG:N.G<=wK.heap.size)(hzero:∃v0,wK.cell? ⟨0,0,none⟩=some v0)
  (hF:Has [(0, .agg (N.s.cells++N.ex)),(1, .slice (some N.ga) N.glen N.gcap)] 20 [] a) {gs:Array Goroutine} {sl:Option (Nat×Nat)} {t:Trace} {q:Nat->Nat} {code:Code} (hcode:f94.body=some code)
 (hB:pQ prog S Vn (λb=>b<wK.heap.size/\¬S b) gs wK t q (cD ((base 94).atR a [.code code]) (c::cs)))
 (hfin:∀gs w sl t q Wg C,Y4 n val S wK prog c cs gs w t q Wg C->YV prog Post (crowd gs w sl) t):YV prog Post (crowd gs wK sl) t:=by
 rw[Ut]at hcode;cases hcode;have hpre:=W4 (ty:=184) (val:=val) (c:=c) (cs:=cs) (RO:=λb=>b<wK.heap.size/\¬S b) hn0 D.small D.count (λb hb=>hb.1) hF;refine JK (X:=i4 prog 184 0 0 n val λb=>b<wK.heap.size/\¬S b) (λV g w ⟨a,bs,bg,C,be,h⟩=>by rw[h.here]) ?_ 30 Vn gs wK sl t q _ hB hpre.now;intro V gs w sl t q a hB hA;obtain⟨act,bs,bg,C,be,h2⟩:=hA w (ce.refl _ _ _);have hae:=h2.here;subst hae;obtain⟨o1,o2,o3,o4,o5⟩:=h2.order;have hw':=aJ w (.cells #[.int .u64 0, .int .u32 0] 184);have hwat:=aY w (.cells #[.int .u64 0, .int .u32 0] 184);have hkp:=h2.kept.alloc (λb hb=>hb.1) (.cells #[.int .u64 0, .int .u32 0] 184);have hszK:=h2.kept.size;have keep4:∀b,b<w.heap.size->(w.alloc (.cells #[.int .u64 0, .int .u32 0] 184)).heap[b]?=w.heap[b]?:=λb hb=>cV _ _ hb;have h0:DI {N with bs:=bs,bg:=bg,be:=be} w.heap.size C n (λb=>(b<wK.heap.size/\¬S b)\/b=bs\/b=bg\/b=be) (w.alloc (.cells #[.int .u64 0, .int .u32 0] 184)):=
  {pap:=
    {sig:=(keep4 bs o_).trans h2.sig
     gone:=(keep4 bg o_).trans h2.gone
     ends:=(keep4 be o_).trans h2.ends
     digs:=λw2 h2=>hdig w2 λb hb=>(h2 b hb).trans (hkp.keep b (hga b hb))
     tab:=by obtain⟨c,e,f,q1,q2,q3⟩:=htab;exact⟨c,e,f,q1,q2,(hkp.keep 0 hz).trans q3⟩
     size:=as8 hG hkp.size
     zero:=by obtain⟨v0,h0⟩:=hzero;refine⟨v0, ?_⟩;rw[←h0];unfold AT;rw[hkp.keep 0 hz]}
   ro:=⟨.inr (.inl rfl), .inr (.inr (.inl rfl)), .inr (.inr (.inr rfl)),λb hb=> .inl (hga b hb), .inl hz⟩
   low:=⟨λb hb=>by grind,by rw[hw'];omega,by rw[hw'];omega⟩
   sep:=⟨λhb=>o_,o_,λhb=>o_⟩}
 have hwg:WgAt 184 w.heap.size (w.alloc (.cells #[.int .u64 0, .int .u32 0] 184)) 0 0:=hwat;cases ho:(bP f94 2)[0]? with
 |none=>exact absurd ho (by simp;decide)
 |some o=>
 obtain⟨e1,e2,e3⟩:=cL (d:=some 6) (p:= .alloc 184) ho k_;have hsp:=Ob (val:=val) (c:=c) (cs:=cs) (D.re bs bg be) h0 (a:=act.put (some 6) (.pk w.heap.size 0)) ((h2.has.put (d:=6) d_ _)) ⟨0,0,hwg⟩;refine Er (X:=i4 prog 184 w.heap.size C n val λb=>(b<wK.heap.size/\¬S b)\/b=bs\/b=bg\/b=be) (S:=S) (N:=8)
  (Fin:=Im (i4 prog 184 w.heap.size C n val λb=>(b<wK.heap.size/\¬S b)\/b=bs\/b=bg\/b=be) (w.alloc (.cells #[.int .u64 0, .int .u32 0] 184)) c cs)
  (Anch:=An (i4 prog 184 w.heap.size C n val λb=>(b<wK.heap.size/\¬S b)\/b=bs\/b=bg\/b=be) f94 94 {N with bs:=bs,bg:=bg,be:=be} (w.alloc (.cells #[.int .u64 0, .int .u32 0] 184)) (c::cs))
  (V:=V) (V0:=Vn) (w':=w.alloc (.cells #[.int .u64 0, .int .u32 0] 184)) (λV g w h=>by rw[h.1]) (λV g w h=>QE _ _ _ _ _ _ _ h) (λV g w h=>Kw h0 V g w h) d_ d_ ?_ ⟨hB.at0,hB.leave,hB.past,hB.quiet,hB.who,hB.low,hB.own,λb hb=>hb.elim⟩ rfl rfl ?_ (by rw[hw'];omega) ?_ hwg (.inl hz) ?_ hsp
 .intro m gs w2 sl t D2 Nd V0 q f0 a hSt hFin;obtain⟨hq,_,_⟩:=hSt.mode.fin_inv trivial;obtain⟨he,hk⟩:=hFin w2 (ce.refl _ _ _);subst he;have hcell:∀k,k<n->w2.cell? ⟨C,k,none⟩=some (val k):=λk hk=>hSt.crew.has (k%8) o_ (by have:=hq (k%8) o_;omega) k ⟨rfl,hk⟩;obtain⟨cells,hl1,hl2⟩:=hSt.crew.list;have hcells:cells=aw8 λi:Fin n=>val i:=by
   apply aw_
   .simp_all
   .intro k h1 h3;have hk:k<n:=(by simp_all);have:=hcell k hk;rw[aH hl1,BY h1]at this;simp_all
  refine hfin gs w2 sl t (leaving m D2 q) w.heap.size C ⟨hSt.at0, ?_, ?_,o_,hszK, ?_,o_,hSt.past,hSt.crew.ct.quiet,λop hop=> ?_,hSt.leavers⟩
  .exact hkp.trans (hk.mono λb hb=> .inl hb)
  .simp_all
  .exact hSt.crew.lies.wgl.1
  .obtain⟨k,hk1,hk2⟩:=Array.getElem_of_mem hop;have:=hSt.crew.ct.gs k op (by simp_all);rw[hSt.crew.size];omega
 .intro d;have hr:=LU (w:=w.at d) (ev:=act.eval) e2;have hst:=stepG_value (P:=prog) (main:=true) (b:=base 94) (a:=act) (k:=[.code (.seq (.seq (rG f94 3) (.block 0 (.loop (je f94)))) (lZ f94))]) (cs:=c::cs) (rest:=[]) ho (e3 _) (by simp[base]) hr.1;unfold listed at hst;rw[hr.2,seen_none,e1]at hst;exact hst
 .refine⟨λi i' k h1 h3=>h1.1.symm.trans h3.1,by grind,⟨by simp_all,by grind⟩,λb hb=>⟨h0.low.1 b hb,λe=>h0.sep.2.2 (by simp_all),λe=>h0.sep.1 (by simp_all)⟩,λb hb=> ?_,λb hb=>hb.elim,λi hi=>absurd hi (aD4 i),λi i' hi=>absurd hi (aD4 i)⟩;have hlow:=hB.low b hb;have hnew:∀x,x=bs\/x=bg\/x=C\/x=be->¬S x:=λx hx=>(hB.own x ((h2.own x).2 hx)).2
  grind
 .exact⟨_,(keep4 C o_).trans h2.list,s_⟩
end
end
section
open Go.Conc Go.RowKit
def D4{w1}{p}(Q:iw g)(I:jk g.frame/\oC g.frame)(u:jJ PL g.frame w f args w1)(h:stepG PL true g w= .go (bT PL f args p) w1 es):∃c cs,p=c::cs:=by
 have⟨j,cs,X,Y,y⟩:=g;have⟨K,J⟩:=Q;simp only at K J I u;subst K J;have⟨P,u⟩:=u;have S:stepG PL true {frame:=j,callers:=cs,status:= .running,dying:=none,offers:=y} w=stepG.exec PL true true j cs none w:=by unfold stepG;simp[P]
 rw[S]at h;obtain⟨M,n,G,k,o,z,O,N,D,E,m⟩|⟨x,H,a,b,k,l,i,v,z,t,m⟩:=u
 .have⟨V,W⟩:=rz cs I.1 m;rw[kB z O N D,W]at h;have F:bT PL f args (j::cs)=bT PL f args p:=by injection h
  exact⟨j,cs,(congrArg aG8 F).symm⟩
 .cases q:(Hb j.fn j.tmps H a b j.roundOf).runT PL w #[]with
  |mk r T=>
   have:=Y3 PL (Hb j.fn j.tmps H a b j.roundOf) w #[];rw[q,t]at this;have B:r= .ok (l,i) v:=this;rw[B]at q;rw[gH z q]at h;cases C:(db (cn j k l i) x l).runT PL v #[]with
   |mk L U=>
    have:=Y3 PL (db (cn j k l i) x l) v #[];rw[C,m]at this;have A:L= .ok (.enter f args) w1:=this;rw[A]at C;have R:eO (cn j k l i):=λd w r s k e=>by cases e
    rw[ee R C rfl]at h;have F:bT PL f args (cn j k l i::cs)=bT PL f args p:=by simp at h;injection h
    exact⟨cn j k l i,cs,(congrArg aG8 F).symm⟩
def Ft{G T}{base}(p:dp G T D ρ wL wM)(w:fP<G)(x:∃fn d,PL.funcs[f]?=some fn/\PM.funcs[f]?=some d/\fn.ntmps=d.ntmps/\fn.body=d.body/\∃c,fn.body=some c/\vq f c=true){b}{g i}
 (l:∀a,aV G D ρ a->b=args.map (aE a)) (k:∀a,aV G D ρ a->i=g.map (bF a)++base) (j:mt .normal g):fc G D ρ base (bT PL f args g) (bT PM f b i):=by
 have⟨fn,d,o,t,s,r,c,q,n⟩:=x;have h:∀v∈args,kZ v=false:=λv u=>p.noTab w λa m=>oe ((l a m).symm.trans (l ρ p.self)) u;refine⟨λa m=> ?_,k, ?_,j,rfl,rfl,rfl,rfl⟩
 .show as7 PM f b .normal=bF a (as7 PL f args .normal);rw[l a m];exact qi ⟨fn,d,o,t,s,r⟩ args h (GN n) .normal
 .refine⟨⟨⟨rfl,rfl, .inl rfl,λ_=>rfl⟩, ?_⟩,gT λ_ _ e=>by cases e⟩;simp[bT,as7,o,IS,q,IN,lP,List.all_nil,Bool.and_true];exact GO n
section
variable{a:Addr}{u:Value}
def EY(h:(as_ 3 (.pointer (some a))).run tP w= .ok u w'):w'=w:=by
 have b:(isAgg 3).run tP w= .ok false w:=k_
 simp only[as_,VJ,loadVar,pure_bind,Rk,b,Zu]at h;simp only[BZ,↓reduceIte]at h;unfold load at h;rw[J2]at h;split at h
 .cases h;rfl
 .split at h
  .simp_all
  .cases h
def CF:∀e∈(as_ 3 (.pointer (some a))).events tP w #[],∃x,e=⟨.cell x,false,false⟩:=by
 have g:(as_ 3 (.pointer (some a))).runT tP w #[]=(load a:Sem Value).runT tP w #[]:=by obtain o_:∃d,prog.underlying 3=some d/\(∀l,d≠ .struct l)/\∀n e,d≠ .array n e:=s_;unfold as_ loadVar isAgg underlying VJ;simp_all
 intro e f;have c:(as_ 3 (.pointer (some a))).events tP w #[]=((load a:Sem Value).runT tP w #[]).2:=congrArg Prod.snd g;rw[c]at f;have b:=f;unfold load at b;rw[Sem.runT]at b;split at b
 .simp_all
 .split at b
  .simp[Sem.runT]at b
   grind
  .simp at b
end
def FB{c}{y A}{T}(l:dp 2 T D c y A){ga}(E:∀a,aV 2 D c a->bB a ga=bB c ga){s}{ex}{glen gcap}{dig}
 (V:∀i,i<n->∃wc,Bw y wc/\(as_ 3 (.pointer (some (ga.add i)))).run lT wc= .ok (.i (dig i)) wc):
 Vd {s:=s,ex:=ex,bs:=0,bg:=0,be:=0,ga:=bB c ga,glen:=glen,gcap:=gcap,dig:=dig,gr:=λr=>r<2\/∃b,D b/\c b=r,wL:=y,G:=2} n A:=by
 intro B m i U;have⟨wc,N,S⟩:=V i U;have L:1<A.heap.size:=by have:=l.far;omega
 have X:1<B.heap.size:=by grind
 have J:dp 2 wc.drawn D c wc B:=by
  refine⟨l.inj,λb k=> ?_,o_,l.glob,⟨o_,as8 l.far.2.1 N.size,X⟩,l.out⟩;have⟨o,Q,P,O⟩:=l.obj b k;refine⟨o,(N.block b (l.ltL k)).trans Q,P,λf W=> ?_⟩
  grind
 have t:∀a,aV 2 D c a->aE a (.pointer (some (ga.add i)))= .pointer (some ((bB c ga).add i)):=λa K=>by
  have w:bB a (ga.add i)=(bB a ga).add i:=by unfold bB Y1;split<;>rfl
  rw[aE,ar8,w,E a K]
 have⟨D2,a,r',w2,Y,w,e2,z,Z⟩:=eH yg.load yg.store (λf v=>aE f v) _ (as_ 3 (.pointer (some ((bB c ga).add i)))) D c wc B J (λa K=>by have:=iG (ρ:=a) yg.same 3 (.pointer (some (ga.add i)));simp_all) #[] _ wc S rfl o_
 cases e2 with
 | @ok _ u _ _ R=>
   have C:u= .i (dig i):=(R a z.rel.self).trans (by simp[aE]);subst C;rw[IE]at w;have d:=(Prod.mk.inj w).1;have g:=EY d;subst g;refine⟨d,λe H=> ?_⟩;have⟨x,M⟩:=CF e H;refine⟨x,M, ?_⟩;rw[((Prod.mk.inj w).2)]at H;have p:=Z e (by simpa using H);rw[M]at p;have⟨_,b,q,I⟩:=p;obtain h|⟨_,h⟩:=z.new b q
   .exact .inr ⟨b,h,by rw[←I,(z.ext b h).2]⟩
   .have:=z.rel.ltM q;omega
def J6(a)(s:dQ)(ex:List Value):aE a (.agg (s.cells++ex.toArray))= .agg (s.cells++(ex.map (aE a)).toArray):=by
 rw[aE]
 congr 1
 simp[dQ.cells,aE]
def Lx(a)(KS)(s)(dig)(n):fg a (.cells (aw8 λi:Fin n=>L1.Ae KS s dig i.val) 9)= .cells (aw8 λi:Fin n=>L1.Ae KS s dig i.val) 9:=by
 show aE7 (Array.map (aE a) (aw8 λi=>L1.Ae KS s dig i.val)) 9 _=_
 congr 1
 apply aw_
 .simp
 .intro i c b;simp[L1.Ae,aE]
def Oc{v0 v1}(g:args[0]?=some v0)(f:args[1]?=some v1):Has [(0,v0),(1,v1)] N [] ⟨args++ar6 (N- args.size) undef,[]⟩:=by
 refine⟨rfl,by simp;omega,λd v b=> ?_⟩
 grind
def fc.bare{G T}{a}{wL e}{base}{c d}(h:fc G D a base c d)(f:dp G T D a wL e):fc G D a [] c {d with callers:=c.callers.map (bF a)} where
 frame:=h.frame
 callers:=λb g=>by have i:=(h.callers a f.self).symm.trans (h.callers b g);simp_all
 ok:=h.ok
 oks:=h.oks
 run:=h.run
def Pe{B:List Frame}{D0 S0:Nat->Prop}{W:World}{T:Goroutine->World->Prop}(K:∀g w,T g w->∀τ d,∃o w1 es,stepG lT true g (my w τ d)= .ended o w1 es)(hS:∀g w,T g w->g.frame.mode= .returning/\g.callers=[])(ab:KS.length=64)(ak:W.rangeAt 0 0 (aQ KS)):
 ND B S0 tP lT 94 2 D0 W T Post:=by
 intro gL wL gs U sl ap t D ρ S gM q d d0 I w1 ba ht hw he aw aa;obtain⟨p,ad⟩:=ba;have hW:dp 2 w1.drawn D ρ (my wL U.tape d) (U.at d):=dp.re (wL':=my wL U.tape d) (wM':=U.at d) p.rel rfl rfl λi _=>rfl;have Z:bE (my wL U.tape d):=λb o ho=>p.calm b o ho;have J:mq (my wL U.tape d) (U.at d):=p.tab;obtain⟨bw,bv,hL,D1,k,m,bl,z,am,hM,Q,ai,aq,a,bd⟩:=un yg hW p.grel he (ar5 _) true true;obtain⟨c,cs,rfl⟩:=D4 hw p.grel.ok he hL;have V:iy lT T (bT lT 94 I (c::cs)) w1:=by
  cases ht with
  |stop F=>
   obtain⟨o,w2,es,e⟩:=K gL wL F U.tape d;simp_all
  |go n hn bt au=>
   obtain⟨es,e⟩:=hn U.tape d
   grind
 have a5:iw (bT lT 94 I (c::cs)):=⟨rfl,rfl⟩;have R:bE w1:=a.quiet Z;have u:mq w1 z:=J.ran yg.tab hW a;have hq:∀g2 w2,StepsIn (λ_=>True) lT (solo (bT lT 94 I (c::cs)) w1) (solo g2 w2)->bE w2:=by
  obtain⟨an,bq,bh,D2,A,Y,a3,wM2,bp,bu,a0,ag,ac,M,bo⟩:=un uv hW (p.grel.bare hW) he (ar5 _) true true;have e':=hL.symm.trans bh;injection e' with e1 e2;have e3:c::cs=an:=congrArg aG8 e1;subst e3;have bc:fc 2 D2 A [] (bT lT 94 I (c::cs)) (bT lT 94 Y a3):=
   Ft M.rel uv.tab ⟨wl,wl,uQ,uQ,rfl,rfl,oV,rfl,Ba _ _ _ uQ rfl⟩ a0 ag ac
  have hp:lC 2 (λ_=>False) (bT lT 94 I (c::cs)) w1 (bT lT 94 Y a3) wM2:=⟨⟨D2,A,M.rel.re rfl rfl λi hi=>o_,bc,λb y=>y.elim⟩,J.ran uv.tab hW M,R⟩;intro g2 w2 F;obtain⟨_,_,az⟩:=LF uv Ba K V a5 _ _ hp g2 w2 F;exact az.calm
 have a9:∀b,D b->ρ b≠fP:=λb y e=>by have:=hW.out _ y;have:=hW.glob b;have:=yg.tab;omega
 have X:z.heap[fP]?=W.heap[fP]?:=by obtain⟨c,e,f,q1,q2,q3⟩:=J;exact(a.keep fP (aK q3) a9).trans p.tabW
 have bi:w1.heap[fP]?=W.heap[fP]?:=by obtain⟨c,e,f,q1,q2,q3⟩:=u;simp_all
 have al:w1.rangeAt 0 0 (aQ KS):=λj v hv=>by have:=ak j v hv;unfold AT at this⊢;have e:w1.heap[0]?=W.heap[0]?:=bi;simp_all
 have bj:z.rangeAt 0 0 (aQ KS):=λj v hv=>by have:=ak j v hv;unfold AT at this⊢;have e:z.heap[0]?=W.heap[0]?:=X;simp_all
 have a1:=a.rel.far;obtain⟨s,ex,ga,glen,gcap,dig,bL,w2,H⟩:=L1.Vk K hS hq ab al o_ V;have ah:=ai k a.rel.self;obtain⟨c',cs',af⟩:∃c' cs',bl=c'::cs':=⟨bF k c,cs.map (bF k)++B,by rw[ah];rfl⟩;subst af;have bf:m[0]?=some (.agg (s.cells++(ex.map (aE k)).toArray)):=by rw[Q k a.rel.self,By,H.a0,ar8,J6]
 have aj:m[1]?=some (.slice (some (bB k ga)) glen gcap):=by rw[Q k a.rel.self,By,H.a1,ar8,aE,ar8]
 have bb:∀A,aV 2 D1 k A->bB A ga=bB k ga:=λA h2=>by
  have e:=Q A h2
  have:m[1]?=some (.slice (some (bB A ga)) glen gcap):=by rw[e,By,H.a1,ar8,aE,ar8]
  grind
 have E:∀b,D1 b->¬S (k b):=λb y F=>by
  rcases a.new b y with h1|⟨_,h2⟩
  .rw[(a.ext b h1).2]at F;exact p.shun b h1 F
  .have h3:U.heap.size<=k b:=h2;have:=(p.shunLow _ F).2;omega
 have av:U.heap.size<=z.heap.size:=a.size;have a2:∀e∈am,EvL (dq S) z.heap.size e:=λe he=>MJ a.rel yg.tab E (λr F=>(p.shunLow r F).1) (.inl (bd e he));have a8:0<gs.size:=(gA p.at0).1;have a6:=runT_crowd_go (P:=tP) (sl:=ap) (i:=0) p.at0 (show stepG tP (0==0) gM (U.at d)=_ from hM);refine YV.next (aw.trans a6) ?_;have ae:bT tP 94 m (c'::cs')=cD ((base 94).atR ⟨m++ar6 (20- m.size) undef,[]⟩ [.code ((f94.body).getD .skip)]) (c'::cs'):=by unfold bT;rw[enter_at m func94 (c:=(f94.body).getD .skip) rfl];rfl
 rw[ae];refine Ov (N:={s:=s,ex:=(ex.map (aE k)).toArray,bs:=0,bg:=0,be:=0,ga:=bB k ga,glen:=glen,gcap:=gcap,dig:=dig,gr:=λr=>r<2\/∃b,D1 b/\k b=r,wL:=w1,G:=2}) (n:=s.count) (val:=VC KS {s:=s,ex:=(ex.map (aE k)).toArray,bs:=0,bg:=0,be:=0,ga:=bB k ga,glen:=glen,gcap:=gcap,dig:=dig,gr:=λr=>r<2\/∃b,D1 b/\k b=r,wL:=w1,G:=2}) (S:=S) (wK:=z) (c:=c') (cs:=cs') (q:=q)
  (Qd rfl H.fine al ab a1.2.1 ⟨_,_,_,u.choose_spec.choose_spec.choose_spec.1,u.choose_spec.choose_spec.choose_spec.2.1,u.choose_spec.choose_spec.choose_spec.2.1⟩ R H.glen rfl H.small H.links) H.pos ?_ ⟨o_,λh=>absurd (p.shunLow 0 h).1 d_⟩ (FB a.rel bb H.digs) u a1.2.2 ?_ (Oc bf aj) rfl ?_ ?_
 .rintro b (y|⟨b0,y,rfl⟩)
  .exact⟨o_,λh=>absurd (p.shunLow b h).1 o_⟩
  .exact⟨a.rel.ltM y,E b0 y⟩
 .obtain⟨v0,ar⟩:∃v0,(aQ KS)[0]?=some v0:=by
   cases KS with
   |nil=>simp at ab
   |cons x L=>exact⟨_,rfl⟩
  exact⟨v0,bj 0 v0 ar⟩
 .exact
   {at0:=AI (by simp_all)
    leave:=pp p.leave gM _ z _ _ am a8
    past:=(p.past.mono av).own a2
    quiet:=p.quiet.app λop O x hx F=>by obtain⟨e,he,rfl⟩:=Go.Conc.mem_ofEvents O;exact⟨(a2 e he).1 x hx F,λ_=>rfl⟩
    who:=λop O=>by
     rw[Array.size_setIfInBounds,Array.size_map];rcases Array.mem_append.1 O with O|O
     .exact p.who op O
     .exact cN op O▸a8
    low:=λb y=>by have:=(p.shunLow b y).2;omega
    own:=λb y=>y.elim
    ro:=λb y=>y}
 .intro bk w3 br t2 q2 Wg C hB;obtain⟨b1,b2,b3,b4,b5,b6,b7,b8,b9,bn,bm⟩:=hB;have a4:∀b,D1 b->w3.heap[k b]?=z.heap[k b]?:=λb y=>b2.keep (k b) ⟨a.rel.ltM y,E b y⟩;have z3:w3.heap[fP]?=z.heap[fP]?:=b2.keep 0 ⟨o_,λh=>absurd (p.shunLow 0 h).1 d_⟩;have z2:w2.heap[fP]?=w1.heap[fP]?:=H.keep.block 0 o_;obtain⟨A,a7,ay,ax⟩:=EQ (P:=tP) (D0:=D0) (W:=W) (S:=S) (wL2:=w2) (wM2:=w3) (bL:=bL) (C:=C) (Wg:=Wg) (c:=c) (c':=c') (cs:=cs) (cs':=cs') (v:= .sk bL s.count s.count) (v':= .sk C s.count s.count) (gs:=bk) (t:=t2) (q:=q2) a.rel
   (λb y=>⟨(a.ext b (p.first b y).1).1,(a.ext b (p.first b y).1).2.trans (p.first b y).2⟩) E (λr F=>⟨(p.shunLow r F).1,by have:=(p.shunLow r F).2;omega⟩) ai aq p.nopan (λb y=>H.keep.block b (a.rel.ltL y)) a4 H.keep.size b2.size H.low b4 H.list rfl (λao=>by rw[Lx];exact b3) ⟨b5,b6,b7⟩ (λao e=>by rw[aE,ar8];unfold bB;rw[e])
   (by obtain⟨c,e,f,q1,q2,q3⟩:=u;exact⟨c,e,f,q1,z2.trans q2,z3.trans q3⟩) (hq _ _ H.steps) ⟨b2.os.trans (a.os.trans p.same.1),b2.output.trans (a.output.trans p.same.2.1),b2.tape.trans (a.tape.trans p.same.2.2)⟩ (z3.trans X) b1 b8 b9 bn bm
  have l:=ad.step p.first a;refine aa _ _ _ _ _ _ _ _ _ _ _ ⟨_,_,_,_,_,hL,H.steps⟩ ⟨a7, ?_⟩;refine⟨as8 l.size b2.size,λr hr hd hz=> ?_, ?_,λr hr=> ?_⟩
  .have F:=l.size;exact(b2.keep r ⟨o_,λh=>(l.shun r h).elim (λh=>o_) hz⟩).trans (l.keep r hr hd hz)
  .rintro b (y|rfl)
   .rw[ay b y];exact l.fresh b y
   .have F:=l.size;omega
  .rcases hr with hr|rfl
   .exact l.shun r hr
   .have F:=l.size;omega
end
section
open Go.Conc
def aP.start{Post}{W}(h:aP P Post (λ_=>False) (bT P f args []) W):YV P Post (solo (G (as7 P f args .normal) []) W) #[]:=
 h #[bT P f args []] W.drawn none #[] (λ_=>0)
  {at0:=rfl
   leave:=leavers_one _ _
   past:=⟨λk=>by rintro⟨i,j,_,⟨a,b,e,_⟩,_⟩;simp[aQ4]at e,λi a e=>by simp[touchAt,aQ4]at e,λi g n=>by simp[Trace.g?]at n,rfl,s_⟩
   quiet:=λi l x m=>by simp at m
   who:=s_
   low:=s_
   own:=s_
   ro:=s_}
section
variable{S:Nat->Prop}{b:Frame}{k:List Item}
def aP.exec(a:fr.mode= .run)(h:∀d,∃g' w' es,stepG.exec P true true fr cs none (w.at d)= .go g' w' es/\w.heap.size<=w'.heap.size/\(∀e∈es,EvL (dq S) w'.heap.size e)/\aP P Post S g' w'):aP P Post S (cD fr cs) w:=
 aP.step rfl λd=>let ⟨g',w',es,h1,h2,h3,h4⟩:=h d;⟨g',w',es,(kv a true cs _).trans h1,h2,h3,h4⟩
def aP.plain{t}(c:co (b.atR a k)=some t)(h:aP P Post S (cD (b.atR a t) cs) w):aP P Post S (cD (b.atR a k) cs) w:=
 aP.exec rfl λd=>⟨_,w.at d,#[],jE c,ar5 _,s_,h.at d⟩
def aP.region{id}{L}(c:ar7 ops.size=L)(h:aP P Post S (cD (b.atR a (.inRegion ops L::k)) cs) w):aP P Post S (cD (b.atR a (.code (.region id ops false)::k)) cs) w:=aP.plain rfl (c▸h)
def aP.ends(i:b.roundOf=none)(f:k=[]\/∃c,k= .code .ret::c)(h:aP P Post S (cD {b.atR a k with mode:= .returning} cs) w):aP P Post S (cD (b.atR a k) cs) w:=
 aP.exec rfl λd=>⟨_,w.at d,#[],oj ⟨i,f⟩,ar5 _,s_,h.at d⟩
def aP.leave{c}(v)(i:b.kind= .normal)(m:a.defers=[])(j:P.funcs[b.fn]?=some fn)(f:∀d,(results fn a.tmps).run P (w.at d)= .ok v (w.at d)/\(results fn a.tmps).events P (w.at d) #[]=#[])
 (h:aP P Post S (cD (c.finish v) cs) w):aP P Post S (cD {b.atR a k with mode:= .returning} (c::cs)) w:=
 aP.step rfl λd=>⟨_,w.at d,#[],iC (fr:={b.atR a k with mode:= .returning}) i m rfl j (f d).1 (f d).2 true s_,ar5 _,s_,h.at d⟩
def F8{c}(f:fr.kind= .normal)(i:fr.defers=[])(d:fr.mode= .returning)(h:P.funcs[fr.fn]?=some fn)(b:(results fn fr.tmps).run P w= .ok v w)
 (main)  (k:g.frame=fr/\g.callers=c::cs/\g.status= .running/\g.dying=none):∃es,stepG P main g w= .go {frame:=c.finish v,callers:=cs,status:= .running,dying:=none} w es/\∀e∈es,e∈(results fn fr.tmps).events P w #[]:=by have⟨a,m,n,o,j⟩:=g;obtain⟨rfl,rfl,rfl,rfl⟩:=k;simp only at f i d h b;refine⟨seen P a.fn ((results fn a.tmps).events P w #[]), ?_,λe l=>dT _ _ _ e l⟩;simp[stepG,unwind,doReturn,f,i,d,h,b,as0]
def aP.leaveE{c}(v)(i:b.kind= .normal)(m:a.defers=[])(j:P.funcs[b.fn]?=some fn)(f:∀d,(results fn a.tmps).run P (w.at d)= .ok v (w.at d)/\∀e∈(results fn a.tmps).events P (w.at d) #[],EvL (dq S) w.heap.size e)
 (h:aP P Post S (cD (c.finish v) cs) w):aP P Post S (cD {b.atR a k with mode:= .returning} (c::cs)) w:=
 aP.step rfl λd=>by have⟨p,o,n⟩:=F8 (fr:={b.atR a k with mode:= .returning}) (c:=c) (cs:=cs) i m rfl j (f d).1 true (g:=cD {b.atR a k with mode:= .returning} (c::cs)) s_;exact⟨_,w.at d,p,o,ar5 _,λe l=>(f d).2 e (n e l),h.at d⟩
def aP.oper(l:ops[n]?=some o)(i:ar3 o (yielded ops a.tmps)=true)(g:∀c,o.op≠ .defer c)
 (h:∀d,∃f w',(execOp a.eval o).run P (w.at d)= .ok f w'/\Bt f=true/\w.heap.size<=w'.heap.size/\(∀e∈(execOp a.eval o).events P (w.at d) #[],EvL (dq S) w'.heap.size e)/\aP P Post S (iW P (b.atR a (.inRegion ops (n::rest)::k)) cs f) w'):
 aP P Post S (cD (b.atR a (.inRegion ops (n::rest)::k)) cs) w:=by
 refine aP.exec rfl λd=> ?_;have⟨f,w',x,v,u,t,q⟩:=h d;have p:eO (b.atR a (.inRegion ops (n::rest)::k)):=λd w r s k e=>by cases e
 have j:(execOp (b.atR a (.inRegion ops (n::rest)::k)).eval o).runT P (w.at d) #[]=(.ok f w',(execOp a.eval o).events P (w.at d) #[]):=by rw[Mz,IE,x]
 exact⟨_,w',_,(dz rfl l i g).trans (ee p j v),u,λe m=>t e (kY _ _ _ e m),q⟩
def aP.oO(t:Has F N ds a)(d:Tmp)(p)(r:∀o c,o.op=p->∃v w',(execOp a.eval o).run P (w.at c)= .ok (.value v) w'/\w.heap.size<=w'.heap.size/\(∀e∈(execOp a.eval o).events P (w.at c) #[],EvL (dq S) w'.heap.size e)/\∀a',Has ((d,v)::F) N ds a'->aP P Post S (cD (b.atR a' (.inRegion ops rest::k)) cs) w')
 (s:d<N:=by decide) (h:(ops[m]?).map (λo=>(o.dst,o.op,o.guard))=some (some d,p,none):=by kernel_rfl) (f:∀c,p≠ .defer c:=by simp):aP P Post S (cD (b.atR a (.inRegion ops (m::rest)::k)) cs) w:=by have⟨o,g,x,i,u⟩:=ng h;refine aP.oper g (by simp[Region.wanted,u]) (λc=>by simp_all) λc=> ?_;have⟨v,w',q,n,l,j⟩:=r o c i;refine⟨.value v,w',q,rfl,n,l, ?_⟩;show aP P Post S (cD ((b.atR a (.inRegion ops (m::rest)::k)).finish v) cs) w';rw[Frame.finish_atR,g,Option.bind_some,x];exact j _ (t.put s v)
def aP.o0(r:Has F N ds a)(p)(q:∀o c,o.op=p->∃w',(execOp a.eval o).run P (w.at c)= .ok .skip w'/\w.heap.size<=w'.heap.size/\(∀e∈(execOp a.eval o).events P (w.at c) #[],EvL (dq S) w'.heap.size e)/\∀a',Has F N ds a'->aP P Post S (cD (b.atR a' (.inRegion ops rest::k)) cs) w')
 (h:(ops[m]?).map (λo=>(o.dst,o.op,o.guard))=some (none,p,none):=by kernel_rfl) (d:∀c,p≠ .defer c:=by simp):aP P Post S (cD (b.atR a (.inRegion ops (m::rest)::k)) cs) w:=by have⟨o,f,t,g,s⟩:=ng h;refine aP.oper f (by simp[Region.wanted,s]) (λc=>by simp_all) λc=> ?_;have⟨w',n,l,j,i⟩:=q o c g;refine⟨.skip,w',n,rfl,l,j, ?_⟩;show aP P Post S (cD ((b.atR a (.inRegion ops (m::rest)::k)).finish undef) cs) w';rw[Frame.finish_atR,f,Option.bind_some,t];exact i _ r
def aP.enter(d)(p)(q:∀o c,o.op=p->(execOp a.eval o).run P (w.at c)= .ok (.enter f args) (w.at c)/\(execOp a.eval o).events P (w.at c) #[]=#[])
 (next:aP P Post S (bT P f args (b.atR a (.inRegion ops (m::rest)::k)::cs)) w)
 (h:(ops[m]?).map (λo=>(o.dst,o.op,o.guard))=some (some d,p,none):=by kernel_rfl) (g:∀c,p≠ .defer c:=by simp):aP P Post S (cD (b.atR a (.inRegion ops (m::rest)::k)) cs) w:=by have⟨o,r,t,j,s⟩:=ng h;refine aP.oper r (by simp[Region.wanted,s]) (λc=>by simp_all) λc=> ?_;have⟨n,l⟩:=q o c j;exact⟨.enter f args,w.at c,n,rfl,Nat.le_refl _,λe i=>by simp_all,next.at c⟩
end
end
section
open Go.Conc Go.RowKit
def pK(D0:Nat->Prop)(o:Obj):Prop:=dj o=true/\∀ρ',aV 2 D0 id ρ'->fg ρ' o=o
section
variable{D0:Nat->Prop}
def yA(k:2<=w.heap.size)(g:∀b,D0 b->2<=b/\∃o,w.heap[b]?=some o/\pK D0 o){f}(j:2<=f.heap.size)(a:∀b,D0 b->f.heap[b]?=w.heap[b]?):dp 2 0 D0 id w f where
 inj:=λ_ _ e=>e
 obj:=λb c=>by have⟨_,o,h,n,m⟩:=g b c;simp_all
 tape:=o_
 glob:=λ_=>Iff.rfl
 far:=⟨o_,k,j⟩
 out:=λb c=>(g b c).1
end
noncomputable def jI(D0:Nat->Prop)(w:World):World:={w with heap:=w.heap.mapIdx λb o=> @ite Obj (b=0\/D0 b) (Classical.propDecidable _) o (.cells #[] 0)}
section
variable{D0:Nat->Prop}
def Kr:(jI D0 w).heap.size=w.heap.size:=by simp[jI]
def np(h:b=0\/D0 b):(jI D0 w).heap[b]?=w.heap[b]?:=by simp only[jI,ax2,if_pos h];simp_all
def Ks(f:∀o,w.heap[0]?=some o->dj o=true)(h:∀b,D0 b->∃o,w.heap[b]?=some o/\dj o=true):bE (jI D0 w):=λb o a=>by
 by_cases c:b=0\/D0 b
 .rw[np c]at a
  grind
 .simp only[jI,ax2,if_neg c]at a;cases d:w.heap[b]? with
  |none=>simp_all
  |some x=>rw[d]at a;exact Option.some.inj a▸rfl
end
def vl(f:FuncId)(r:Nat)(v:Value)(g:Goroutine)(_:World):Prop:=
 g.frame.fn=f/\g.frame.mode= .returning/\g.frame.defers=[]/\g.callers=[]/\g.dying=none/\g.frame.kind= .normal/\g.status= .running/\g.frame.tmps[r]?=some v
def we{r:Nat}(o:P.funcs[f]?=some fn)(n:fn.results=#[.tmp r])(p:P.inits.idxOf? f=none)(h:vl f r v g w):stepG P true g w'= .ended (.done v) w' #[]:=by have⟨j,i,e,d,c,b,k,a⟩:=h;have⟨t,x,q,u,s⟩:=g;simp only at j i e d c b k a;subst j d c;have⟨m,l⟩:=sj (P:=P) n a w';simp[stepG,unwind,doReturn,i,e,b,o,p,m,l,seen,as0]
def yH{r}(hv:bW v=true)(n:qH (dY f) r=false){b}{g'}{T}(h:dp 2 T D b w w')(d:fc 2 D b [] g g')(hs:vl f r v g w):vl f r v g' w':=by have⟨e,m,l,k,p,j,o,i⟩:=hs;have a:=d.frame b h.self;have c:=d.callers b h.self;rw[k]at c;refine⟨a▸e,by rw[a];exact m,by rw[a];show g.frame.defers.map _=[];rw[l];rfl,by simpa using c,d.run.2.2.2,a▸j,d.run.2.1, ?_⟩;rw[a];show(jX b g.frame.fn g.frame.tmps)[r]?=_;rw[fW b _ _ r (e▸n),i];simp[eA b v hv]
def XP{r:Nat}{S D0:Nat->Prop}(hf:prog.funcs[fr.fn]?=some fn)(E:fn.results=#[.tmp r])(L:qH (dY fr.fn) r=false)(H:prog.inits.idxOf? fr.fn=none)(hv:bW v=true)
 (a0:jk fr) (a1:oC fr) (a2:∀p,aV 2 D0 id p->fr=bF p fr) (P:2<=w.heap.size) (hD:∀b,D0 b->2<=b/\¬S b/\∃o,w.heap[b]?=some o/\pK D0 o) (hS:∀r,S r->2<=r)
 (hK:w.rangeAt 0 0 (aQ KS)) (a6:KS.length=64) (K:∃I e z,(∀v∈I,bW v=true)/\w.heap[0]?=some (.cells I e z))
 (hC:∀wL:World,wL.rangeAt 0 0 (aQ KS)->2<=wL.heap.size->(∀b,D0 b->wL.heap[b]?=w.heap[b]?)->Rn lT (λg w'=>vl fr.fn r v g w'/\∃fr',g=cD fr' []) fr [] wL)
 (F:∀w':World,w.heap.size<=w'.heap.size->(∀r,r<w.heap.size->¬D0 r->¬S r->w'.heap[r]?=w.heap[r]?)->w'.os=w.os/\w'.output=w.output/\w'.tape=w.tape->Post v w'):
 aP tP Post S (cD fr []) w:=by
 intro gs d sl t q J;obtain⟨I,e,z,N,V⟩:=K;obtain⟨c,a5,a4⟩:∃c:Func,lT.funcs[fr.fn]?=some c/\c.results=#[.tmp r]:=by
  cases hL:lT.funcs[fr.fn]? with
  |none=>
   have:=yg.none fr.fn hL;simp_all
  |some c=>
   obtain xQ:=yg.res fr.fn c hL;simp_all
 have s:lT.inits.idxOf? fr.fn=none:=by rw[uv.inits];simp
 have T:(jI D0 (w.at d)).heap[0]?=some (.cells I e z):=(np o_).trans V;have x:2<=(jI D0 (w.at d)).heap.size:=by rw[Kr];exact P
 have l:bE (jI D0 (w.at d)):=Ks (λo U=>by have U:w.heap[0]?=some o:=U;rw[V]at U;exact Option.some.inj U▸rfl) λb a=>let ⟨_,_,o,m,y⟩:=hD b a;⟨o,m,y.1⟩
 have R:∀b,D0 b->2<=b/\∃o,(jI D0 (w.at d)).heap[b]?=some o/\pK D0 o:=λb a=>by obtain⟨m,_,o,y,h3⟩:=hD b a;exact⟨m,o,(np (.inr a)).trans y,h3⟩
 have a7:∀n,(my (jI D0 (w.at d)) n 0).rangeAt 0 0 (aQ KS):=λn j u hj=>by have:=hK j u hj;unfold AT at this⊢;have e1:(my (jI D0 (w.at d)) n 0).heap[0]?=some (.cells I e z):=T;simp_all
 have M:∀{X:World} (hW:dp 2 0 D0 id (jI D0 (w.at d)) X),fc 2 D0 id [] (cD fr []) (cD fr []):=λ_=>⟨λp h=>a2 p h,λ_ _=>rfl,⟨a0,a1⟩,trivial,rfl,rfl,rfl,rfl⟩;have O:=yA x R x (λ_ _=>rfl);have f:iw (cD fr []):=⟨rfl,rfl⟩;have C:iy lT (vl fr.fn r v) (cD fr []) (jI D0 (w.at d)):=by
  refine rL uv Ba (D0:=D0) uN ⟨⟨D0,id,O,M O,λb a=>⟨a,rfl⟩⟩,⟨I,e,z,N,T,T⟩,l⟩ f (λn=> ?_) λg B g' w' hp A=> ?_
  .obtain⟨g',w',m,y,fr',rfl⟩:=hC (my (jI D0 (w.at d)) n 0) (a7 n) x λb a=>np (.inr a);exact⟨fr',w',uM uv.inits m zm,y⟩
  .obtain⟨⟨D,ρ,m,y,h3⟩,_,_⟩:=hp;exact yH hv L m y A
 have i:∀g B,vl fr.fn r v g B->∀n d,∃o w2 es,stepG lT true g (my B n d)= .ended o w2 es:=λg B A n d=>⟨_,_,_,we a5 a4 s A⟩;have a3:∀g B,vl fr.fn r v g B->g.frame.mode= .returning/\g.callers=[]:=λg B A=>⟨A.2.1,A.2.2.2.1⟩;have Q:dp 2 0 D0 id (jI D0 (w.at d)) (w.at d):=yA x R P λb a=>(np (.inr a)).symm;have G:zX [] S tP 2 D0 (w.at d) (cD fr []) (jI D0 (w.at d)) gs (w.at d) t D0 id S (cD fr []) q:=by
  refine⟨?_,ar5 _,λ_ _ _ _=>rfl,λb a=> .inl a,λr E=> .inr E⟩;exact
   {rel:=Q
    grel:=M Q
    nopan:=λ_ _ e=>by cases e
    at0:=J.at0
    first:=λb a=>⟨a,rfl⟩
    shun:=λb a=>(hD b a).2.1
    shunLow:=λr E=>⟨hS r E,J.low r E⟩
    past:=J.past
    quiet:=J.quiet
    who:=J.who
    tab:=⟨I,e,z,N,T,V⟩
    calm:=l
    leave:=J.leave
    same:=⟨rfl,rfl,rfl⟩
    tabW:=rfl}
 refine EP (Post:=Post) yg VU i (λgL wL a8 X Y t2 D ρ S2 gM q2 k A=> ?_) (Pe (W:=w.at d) i a3 a6 hK) C f gs (w.at d) sl t _ _ _ _ _ G;have Z:=yH hv L k.1.rel k.1.grel A;refine ME k.1.grel.run.2.1 k.1.at0 k.1.leave k.1.past k.1.quiet k.1.who (λd'=>⟨v,#[],we hf E H Z,λe he=>by simp at he, ?_⟩) Y;exact F (X.at d') k.2.size k.2.keep k.1.same
def iT{S}{B}(h:es=#[]):∀e∈es,EvL (dq S) B e:=λe a=>by simp_all
def iF{S}{B}(h:∀e∈es,∃(a:Addr) (c:Bool),e=⟨.cell a,c,false⟩/\a.block<B/\¬S a.block):∀e∈es,EvL (dq S) B e:=λe d=>by obtain⟨a,c,rfl,g,f⟩:=h e d;exact su (V:=λb=>b<B/\¬S b) (RO:=λ_=>False) s_ s_ ⟨rfl, .inl ⟨g,f⟩⟩
def qg{S}{B}{a}(f:b<B)(d:¬S b):EvL (dq S) B ⟨.cell ⟨b,k,none⟩,a,false⟩:=iF (es:=#[⟨.cell ⟨b,k,none⟩,a,false⟩]) (λe c=>⟨_,_,by simpa using c,f,d⟩) _ s_
end
section
open Go
@[simp] theorem lf36:l_R q 36 f36:=l_F func36
@[simp] theorem lf69:l_R q 69 f69:=l_F func69
@[simp] theorem lf70:l_R q 70 f70:=l_F func70
@[simp] theorem lf71:l_R q 71 f71:=l_F func71
@[simp] theorem lf90:l_R q 90 f90:=l_F func90
@[simp] theorem lf107:l_R q 107 f107:=l_F func107
@[simp] theorem lf129:l_R q 129 f129:=l_F func129
@[simp] theorem lf109:l_R q 109 f109:=l_F func109
@[simp] theorem lf130:l_R q 130 f130:=l_F func130
@[simp] theorem lf93:l_R q 93 f93:=l_F func93
@[simp] theorem lf95:l_R q 95 f95:=l_F func95
@[simp] theorem lf122:l_R q 122 f122:=l_F func122
@[simp] theorem lf12:l_R q 12 f12:=l_F func12
@[simp] theorem lf15:l_R q 15 f15:=l_F func15
@[simp] theorem lf27:l_R q 27 f27:=l_F func27
@[simp] theorem lf38:l_R q 38 f38:=l_F func38
@[simp] theorem lf29:l_R q 29 f29:=l_F func29
@[simp] theorem lf37:l_R q 37 f37:=l_F func37
@[simp] theorem lf30:l_R q 30 f30:=l_F func30
@[simp] theorem lf31:l_R q 31 f31:=l_F func31
@[simp] theorem lf32:l_R q 32 f32:=l_F func32
@[simp] theorem lf64:l_R q 64 f64:=l_F func64
@[simp] theorem lf65:l_R q 65 f65:=l_F func65
@[simp] theorem lf66:l_R q 66 f66:=l_F func66
@[simp] theorem lf34:l_R q 34 f34:=l_F func34
@[simp] theorem lc34(args:Array Value)(w:World):(callFunc 34 args).run (aI q tP) w= .ok (.enter 34 args) w:=dM lf34 k_ rfl args w
@[simp] theorem lf35:l_R q 35 f35:=l_F func35
@[simp] theorem lc35(args:Array Value)(w:World):(callFunc 35 args).run (aI q tP) w= .ok (.enter 35 args) w:=dM lf35 k_ rfl args w
@[simp] theorem lf67:l_R q 67 f67:=l_F func67
@[simp] theorem lf68:l_R q 68 f68:=l_F func68
@[simp] theorem lf87:l_R q 87 f87:=l_F func87
@[simp] theorem lc87(args:Array Value)(w:World):(callFunc 87 args).run (aI q tP) w= .ok (.enter 87 args) w:=dM lf87 k_ rfl args w
def lu81:type_of%((bQ (q:=q) (P:=tP) 81).trans underlying81):=s_
def lu26:type_of%((bQ (q:=q) (P:=tP) 26).trans underlying26):=s_
def lu29:type_of%((bQ (q:=q) (P:=tP) 29).trans underlying29):=s_
def lu115:type_of%((bQ (q:=q) (P:=tP) 115).trans underlying115):=s_
def lu119:type_of%((bQ (q:=q) (P:=tP) 119).trans underlying119):=s_
def Yj(a:Nat)(b:a<9223372036854775808):(au4 64 (a:Int)).toNat=a:=by rw[BitVec.ofInt_natCast,BitVec.toNat_ofNat];exact Nat.mod_eq_of_lt o_
def Yk(a b:Nat)(d:a<9223372036854775808)(c:b<9223372036854775808):bits .and .i64 (a:Int) (b:Int)=((a&&&b:Nat):Int):=by have e:a&&&b<2^63:=Nat.and_lt_two_pow _ o_;show DN.wrap ((au4 64 (a:Int)&&&au4 64 (b:Int)).toNat:Int)=_;rw[BitVec.toNat_and,Yj a d,Yj b c,as3];omega
def vy(w:Nat):Prop:=w=2\/w=4\/w=8
def Ie(a w:Nat)(d:a<9223372036854775808)(b:vy w):bits .and .i64 (a:Int) (dH w:Int)=((a%2^w:Nat):Int):=by
 have c:dH w<9223372036854775808:=by rcases b with rfl|rfl|rfl<;>decide
 rw[Yk a (dH w) d c];unfold dH;simp_all
def dP(L:List UInt8)(w c:Nat):Nat:=(L.getD (c/(8/w)) 0).toNat/2^(8- w- c%(8/w)*w)%2^w
def fD(L:List UInt8)(w:Nat):Nat->Nat
 |0=>0
 |c+1=>fD L w c+(dH w- dP L w c)
def ll(Q:List UInt8)(w sh:Nat):List UInt8:=Q++dm (fD Q w (256/w)*2^sh) 2
def mZ(KS:List Int)(s:dQ)(dig:Nat->Int)(n:Nat):List UInt8:=(ar7 n).flatMap λc=>(lA KS s c (dig c) (s.links.extract (c*32) ((c+1)*32))).data.toList
def Qa(L)(w c):dP L w c<2^w:=Nat.mod_lt _ (Nat.two_pow_pos w)
def sP(L)(w c):dP L w c<=dH w:=by have:=Qa L w c;unfold dH;omega
def qQ{w}(a:vy w):dH w<=255:=by rcases a with rfl|rfl|rfl<;>decide
def rO(L){w}(a:vy w):∀c,fD L w c<=255*c
 |0=>by simp[fD]
 |c+1=>by have:=rO L a c;have:=qQ a;simp[fD];omega
def Qc(L){w}(a:vy w)(i k)(b:k<8/w)(c:i<L.length):dP L w (i*(8/w)+k)=L[i].toNat/2^(8- w- k*w)%2^w:=by
 have e:(i*(8/w)+k)/(8/w)=i:=by rcases a with rfl|rfl|rfl<;>simp at b⊢<;>omega
 have d:(i*(8/w)+k)%(8/w)=k:=by rcases a with rfl|rfl|rfl<;>simp at b⊢<;>omega
 unfold dP;simp_all
end
namespace L1
open Go.Conc Go.RowKit
section
variable{y:Operand}{m n:Int}
def tj(a:o.op= .binOp .sub 3 x y u)(c:ev x= .i m)(b:ev y= .i n)(h: -9223372036854775808<=m- n/\m- n<9223372036854775808):(execOp ev o).run lT w= .ok (.value (.i (m- n))) w:=by
 have e:DN.wrap (m- n)=m- n:=by rw[as3];omega
 simp[execOp,a,c,b,go_sem,e]
def Sg(a:o.op= .binOp .geq 3 x y u)(c:ev x= .i m)(b:ev y= .i n):(execOp ev o).run lT w= .ok (.value (.bool (decide (m≥n)))) w:=by simp[execOp,a,c,b,go_sem]
def Lp(a:o.op= .binOp .gtr 3 x y u)(c:ev x= .i m)(b:ev y= .i n):(execOp ev o).run lT w= .ok (.value (.bool (decide (m>n)))) w:=by simp[execOp,a,c,b,go_sem]
def sb(a:o.op= .binOp .shr 3 x y u)(c:ev x= .i m)(b:ev y= .i k)(h:k<=64):(execOp ev o).run lT w= .ok (.value (.i (m/2^k))) w:=by
 have e:(0:Int)<=(k:Int):=o_
 have d:(k:Int)<=64:=o_
 simp[execOp,a,c,b,go_sem]
def m8(a:o.op= .binOp .shl 3 x y u)(c:ev x= .i m)(b:ev y= .i k)(h:k<=64)(d: -9223372036854775808<=m*2^k/\m*2^k<9223372036854775808):(execOp ev o).run lT w= .ok (.value (.i (m*2^k))) w:=by
 have g:(0:Int)<=(k:Int):=o_
 have f:(k:Int)<=64:=o_
 have e:DN.wrap (m*2^k)=m*2^k:=by rw[as3];omega
 simp[execOp,a,c,b,go_sem,e]
def ma(a:o.op= .binOp .and 3 x y u)(c:ev x= .i m)(b:ev y= .i n):(execOp ev o).run lT w= .ok (.value (.i (bits .and .i64 m n))) w:=by simp[execOp,a,c,b,go_sem]
def C2{p:Nat}(a:o.op= .index 9 x y)(c:ev x= .s s)(b:ev y= .i p)(h:p<s.size):(execOp ev o).run lT w= .ok (.value (.int .u8 (s[p].toNat:Int))) w:=by
 have d:lT.underlying 9=some .string:=k_
 simp[execOp,a,c,b,ay0,asIntOf,s_,h]
def Gz{b:UInt8}(a:o.op= .convert 5 3 x)(c:ev x= .int .u8 (b.toNat:Int)):(execOp ev o).run lT w= .ok (.value (.i (b.toNat:Int))) w:=by
 have f:lT.underlying 5=some (.int .u8):=k_
 have d:lT.underlying 3=some (.int .i64):=k_
 have g:=b.toNat_lt;have e:DN.wrap (b.toNat:Int)=b.toNat:=by rw[as3];omega
 simp[execOp,a,c,go_sem,f,d,e]
def Aq(a:o.op= .binOp .quo 3 x y u)(c:ev x= .i m)(b:ev y= .i 2)(d:0<=m)(g:m<9223372036854775808):(execOp ev o).run lT w= .ok (.value (.i (m/2))) w:=by
 have e:DN.wrap (m/2)=m/2:=by rw[as3];omega
 have f:m.tdiv 2=m/2:=Int.tdiv_eq_ediv_of_nonneg d;simp[execOp,a,c,b,go_sem,f,e]
def XB{t:Nat}(a:o.op= .call {callee:= .builtin .len,args:=#[.tmp t],argTypes:=#[9]})(b:ev (.tmp t)= .s s):(execOp ev o).run lT w= .ok (.value (.i s.size)) w:=by
 have c:lT.underlying 9=some .string:=k_
 simp[execOp,a,resolve,b,invoke,builtin,YQ,run_underlying c,goInt]
def nQ(a:o.op= .binOp .add 3 x y u)(c:ev x= .i m)(b:ev y= .i n)(h: -9223372036854775808<=m+n/\m+n<9223372036854775808):eX ev o w (.i (m+n)):=(oT a c b h).1
end
section
variable{y:Operand}
def rY(a:o.op= .binOp .mul 3 x y u)(c:ev x= .i m)(b:ev y= .i n)(h:m*n<9223372036854775808):(execOp ev o).run lT w= .ok (.value (.i ((m*n:Nat):Int))) w:=by
 have e:DN.wrap ((m:Int)*(n:Int))=((m*n:Nat):Int):=by rw[←Int.natCast_mul,as3];omega
 simp[execOp,a,c,b,go_sem,e]
def cJ(a:o.op= .binOp .add 3 x y u)(c:ev x= .i m)(b:ev y= .i n)(h:m+n<9223372036854775808):(execOp ev o).run lT w= .ok (.value (.i ((m+n:Nat):Int))) w:=by
 have e:DN.wrap ((m:Int)+(n:Int))=((m+n:Nat):Int):=by rw[←Int.natCast_add,as3];omega
 simp[execOp,a,c,b,go_sem,e]
def Ar{z}{p r}(a:o.op= .pick x y z)(b:ev x= .bool p)(d:p=true->ev y= .bool q)(c:ev z= .bool r):(execOp ev o).run lT w= .ok (.value (.bool (if p then q else r))) w:=by
 cases p
 .simp[execOp,a,b,c,asBool]
 .simp[execOp,a,b,d rfl,asBool]
def u9(a:o.op= .binOp .sub 3 x y t)(c:ev x= .i m)(b:ev y= .i n)(h:n<=m)(d:m<9223372036854775808):(execOp ev o).run lT w= .ok (.value (.i ((m- n:Nat):Int))) w:=by
 have e:DN.wrap ((m:Int)-(n:Int))=((m- n:Nat):Int):=by rw[as3];omega
 simp[execOp,a,c,b,go_sem,e]
end
end L1
section
open Go.RowKit
def bA(l:List Int):List Value:=l.map λx=>Value.int .i64 x
def gk(l):(bA l).length=l.length:=by simp[bA]
def ry(l):∀v∈bA l,v.oneCell'=true:=by intro v a;simp[bA,List.mem_map]at a;obtain⟨x,_,rfl⟩:=a;rfl
def XL(L)(k)(h:k<L.length):(bA L)[k]?=some (.i (L.getD k 0)):=by simp[bA,h]
def Sw{o}{L}(h:w.rangeAt b o (bA L))(k)(a:k<L.length):w.cell? ⟨b,o+k,none⟩=some (.i (L.getD k 0)):=h k _ (XL L k a)
def fL{L}(h:w.rangeAt b 0 (bA L))(k)(a:k<L.length):w.cell? ⟨b,k,none⟩=some (.i (L.getD k 0)):=by have:=Sw h k a;simp_all
def VR(L)(k)(v):(bA L).set k (.i v)=bA (L.set k v):=by simp[bA,aE6]
def wu(B)(k)(h:k<64)(v)(hv:v=if k<16 then uf B k else uL (cj B k) k):(bA (di B k)).set k (.i v)=bA (di B (k+1)):=by subst hv;rw[di,di,show 64- k=(64-(k+1))+1 from o_,au2,bA,bA,cj,Q4,WT _ _ (by simp[f9])];simp[f9]
def nN(B)(k j)(h:j<k):(bA (di B k))[j]?=some (.i ((cj B k).getD j 0)):=by rw[di,bA,Q4,as9 (by simp[f9];omega)];simp[f9,h]
def uw(B)(k)(a:k<64):(bA (di B k))[k]?=some (.i 0):=by rw[di,bA,Q4,as1 (by simp[f9]),aG_,ZK,if_pos (by simp[f9];omega)]
def Ak(B):bA (di B 0)=ar9 64 (.i 0):=by simp[di,cj,bA]
def ri(H G:List Int)(k:Nat):List Int:=(ar7 8).map λi=>if i<k then JV.wrap (H.getD i 0+G.getD i 0)else G.getD i 0
def Cx(H G)(k):(ri H G k).length=8:=by simp[ri]
def LX(H G):ri H G 8=fA H G 8:=by
 apply az_
 .simp[ri,fA]
 .intro i c b;have a:i<8:=by simpa[fA]using b
  simp[ri,fA,a]
def LW(H G)(k)(h:k<8):(ri H G k).getD k 0=G.getD k 0:=by rw[ri,as2,YR,aE2 h];simp
def LV(H G)(k):(bA (ri H G k)).set k (.i (JV.wrap (H.getD k 0+G.getD k 0)))=bA (ri H G (k+1)):=by
 rw[VR]
 congr 1
 apply az_
 .simp[ri]
 .intro i d b;have c:i<8:=by simpa[ri]using b
  rw[List.getElem_set];simp[ri,List.getElem_map,List.getElem_range]
  grind
def O0{G:St}(h:G.Wd):lB G.list:=by
 intro i;by_cases a:i<8
 .have:i=0\/i=1\/i=2\/i=3\/i=4\/i=5\/i=6\/i=7:=o_
  obtain rfl|rfl|rfl|rfl|rfl|rfl|rfl|rfl:=this
  .exact h.a
  .exact h.b
  .exact h.c
  .exact h.d
  .exact h.e
  .exact h.f
  .exact h.g
  .exact h.h
 .rw[as2,ZX (by simp[St.list];omega)];exact Vj
def NV(L:List UInt8)(a k)(f:k<16)(h:a+64<=L.length):dC [L.getD (a+4*k) 0,L.getD (a+4*k+1) 0,L.getD (a+4*k+2) 0,L.getD (a+4*k+3) 0]=uf ((L.drop a).take 64) k:=by
 have e:(((L.drop a).take 64).drop (4*k)).take 4=[L.getD (a+4*k) 0,L.getD (a+4*k+1) 0,L.getD (a+4*k+2) 0,L.getD (a+4*k+3) 0]:=by
  apply az_
  .simp;omega
  .grind
 rw[uf,e];have:=jY [L.getD (a+4*k) 0,L.getD (a+4*k+1) 0,L.getD (a+4*k+2) 0,L.getD (a+4*k+3) 0] 4 s_;rw[JZ,Int.emod_eq_of_lt this.1 o_]
def Zj(f:Func):Code:= .seq (.seq (rG f 3) (.cond (.tmp 32) .skip (.exit 0))) (.seq (.block 1 (.seq (rG f 5) (rD f 6))) (rG f 4))
def Zi(f:Func):Code:= .seq (.seq (rG f 8) (.cond (.tmp 67) .skip (.exit 2))) (.seq (.block 3 (.seq (rG f 10) (.seq (rG f 11) (rD f 12)))) (rG f 9))
def Zh(f:Func):Code:= .seq (.seq (rG f 22) (.cond (.tmp 113) .skip (.exit 4))) (.seq (.block 5 (.seq (rG f 24) (.seq (rG f 25) (.seq (rD f 26) (.seq (rG f 27) (.seq (rG f 28) (.seq (rG f 29) (.seq (rG f 30) (.seq (rG f 31) (.seq (rG f 32) (.seq (rG f 33) (.seq (rG f 34) (.seq (rG f 35) (rG f 36)))))))))))))) (rG f 23))
def Zg(f:Func):Code:= .seq (.seq (rG f 39) (.cond (.tmp 181) .skip (.exit 6))) (.seq (.block 7 (rD f 41)) (rG f 40))
section
variable{B:List UInt8}{at':Nat}{v4 v5 v8:Value}{W:World}
def sc{cs}(h:w.heap[b]?=some (.cells cs t)):(w.setCell ⟨b,i,none⟩ v).heap[b]?=some (.cells (cs.setIfInBounds i v) t):=by simp[JX];grind
def sd{v}(a:k<64)(hv:v=if k<16 then uf B k else uL (cj B k) k)(c:Below b9 W w)(b:w.heap[b9]?=some (.cells (bA (di B k)).toArray 111)):Below b9 W (w.setCell ⟨b9,k,none⟩ (.i v))/\(w.setCell ⟨b9,k,none⟩ (.i v)).heap[b9]?=some (.cells (bA (di B (k+1))).toArray 111):=by refine⟨c.trans (eJ w _ _ (ar5 _)), ?_⟩;rw[←wu B k a v hv,←ZR];exact sc b
def i3(a:w.heap[b9]?=some (.cells (bA (di B k)).toArray 111))(h:j<k):w.cell? ⟨b9,j,none⟩=some (.i ((cj B k).getD j 0)):=by rw[aH a];simpa using nN B k j h
def kc{o}(h:∃n,w'=w.drewN n)(b:Below n W w)(a:w.heap[b9]?=some o):Below n W w'/\w'.heap[b9]?=some o:=by obtain⟨m,rfl⟩:=h;exact⟨b.trans ⟨rfl,rfl,rfl,ar5 _,s_⟩,a⟩
end
section
variable{s:St}
def HE(h:s.Wd):bits .xor .i64 (bits .and .i64 s.e s.f) (bits .and .i64 (4294967295- s.e) s.g)=bits .xor .u32 (bits .and .u32 s.e s.f) (bits .and .u32 (4294967295- s.e) s.g):=by rw[Dp h.e h.f,Dp (SI h.e) h.g,vO (j2 ..) (j2 ..)]
def HA(h:s.Wd):bits .xor .i64 (bits .xor .i64 (bits .and .i64 s.a s.b) (bits .and .i64 s.a s.c)) (bits .and .i64 s.b s.c)=bits .xor .u32 (bits .xor .u32 (bits .and .u32 s.a s.b) (bits .and .u32 s.a s.c)) (bits .and .u32 s.b s.c):=by rw[Dp h.a h.b,Dp h.a h.c,Dp h.b h.c,vO (j2 ..) (j2 ..),vO (j2 ..) (j2 ..)]
end
def fM(n:Nat):Nat:=(n+8)/64*64+64
def Je(n):(119- n%64)%64=fM n- n- 9:=by unfold fM;omega
def tn(n):n+9<=fM n:=by unfold fM;omega
def wS(L:List UInt8)(i:Nat):List UInt8:=L++[128]++ar9 (fM L.length- L.length- 9) 0++(dm (8*L.length) 8).take i++ar9 (8- i) 0
def pf(L)(i)(h:i<=8):(wS L i).length=fM L.length:=by have:=tn L.length;simp[wS,cO];omega
def Ew(L):(L++ar9 (fM L.length- L.length) 0).set L.length 128=wS L 0:=by obtain⟨z,a⟩:∃z,fM L.length=L.length+9+z:=⟨fM L.length- L.length- 9,by have:=tn L.length;omega⟩;rw[wS,a,show L.length+9+z- L.length=(z+8)+1 from o_,show z+8+1- 9=z from o_,au2,WT _ _ o_];simp only[List.cons_append,aS3,List.set_cons_zero,List.take_zero,ax_,ZQ,Nat.sub_zero,List.replicate_append_replicate,List.nil_append]
def wR(L):wS L 8=L++iY L:=by rw[wS,iY,Je,show([0]:List UInt8)=ar9 1 0 from rfl,Lib.repeatL_replicate,aK1];simp[cO,No]
def LG(L)(i:Nat)(h:i<8)(v)(hv:v=ZJ (8*L.length/256^(7- i))):(wS L i).set (fM L.length- 8+i) v=wS L (i+1):=by
 subst hv;have:=tn L.length;have a:=Cp 8 (8*L.length) i h;rw[show 8- 1- i=7- i from o_]at a;have⟨b,a⟩:=as4.1 a;rw[wS,wS,show 8- i=(8-(i+1))+1 from o_,au2,WJ b,a,WT _ _ (by grind)];have e:fM L.length- 8+i-(L++[128]++ar9 (fM L.length- L.length- 9) 0++(dm (8*L.length) 8).take i).length=0:=by grind
 rw[e];simp
def Pf(n i:Nat)(h:i<8):8*(n:Int)/2^(56- 8*i)%256=((ZJ (8*n/256^(7- i))).toNat:Int):=by
 have e:(2:Int)^(56- 8*i)=((256^(7- i):Nat):Int):=by rw[show 56- 8*i=8*(7- i)from o_,aT2,aD5];rfl
 simp_all
def WB(L)(k)(h:k<L.length):(aX L)[k]?=some (.int .u8 ((L.getD k 0).toNat:Int)):=by simp[aX,h]
def VS(L)(k)(v):(aX L).set k (.int .u8 (v.toNat:Int))=aX (L.set k v):=by simp[aX,aE6]
def GD{L}(h:w.rangeAt b 0 (aX L))(k)(a:k<L.length):w.cell? ⟨b,k,none⟩=some (.int .u8 ((L.getD k 0).toNat:Int)):=by have:=h k _ (WB L k a);simp_all
structure UX (w M:World) (m:Nat) (X:List UInt8):Prop where
 size:M.heap.size=w.heap.size+1
 below:Bw w M
 row:M.rangeAt w.heap.size 0 (aX X)
 there:M.there w.heap.size 0 m
def Jf(w:World)(L:List UInt8)(m:Nat)(T:TypeId)(h:L.length<=m):UX w ((w.alloc (.cells (madeCells #[.int .u8 0] m) T)).setCells w.heap.size 0 (aX L)) m (L++ar9 (m- L.length) 0):=by
 have hth:(w.alloc (.cells (madeCells #[.int .u8 0] m) T)).there w.heap.size 0 m:=dB _ _ _ _ _ rfl (by rw[eq];simp);refine⟨by rw[ib];simp,bV (ar5 _) _ _ _ _ ((bR).alloc (ar5 _) _),λj v hv=> ?_,Y2 hth _ _ _⟩;rw[aX,Q4]at hv;by_cases hj:j<L.length
 .rw[as9 (by simpa using hj)]at hv;exact Kq _ _ _ (aX L) (j5 hth (ar5 _) (by rw[d9];omega)) j v hv
 .rw[as1 (by simpa using hj)]at hv;rw[World.cell?_setCells_out _ _ _ _ _ (λ_ _=>Or.inr (by show 0+(aX L).length<=0+j;rw[d9];omega)),at5 _ _ _ _ rfl,eq];simp only[aG_,List.length_map,ZK]at hv;simp only[Va,ZK];split at hv
  .rw[if_pos o_];exact hv
  .cases hv
def vm:List Int:=[1116352408,1899447441,3049323471,3921009573,961987163,1508970993,2453635748,2870763221,3624381080,310598401,607225278,1426881987,1925078388,2162078206,2614888103,3248222580,3835390401,4022224774,264347078,604807628,770255983,1249150122,1555081692,1996064986,2554220882,2821834349,2952996808,3210313671,3336571891,3584528711,113926993,338241895,666307205,773529912,1294757372,1396182291,1695183700,1986661051,2177026350,2456956037,2730485921,2820302411,3259730800,3345764771,3516065817,3600352804,4094571909,275423344,430227734,506948616,659060556,883997877,958139571,1322822218,1537002063,1747873779,1955562222,2024104815,2227730452,2361852424,2428436474,2756734187,3204031479,3329325298]
def iz:vm.length=64:=by decide+kernel
def Ev(L):(L++iY L).length=64*((L++iY L).length/64):=by rw[←wR,pf _ _ o_];unfold fM;omega
def mh(k:Nat):List Int:=H0.take k++ar9 (8- k) 0
def y7(k)(h:k<=8):(mh k).length=8:=by simp[mh,H0];omega
def Fl(k)(h:k<8):(mh k).set k (H0.getD k 0)=mh (k+1):=by
 have:k=0\/k=1\/k=2\/k=3\/k=4\/k=5\/k=6\/k=7:=o_
 rcases this with rfl|rfl|rfl|rfl|rfl|rfl|rfl|rfl<;>rfl
structure qp (w M:World) (hb capH kb cap:Nat) (Hl:List Int):Prop where
 size:w.heap.size+1+1<=M.heap.size
 below:Bw w M
 crow:M.rangeAt w.heap.size 0 [.sk hb 8 capH, .sk kb 64 cap]
 hrow:M.rangeAt (w.heap.size+1) 0 (bA Hl)
 there:M.there (w.heap.size+1) 0 8
def IU(w:World)(hb capH kb cap:Nat)(T1 T2:TypeId):qp w ((w.alloc (.cells #[.sk hb 8 capH, .sk kb 64 cap] T1)).alloc (.cells (bA (mh 0)).toArray T2)) hb capH kb cap (mh 0):=
 ⟨s_,((bR).alloc (ar5 _) _).alloc s_ _,Zr (dG w [.sk hb 8 capH, .sk kb 64 cap] T1 _ rfl) _,dG _ _ _ _ s_,dB _ _ _ _ _ s_ rfl⟩
def qp.below'{M b}{hb capH kb cap}{c}(h:qp w M hb capH kb cap c)(a:Bw M b):qp w b hb capH kb cap c:=by have:=h.size;have d:=a.size;exact⟨o_,h.below.trans (a.mono o_),bN a o_ h.crow,bN a o_ h.hrow,fF a o_ h.there⟩
def qp.set{M}{hb capH kb cap}{a}(h:qp w M hb capH kb cap a)(k)(v):qp w (M.setCell ⟨w.heap.size+1,k,none⟩ (.i v)) hb capH kb cap (a.set k v):=
 ⟨by have:=h.size;simp_all,h.below.setCell (by simp_all) _,QN h.crow _ k [_] o_,by have:=kx (k:=k) h.hrow (.i v);rwa [VR]at this,gQ h.there _ _ _⟩
def qp.put{M}{hb capH kb cap}{b}(h:qp w M hb capH kb cap b)(H2)(a:H2.length=8):qp w (M.setCells (w.heap.size+1) 0 (bA H2)) hb capH kb cap H2:=
 ⟨by rw[ib];exact h.size,bV o_ _ _ _ _ h.below,QN h.crow _ _ _ o_,Kq _ _ _ _ (by rw[gk,a];exact h.there),Y2 h.there _ _ _⟩
def NX:lB vm:=by
 intro i;by_cases h:i<64
 .have:∀i:Fin 64,Wd (vm.getD i.1 0):=by have:(ar7 64).all (λi=>decide (0<=vm.getD i 0/\vm.getD i 0<4294967296))=true:=(by decide+kernel);intro i;have:=List.all_eq_true.1 this i.1 s_;exact(of_decide_eq_true this:0<=vm.getD i.1 0/\vm.getD i.1 0<4294967296)
  exact this ⟨i,h⟩
 .rw[as2,ZX (by rw[iz];omega)];exact Vj
def cq(L:List UInt8)(a b:Nat):List UInt8:=(L.take b).drop a
def jH(L)(a b)(h:b<=L.length):(cq L a b).length=b- a:=by simp[cq];omega
def Kd(L)(a i)(h:a+i<L.length):cq L a (a+(i+1))=cq L a (a+i)++[L.getD (a+i) 0]:=by rw[cq,cq,show a+(i+1)=a+i+1 from o_,WJ h,List.drop_append_of_le_length (by simp;omega),as2,EN h];rfl
def uC(v n i:Nat):List Value:=aX ((dm v n).take i)++ar9 (n- i) (.int .u8 0)
def Iy(v n i)(h:i<=n):(uC v n i).length=n:=by simp[uC,aX,cO];omega
def KZ(v n):uC v n 0=ar9 n (.int .u8 0):=by simp[uC,aX]
def RS(v n):uC v n n=aX (dm v n):=by simp[uC,cO,No]
def RR(v n i)(h:i<n):(uC v n i)[i]?=some (.int .u8 0):=by
 have e:(aX ((dm v n).take i)).length=i:=by simp[aX,cO];omega
 rw[uC,as1 o_,e,aS3,ZK,if_pos o_]
def RQ(v n i)(h:i<n)(x)(b:x=((v/256^(n- 1- i)%256:Nat):Int)):(uC v n i).set i (.int .u8 x)=uC v n (i+1):=by
 subst b;have a:=Cp n v i h;have⟨c,a⟩:=as4.1 a;rw[uC,uC,show n- i=(n-(i+1))+1 from o_,au2,WJ c,a,WT _ _ (by simp[aX,cO];omega)];have e:i-(aX ((dm v n).take i)).length=0:=by simp[aX,cO];omega
 rw[e];simp[aX]
def VF(v n i:Nat):(v:Int)/2^(8*(n- 1- i))%256=((v/256^(n- 1- i)%256:Nat):Int):=by rw[aT2,show((2:Int)^8)=((256:Nat):Int)from d_,←aD5,←Int.natCast_ediv,←show((256:Nat):Int)=256 from rfl,←Int.natCast_emod]
def RP(v)(V n i:Nat)(b:(V:Int)=v%18446744073709551616)(c:n<=8):v/2^(8*(n- 1- i))%256=((V/256^(n- 1- i)%256:Nat):Int):=by
 rw[←VF,b];have a:n- 1- i<=7:=o_
 generalize n- 1- i=j at a;rcases(o_:j=0\/j=1\/j=2\/j=3\/j=4\/j=5\/j=6\/j=7)with rfl|rfl|rfl|rfl|rfl|rfl|rfl|rfl<;>simp<;>omega
end
namespace L1
open Go.RowKit
def mI(x)(k:Nat)(w)(a:Wd x)(b:2<=k)(h:k<=31):
 Calls lT 87 #[.i x, .i (k:Int)] w λe w'=>e= .returned (.i (sa x (-(k:Int))))/\∃n,w'=w.drewN n:=by
 have g:Hid _:=Ou x k a b h;have f:Hid _:=VQ x k a b;have xQ:=a;have j:min k 64=k:=o_
 have i:min (32- k) 64=32- k:=o_
 go_enter lf87,ntmps87
 go_wp2
 go_quiet (fail)
 go_wp2
 go_ret
 exact⟨vI (by rw[f.out];exact g.out),_,rfl⟩
def sn(x)(a b c:Nat)(w)(d:Wd x)(p:2<=a)(h:a<=31)(o:2<=b)(g:b<=31)(m:2<=c)(f:c<=31):
 Calls lT 68 #[.i x, .i (a:Int), .i (b:Int), .i (c:Int)] w λe w'=>e= .returned (.i (eF x a b c))/\∃n,w'=w.drewN n:=by
 go_enter lf68,ntmps68
 go_wp2_with fail
 refine(mI x a _ d p h).mono ?_;rintro e i ⟨rfl,l,rfl⟩
 go_wp2_with fail
 refine(mI x b _ d o g).mono ?_;rintro e i ⟨rfl,k,rfl⟩
 go_wp2_with fail
 refine(mI x c _ d m f).mono ?_;rintro e i ⟨rfl,j,rfl⟩
 go_wp2
 go_ret
 refine⟨vI ?_,l+k+j,rfl⟩;rw[vO (kf _ _) (kf _ _),vO (j2 ..) (kf _ _)];rfl
def so(x)(a b c:Nat)(w)(d:Wd x)(m:2<=a)(g:a<=31)(l:2<=b)(f:b<=31)(k:c<=31):
 Calls lT 67 #[.i x, .i (a:Int), .i (b:Int), .i (c:Int)] w λe w'=>e= .returned (.i (iK x a b c))/\∃n,w'=w.drewN n:=by
 go_enter lf67,ntmps67
 go_wp2_with fail
 refine(mI x a _ d m g).mono ?_;rintro e h ⟨rfl,j,rfl⟩
 go_wp2_with fail
 refine(mI x b _ d l f).mono ?_;rintro e h ⟨rfl,i,rfl⟩;have o:min c 64=c:=o_
 go_wp2
 go_ret
 refine⟨vI ?_,j+i,rfl⟩;rw[vO (kf _ _) (kf _ _),vO (j2 ..) (Tz d _)];rfl
def mX(s)(p:Nat)(i)(a:i=(p:Int))(h:p<s.size)(W):(ay0 9 (.s s) (.i i)).run lT W= .ok (.int .u8 ((s.data.toList.getD p 0).toNat:Int)) W:=by
 have b:s.data.toList.getD p 0=s[p]:=by rw[as2,EN (by simp_all)];rfl
 simp_all[ay0,asIntOf]
section
variable{y:Operand}{m n:Int}
def xa(a:o.op= .binOp .or 3 x y u)(c:ev x= .i m)(b:ev y= .i n):(execOp ev o).run lT w= .ok (.value (.i (bits .or .i64 m n))) w:=by simp[execOp,a,c,b,go_sem]
def sf(a:o.op= .binOp .xor 3 x y u)(c:ev x= .i m)(b:ev y= .i n):(execOp ev o).run lT w= .ok (.value (.i (bits .xor .i64 m n))) w:=by simp[execOp,a,c,b,go_sem]
def sw{b:UInt8}(k:Nat)(c)(g:(2:Int)^k=c/\k<=24)(a:o.op= .binOp .shl 3 x y u)(f:ev x= .i (b.toNat:Int))(d:ev y= .int .u64 k):(execOp ev o).run lT w= .ok (.value (.i ((b.toNat:Int)*c))) w:=by
 obtain⟨rfl,h⟩:=g;have n:(0:Int)<=(k:Int):=o_
 have m:(k:Int)<=64:=o_
 have l:=b.toNat_lt;have j:b.toNat*2^k<=255*2^24:=aG3 o_ (Q5 d_ h);have i:((b.toNat*2^k:Nat):Int)=(b.toNat:Int)*2^k:=by simp_all
 have e:DN.wrap ((b.toNat:Int)*2^k)=(b.toNat:Int)*2^k:=by rw[←i,as3];omega
 simp[execOp,a,f,d,go_sem,e]
def i1(f:lT.underlying t=some (.array l 3))(a:o.op= .indexAddr t x y)(e:ev x= .pk b 0)(d:ev y= .i (k:Nat))(h:k<l):(execOp ev o).run lT w= .ok (.value (.pk b k)) w:=by
 have g:(sizeOf 3).run lT w= .ok 1 w:=k_
 have c:(k:Int)<l:=o_
 simp[execOp,a,e,d,go_sem,f,g,c]
def u0{p:Nat}(a:o.op= .index 9 x y)(c:ev x= .s s)(b:ev y= .i p)(h:p<s.size):(execOp ev o).run lT w= .ok (.value (.int .u8 ((s.data.toList.getD p 0).toNat:Int))) w:=by rw[C2 a c b h,as2,EN (by simpa using h)];rfl
def ya(a:o.op= .alloc 81):(execOp ev o).run lT w= .ok (.value (.pk w.heap.size 0)) (w.alloc (.cells (bA (ar9 8 0)).toArray 81)):=by simp[execOp,a];kernel_rfl
def HN(B)(a:o.op= .alloc 111):(execOp ev o).run lT w= .ok (.value (.pk w.heap.size 0)) (w.alloc (.cells (bA (di B 0)).toArray 111)):=by
 have b:(do pure (.value (←aA7 111 true (.tuple #[]))):Sem Next).run lT w= .ok (.value (.pk w.heap.size 0)) (w.alloc (.cells (ar9 64 (Value.i 0)).toArray 111)):=k_
 simp only[execOp,a];rw[b,Ak]
def Zb{a b d e f g h}{r q p n m l k j}(i:o.op= .build 81 #[(0,r),(1,q),(2,p),(3,n),(4,m),(5,l),(6,k),(7,j)])(A:ev r= .i a)(z:ev q= .i b)(y:ev p= .i c)(x:ev n= .i d)(v:ev m= .i e)(u:ev l= .i f)(t:ev k= .i g)(s:ev j= .i h):(execOp ev o).run lT w= .ok (.value (.agg (bA [a,b,c,d,e,f,g,h]).toArray)) w:=by simp[execOp,i,A,z,y,x,v,u,t,s];kernel_rfl
def Zl{cs:List Value}{c}(a:o.op= .load 81 x)(d:ev x= .pk b 0)(h:w.heap[b]?=some (.cells cs.toArray c))(f:cs.length=8):(execOp ev o).run lT w= .ok (.value (.agg cs.toArray)) w:=by
 have e:w.rangeAt b 0 cs:=λj v g=>by rw[as5,aH h];simpa using g
 have i:=run_loadVar_mid (P:=lT) w b 0 81 cs (.array 8 3) e k_ rfl (by rw[f];kernel_rfl);simp[execOp,a,d,as_,VJ,i]
def Za(a:o.op= .fieldAddr 26 x 1)(c:ev x= .pk b 0):(execOp ev o).run lT w= .ok (.value (.pk b 1)) w:=by simp[execOp,a,c];kernel_rfl
end
def se:lT.underlying 111=some (.array 64 3):=k_
def Zk:lT.underlying 81=some (.array 8 3):=k_
def xb:(lT.info? 81).map (·.size)=some 8:=k_
def M0:f35.body=some (.seq (rG f35 0) (.seq (rG f35 1) (.seq (.seq (rG f35 2) (.block 0 (.loop (Zj f35)))) (.seq (.seq (rG f35 7) (.block 2 (.loop (Zi f35)))) (.seq (rG f35 13) (.seq (rG f35 14) (.seq (rG f35 15) (.seq (rG f35 16) (.seq (rG f35 17) (.seq (rG f35 18) (.seq (rG f35 19) (.seq (rG f35 20) (.seq (.seq (rG f35 21) (.block 4 (.loop (Zh f35)))) (.seq (rG f35 37) (.seq (.seq (rG f35 38) (.block 6 (.loop (Zg f35)))) (.seq (rG f35 42) .ret)))))))))))))))):=k_
section
variable{B:List UInt8}{at':Nat}{v4 v5 v8:Value}{W:World}
def Zf(p:at'+64<=s.size)(x:s.size<=281474976710656)(D:(s.data.toList.drop at').take 64=B)
 (next:∀a w,Below b9 W w->w.heap[b9]?=some (.cells (bA (di B 16)).toArray 111)->Has [(4,v4),(5,v5),(8,v8),(9, .pt b9)] 195 [] a->Rn lT Goal (fr.atR a K) cs w):
 ∀m k a w,16- k=m->k<=16->Below b9 W w->w.heap[b9]?=some (.cells (bA (di B k)).toArray 111)->Has [(2, .s s),(3, .i at'),(4,v4),(5,v5),(8,v8),(9, .pt b9),(10, .i k)] 195 [] a->
  Rn lT Goal (fr.atR a (.code (Zj f35):: .inLoop (Zj f35):: .inBlock 0::K)) cs w:=by
 intro m;induction m with
 |zero=>
  intro k a w A C l g d
  iterate 2 refine Rn.uu d λa d=> ?_
  refine Rn.p rfl (Rn.cond _ (d.G 32) ?_);rw[decide_eq_false o_];exact Rn.p rfl (next a w l (by grind) d.O)
 |succ m u=>
  intro k a w A C l g d;have r:=NV s.data.toList at' k o_ (by simpa using p);rw[D]at r
  iterate 2 refine Rn.uu d λa d=> ?_
  refine Rn.p rfl (Rn.cond _ (d.G 32) ?_);rw[decide_eq_true o_]
  iterate 2 refine Rn.uu d λa d=> ?_
  refine Rn.vv d (λo c=>rY (m:=4) c rfl (d.G 36) o_) λa d=> ?_;refine Rn.vv d (λo c=>cJ c (d.G 35) (d.G 37) o_) λa d=> ?_;refine Rn.uu d λa d=> ?_;refine Rn.p rfl (Rn.gu 27 d ?_)
  iterate 3 refine n_ ?_
  refine n_ ?_ (y:=λo a w c z=>u0 c gx gx o_);refine n_ ?_ (y:=λo a w c z=>Gz c gx);refine n_ ?_ (y:=λo a w c z=>sw 24 16777216 d_ c gx rfl)
  iterate 2 refine n_ ?_
  refine n_ ?_ (y:=λo a w c z=>cJ (n:=1) c gx rfl o_);refine n_ ?_ (y:=λo a w c z=>u0 c gx gx o_);refine n_ ?_ (y:=λo a w c z=>Gz c gx);refine n_ ?_ (y:=λo a w c z=>sw 16 65536 d_ c gx rfl);refine n_ ?_ (y:=λo a w c z=>xa c gx gx)
  iterate 2 refine n_ ?_
  refine n_ ?_ (y:=λo a w c z=>cJ (n:=2) c gx rfl o_);refine n_ ?_ (y:=λo a w c z=>u0 c gx gx o_);refine n_ ?_ (y:=λo a w c z=>Gz c gx);refine n_ ?_ (y:=λo a w c z=>sw 8 256 d_ c gx rfl);refine n_ ?_ (y:=λo a w c z=>xa c gx gx)
  iterate 2 refine n_ ?_
  refine n_ ?_ (y:=λo a w c z=>cJ (n:=3) c gx rfl o_);refine n_ ?_ (y:=λo a w c z=>u0 c gx gx o_);refine n_ ?_ (y:=λo a w c z=>Gz c gx);refine n_ ?_ (y:=λo a w c z=>xa c gx gx);refine n_ ?_ (y:=λo a w c z=>i1 se c gx gx o_);refine q_ λa t d f _ q h=> ?_;have e:=bk f g;obtain⟨j,i⟩:=sd o_ (by rw[if_pos o_]) (l.trans (f.mono (aE5 (gA g).1))) e;refine Rn.nn d (λo c=>(ff (ql:=true) (w:=t) (b:=b9) (k:=k) (v:= .i (uf B k)) (v0:= .i 0) rfl rfl k_ c (d.G 65) ((d.G 64).trans (by rw[RH,r])) (by rw[aH e];simpa using uw B k o_) (by simp[If,e])).1) λa d=>h _ _ ?_;refine Rn.uu d λa d=> ?_;refine Rn.vv d (λo c=>cJ (n:=1) c (d.G 33) rfl o_) λa d=> ?_;refine Rn.uu d λa d=> ?_;exact Rn.p rfl (Rn.p rfl (u (k+1) a _ o_ o_ j i (d.only ⟨rfl,rfl,rfl,rfl,rfl,rfl,rfl,trivial⟩)))
def Ze(next:∀a w,Below b9 W w->w.heap[b9]?=some (.cells (bA (di B 64)).toArray 111)->Has [(4,v4),(5,v5),(8,v8),(9, .pt b9)] 195 [] a->Rn lT Goal (fr.atR a K) cs w):
 ∀m q p a w,p=q+16->48- q=m->q<=48->Below b9 W w->w.heap[b9]?=some (.cells (bA (di B p)).toArray 111)->Has [(4,v4),(5,v5),(8,v8),(9, .pt b9),(12, .i p)] 195 [] a->
  Rn lT Goal (fr.atR a (.code (Zi f35):: .inLoop (Zi f35):: .inBlock 2::K)) cs w:=by
 intro m;induction m with
 |zero=>
  intro q p a w F J L C i c
  iterate 2 refine Rn.uu c λa c=> ?_
  refine Rn.p rfl (Rn.cond _ (c.G 67) ?_);rw[decide_eq_false o_];exact Rn.p rfl (next a w C (by grind) c.O)
 |succ m I=>
  intro q p a w F J L C i c;have j:=kt B p;have P:=j q;have N:=j (q+9);have D:=j (q+14)
  iterate 2 refine Rn.uu c λa c=> ?_
  refine Rn.p rfl (Rn.cond _ (c.G 67) ?_);rw[decide_eq_true o_];refine Rn.uu c λa c=> ?_;refine Rn.vv c (λo d=>u9 (n:=15) d (c.G 70) rfl o_ o_) λa c=> ?_;refine Rn.vv c (λo d=>i1 (k:=q+1) se d (c.G 9) ((c.G 71).trans (by simp_all)) o_) λa c=> ?_;refine Rn.vv c (λo d=>(aO bH d (c.G 72) (i3 i o_)).1) λa c=> ?_;refine Rn.cw (v:= .i (iK ((cj B p).getD (q+1) 0) 7 18 3)) c lf67 (so _ 7 18 3 w (j (q+1)) d_ d_ d_ d_ d_) λH r a c=> ?_;obtain⟨A,g⟩:=kc r C i
  iterate 2 refine Rn.uu c λa c=> ?_
  refine Rn.vv c (λo d=>u9 (n:=2) d (c.G 75) rfl o_ o_) λa c=> ?_;refine Rn.vv c (λo d=>i1 (k:=q+14) se d (c.G 9) ((c.G 76).trans (by simp_all)) o_) λa c=> ?_;refine Rn.vv c (λo d=>(aO bH d (c.G 77) (i3 g o_)).1) λa c=> ?_;refine Rn.cw (v:= .i (iK ((cj B p).getD (q+14) 0) 17 19 10)) c lf67 (so _ 17 19 10 H D d_ d_ d_ d_ d_) λS l a c=> ?_;obtain⟨x,e⟩:=kc l A g;have R:=wm ((cj B p).getD (q+1) 0) 7 18 3;have Q:=wm ((cj B p).getD (q+14) 0) 17 19 10;unfold Wd at P N R Q;refine Rn.uu c λa c=> ?_;refine Rn.p rfl (Rn.gu 16 c ?_)
  iterate 2 refine n_ ?_
  refine n_ ?_ (y:=λo a w d z=>u9 (n:=16) d gx rfl o_ o_);refine n_ ?_ (y:=λo a w d z=>i1 (k:=q) se d gx (aT3 gx (by simp_all)) o_);refine n_ ?_ (y:=λo a w d z=>(aO bH d gx (i3 (bk z.b e) o_)).1);refine n_ ?_;refine n_ ?_ (y:=λo a w d z=>nQ d gx gx o_);refine n_ ?_;refine n_ ?_ (y:=λo a w d z=>u9 (n:=7) d gx rfl o_ o_);refine n_ ?_ (y:=λo a w d z=>i1 (k:=q+9) se d gx (aT3 gx (by simp_all)) o_);refine n_ ?_ (y:=λo a w d z=>(aO bH d gx (i3 (bk z.b e) o_)).1);refine n_ ?_ (y:=λo a w d z=>nQ d gx gx o_);refine n_ ?_;refine n_ ?_ (y:=λo a w d z=>nQ d gx gx o_);refine n_ ?_ (y:=λo a w d z=>ma d gx rfl);refine n_ ?_ (y:=λo a w d z=>i1 se d gx gx o_);refine q_ λa G c h _ E s=> ?_;have f:=bk h e;obtain⟨u,t⟩:=sd o_ (by rw[if_neg o_]) (x.trans (h.mono (aE5 (gA e).1))) f;refine Rn.nn c (λo d=>(ff (ql:=true) (w:=G) (b:=b9) (k:=p) (v:= .i (uL (cj B p) p)) (v0:= .i 0) rfl rfl k_ d (c.G 95) ((c.G 94).trans (by rw[tB o_ o_,show uL (cj B p) p=_ from(congrArg (uL _) F).trans (Cu (cj B p) q)];simp only[JZ];congr 1;omega)) (by rw[aH f];simpa using uw B p o_) (by simp[If,f])).1) λa c=>s _ _ ?_;refine Rn.uu c λa c=> ?_;refine Rn.vv c (λo d=>cJ (n:=1) d (c.G 68) rfl o_) λa c=> ?_;refine Rn.uu c λa c=> ?_;exact Rn.p rfl (Rn.p rfl (I (q+1) (p+1) a _ o_ o_ o_ u t (c.only ⟨rfl,rfl,rfl,rfl,rfl,trivial⟩)))
end
section
variable{H S:List Int}{kb cap:Nat}{hs v5 v8:Value}{W:World}
def Zd(V:lB H)(u:lB KS)(t:lB S)(T:KS.length=64)(R:S.length=64)(x:W.heap[b4]?=some (.cells #[hs, .sk kb 64 cap] 26))(X:W.heap[b9]?=some (.cells (bA S).toArray 111))(h:kb<W.heap.size)(U:W.rangeAt kb 0 (bA KS))
 (next:∀a w,Bw W w->Has [(5,v5),(8,v8),(15, .i (cU KS S H 64).a),(16, .i (cU KS S H 64).b),(17, .i (cU KS S H 64).c),(18, .i (cU KS S H 64).d),(19, .i (cU KS S H 64).e),(20, .i (cU KS S H 64).f),(21, .i (cU KS S H 64).g),(22, .i (cU KS S H 64).h)] 195 [] a->Rn lT Goal (fr.atR a K) cs w):
 ∀m k s a w,64- k=m->k<=64->cU KS S H k=s->Bw W w->Has [(4, .pt b4),(5,v5),(8,v8),(9, .pt b9),(15, .i s.a),(16, .i s.b),(17, .i s.c),(18, .i s.d),(19, .i s.e),(20, .i s.f),(21, .i s.g),(22, .i s.h),(23, .i k)] 195 [] a->
  Rn lT Goal (fr.atR a (.code (Zh f35):: .inLoop (Zh f35):: .inBlock 4::K)) cs w:=by
 intro m;induction m with
 |zero=>
  intro k s a w M N f j b
  iterate 2 refine Rn.uu b λa b=> ?_
  refine Rn.p rfl (Rn.cond _ (b.G 113) ?_);rw[decide_eq_false o_];obtain rfl:k=64:=o_
  subst f;exact Rn.p rfl (next a w j b.O)
 |succ m L=>
  intro k s a w M N f j b;have g:=f▸A6 KS S V k;have E:=u k;have D:=t k;have C:=HE g;have Y:=j2 .xor (bits .and .u32 s.e s.f) (bits .and .u32 (4294967295- s.e) s.g);have G:=yF s.e 6 11 25;have I:=yF s.a 2 13 22;have A:=HA g;have J:=j2 .xor (bits .xor .u32 (bits .and .u32 s.a s.b) (bits .and .u32 s.a s.c)) (bits .and .u32 s.b s.c);rw[←C]at Y;rw[←A]at J;have B:=W2 s g (KS.getD k 0) (S.getD k 0);rw[←C]at B;have Q:=g.d;have P:=g.e;have O:=g.h;unfold Wd at E D G I Q P O
  iterate 2 refine Rn.uu b λa b=> ?_
  refine Rn.p rfl (Rn.cond _ (b.G 113) ?_);rw[decide_eq_true o_];refine Rn.uu b λa b=> ?_;refine Rn.cw (v:= .i (eF s.e 6 11 25)) b lf68 (sn _ 6 11 25 w g.e d_ d_ d_ d_ d_ d_) λw1 p a b=> ?_;obtain⟨d, -⟩:=kc p j (bk j x)
  iterate 3 refine Rn.uu b λa b=> ?_
  refine Rn.vv b (λo c=>ma c (b.G 118) (b.G 119)) λa b=> ?_;refine Rn.uu b λa b=> ?_;refine Rn.vv b (λo c=>tj (m:=4294967295) c rfl (b.G 121) o_) λa b=> ?_;refine Rn.uu b λa b=> ?_;refine Rn.vv b (λo c=>ma c (b.G 122) (b.G 123)) λa b=> ?_;refine Rn.vv b (λo c=>sf c (b.G 120) (b.G 124)) λa b=> ?_;refine Rn.uu b λa b=> ?_;refine Rn.p rfl (Rn.p rfl (Rn.gt b ?_))
  iterate 2 refine n_ ?_
  refine n_ ?_;refine n_ ?_;refine n_ ?_;refine n_ ?_ (y:=λo a w c z=>Za c gx);refine n_ ?_ (y:=λo a w c z=>(aO sB c gx (by rw[aH (bk z.b (bk d x))];rfl)).1);refine n_ ?_;refine n_ ?_ (y:=λo a w c z=>(dI (e:=3) k_ s_ c gx gx o_).1.trans (by rw[Addr.add_lit]));refine n_ ?_ (y:=λo a w c z=>(aO bH c gx (Sw (bN z.b (ar4 h d.size) (bN d h U)) k o_)).1);refine n_ ?_;refine n_ ?_;refine n_ ?_ (y:=λo a w c z=>i1 (k:=k) se c gx gx o_);refine n_ ?_ (y:=λo a w c z=>(aO bH c gx (by rw[aH (bk z.b (bk d X)),Va];exact XL S k o_)).1);refine n_ ?_ (y:=λo a w c z=>nQ c gx gx o_);refine n_ ?_ (v:= .i (s.t (KS.getD k 0) (S.getD k 0))) (y:=λo a w c z=>(ma c gx rfl).trans (by rw[tB o_ o_,B]));refine n_ ?_;refine q_ λa F b r _=> ?_;have i:=d.trans (r.mono d.size);have tt:0<=s.t (KS.getD k 0) (S.getD k 0)/\s.t (KS.getD k 0) (S.getD k 0)<4294967296:=o_
  refine Rn.uu b λa b=> ?_;refine Rn.cw (v:= .i (eF s.a 2 13 22)) b lf68 (sn _ 2 13 22 F g.a d_ d_ d_ d_ d_ d_) λZ l a b=> ?_;obtain⟨q, -⟩:=kc l i (bk i x)
  iterate 3 refine Rn.uu b λa b=> ?_
  refine Rn.vv b (λo c=>ma c (b.G 144) (b.G 145)) λa b=> ?_
  iterate 2 refine Rn.uu b λa b=> ?_
  refine Rn.vv b (λo c=>ma c (b.G 147) (b.G 148)) λa b=> ?_;refine Rn.vv b (λo c=>sf c (b.G 146) (b.G 149)) λa b=> ?_
  iterate 2 refine Rn.uu b λa b=> ?_
  refine Rn.vv b (λo c=>ma c (b.G 151) (b.G 152)) λa b=> ?_;refine Rn.vv b (λo c=>sf c (b.G 150) (b.G 153)) λa b=> ?_
  iterate 9 refine Rn.uu b λa b=> ?_
  refine Rn.vv b (λo c=>nQ c (b.G 158) (b.G 159) o_) λa b=> ?_;refine Rn.vv (v:= .i (s.next (KS.getD k 0) (S.getD k 0)).e) b (λo c=>(ma c (b.G 160) rfl).trans (by rw[tB o_ o_,←JZ];rfl)) λa b=> ?_
  iterate 9 refine Rn.uu b λa b=> ?_
  refine Rn.vv b (λo c=>nQ c (b.G 165) (b.G 166) o_) λa b=> ?_;refine Rn.uu b λa b=> ?_;refine Rn.vv b (λo c=>nQ c (b.G 167) (b.G 168) o_) λa b=> ?_;refine Rn.vv (v:= .i (s.next (KS.getD k 0) (S.getD k 0)).a) b (λo c=>(ma c (b.G 169) rfl).trans (by
   rw[tB o_ o_,A];show _=aH7 (aI2 (.i (JV.wrap (s.t (KS.getD k 0) (S.getD k 0)+s.u)))) _;rw[St.u,JZ,JZ]
   congr 3
   omega)) λa b=> ?_
  iterate 2 refine Rn.uu b λa b=> ?_
  refine Rn.vv b (λo c=>cJ (n:=1) c (b.G 114) rfl o_) λa b=> ?_;refine Rn.uu b λa b=> ?_;exact Rn.p rfl (Rn.p rfl (L (k+1) (s.next (KS.getD k 0) (S.getD k 0)) a _ o_ o_ (by rw[cU,f]) q (b.only ⟨rfl,rfl,rfl,rfl,rfl,rfl,rfl,rfl,rfl,rfl,rfl,rfl,rfl,trivial⟩)))
def Zc{G:St}{b5 d:Nat}(J:H.length=8)(D:lB H)(E:G.Wd)(F:W.heap[b5]?=some (.cells (bA H).toArray 81))(l:b5<d)
 (next:∀a w,Below d W w->w.heap[d]?=some (.cells (bA (ri H G.list 8)).toArray 81)->Has [(8,v8),(29, .pt d)] 195 [] a->Rn lT Goal (fr.atR a K) cs w):
 ∀(m k:Nat) (a:Act) (w:World),8- k=m->k<=8->Below d W w->w.heap[d]?=some (.cells (bA (ri H G.list k)).toArray 81)->Has [(5, .pt b5),(8,v8),(29, .pt d),(30, .i k)] 195 [] a->
  Rn lT Goal (fr.atR a (.code (Zg f35):: .inLoop (Zg f35):: .inBlock 6::K)) cs w:=by
 intro m;induction m with
 |zero=>
  intro k a w B C j g c
  iterate 2 refine Rn.uu c λa c=> ?_
  refine Rn.p rfl (Rn.cond _ (c.G 181) ?_);rw[decide_eq_false o_];exact Rn.p rfl (next a w j (by grind) (c.only ⟨rfl,rfl,trivial⟩))
 |succ m A=>
  intro k a w B C j g c;have x:=D k;have u:=O0 E k;unfold Wd at x u;have I:=(j.block b5 l).trans F;have t:∀{r:World},r.heap[d]?=some (.cells (bA (ri H G.list k)).toArray 81)->r.cell? ⟨d,k,none⟩=some (.i (G.list.getD k 0)):=λh=>by rw[aH h,Va,XL _ k (by rw[Cx];omega),LW _ _ _ o_]
  iterate 2 refine Rn.uu c λa c=> ?_
  refine Rn.p rfl (Rn.cond _ (c.G 181) ?_);rw[decide_eq_true o_];refine Rn.p rfl (Rn.p rfl (Rn.p rfl (Rn.gu 10 c ?_)))
  iterate 2 refine n_ ?_
  refine n_ ?_ (y:=λo a w e z=>i1 (k:=k) Zk e gx gx o_);refine n_ ?_ (y:=λo a w e z=>(aO bH e gx (by rw[aH (bk z.b I),Va];exact XL H k o_)).1);refine n_ ?_;refine n_ ?_ (y:=λo a w e z=>i1 (k:=k) Zk e gx gx o_);refine n_ ?_ (y:=λo a w e z=>(aO bH e gx (t (bk z.b g))).1);refine n_ ?_ (y:=λo a w e z=>nQ e gx gx o_);refine n_ ?_ (y:=λo a w e z=>ma e gx rfl);refine n_ ?_ (y:=λo a w e z=>i1 (k:=k) Zk e gx gx o_);refine q_ λa q c i _ s p=> ?_;have f:=bk i g;refine Rn.nn c (λo e=>(ff (ql:=true) (w:=q) (b:=d) (k:=k) (v:= .i (JV.wrap (H.getD k 0+G.list.getD k 0))) rfl rfl k_ e (c.G 193) ((c.G 192).trans (by rw[tB o_ o_,JZ])) (t f) (by simp[If,f])).1) λa c=>p _ _ ?_;refine Rn.uu c λa c=> ?_;refine Rn.vv c (λo e=>cJ (n:=1) e (c.G 182) rfl o_) λa c=> ?_;refine Rn.uu c λa c=> ?_;exact Rn.p rfl (Rn.p rfl (A (k+1) a _ o_ o_ ((j.trans (i.mono (aE5 (gA g).1))).trans (eJ q _ _ (ar5 _))) (by rw[←LV,←ZR];exact sc f) (c.only ⟨rfl,rfl,rfl,rfl,trivial⟩)))
end
def Kp(H KS)(s)(f kb cap:Nat)(P)(w)(hH:H.length=8)(r:lB H)(K:KS.length=64)(J:lB KS)(Q:w.rangeAt kb 0 (bA KS))
 (I:f+64<=s.size) (C:s.size<=281474976710656):
 Calls lT 35 #[.agg #[P, .sk kb 64 cap], .agg (bA H).toArray, .s s, .i (f:Int)] w
  λe w'=>e= .returned (.agg (bA (od KS H ((s.data.toList.drop f).take 64))).toArray)/\Bw w w':=by
 have D:kb<w.heap.size:=by
  have h:=fL Q 0 o_;by_cases c:kb<w.heap.size
  .exact c
  .simp[AT,aI6 (Nat.le_of_not_lt c)]at h
 refine kh (t:=8) (ty:=81) (n:=8) lf35 rfl Zk rfl xb λcs=>Rn.ent (N:=195) lf35 M0 (L:=[.agg #[P, .sk kb 64 cap], .agg (bA H).toArray, .s s, .i (f:Int)]) λa b=> ?_;refine Rn.zz b λV a F c4 a2 b=> ?_;refine Rn.zz b λw2 a x c5 a1 b=> ?_;refine Rn.al b (λo d=>ya d) λw3 a q c8 a0 b=> ?_;refine Rn.al b (λo d=>HN ((s.data.toList.drop f).take 64) d) λU a l c9 Z b=> ?_;refine Rn.uu b λa b=> ?_;refine Rn.p rfl (Rn.p rfl (Rn.p rfl ?_));refine Zf I C rfl (λa T E cA b=> ?_) 16 0 a U rfl d_ (bR) c9 (b.only ⟨rfl,rfl,rfl,rfl,rfl,rfl,rfl,trivial⟩);refine Rn.uu b λa b=> ?_;refine Rn.p rfl (Rn.p rfl (Rn.p rfl ?_));refine Ze (λa B g cB b=> ?_) 48 0 16 a T rfl rfl d_ E cA (b.only ⟨rfl,rfl,rfl,rfl,rfl,trivial⟩);have O:=(g.block _ o_).trans (bk l (bk q (bk x c4)));have z:=(g.block _ o_).trans (bk l (bk q c5));have M:=(g.block _ o_).trans (bk l c8);have S:Bw w B:=F.trans ((x.mono o_).trans ((q.mono o_).trans ((l.mono o_).trans (g.mono o_))));have X:=g.size;have m:∀i,i<8->B.cell? ⟨V.heap.size,i,none⟩=some (.i (H.getD i 0)):=λi hi=>by rw[aH z,Va];exact XL H i o_
 refine Rn.vv b (λo d=>i1 (k:=0) Zk d (b.G 5) rfl d_) λa b=> ?_;refine Rn.vv b (λo d=>(aO bH d (b.G 96) (m 0 d_)).1) λa b=> ?_;refine Rn.uu b λa b=> ?_;refine Rn.vv b (λo d=>i1 (k:=1) Zk d (b.G 5) rfl d_) λa b=> ?_;refine Rn.vv b (λo d=>(aO bH d (b.G 98) (m 1 d_)).1) λa b=> ?_;refine Rn.uu b λa b=> ?_;refine Rn.vv b (λo d=>i1 (k:=2) Zk d (b.G 5) rfl d_) λa b=> ?_;refine Rn.vv b (λo d=>(aO bH d (b.G 100) (m 2 d_)).1) λa b=> ?_;refine Rn.uu b λa b=> ?_;refine Rn.vv b (λo d=>i1 (k:=3) Zk d (b.G 5) rfl d_) λa b=> ?_;refine Rn.vv b (λo d=>(aO bH d (b.G 102) (m 3 d_)).1) λa b=> ?_;refine Rn.uu b λa b=> ?_;refine Rn.vv b (λo d=>i1 (k:=4) Zk d (b.G 5) rfl d_) λa b=> ?_;refine Rn.vv b (λo d=>(aO bH d (b.G 104) (m 4 d_)).1) λa b=> ?_;refine Rn.uu b λa b=> ?_;refine Rn.vv b (λo d=>i1 (k:=5) Zk d (b.G 5) rfl d_) λa b=> ?_;refine Rn.vv b (λo d=>(aO bH d (b.G 106) (m 5 d_)).1) λa b=> ?_;refine Rn.uu b λa b=> ?_;refine Rn.vv b (λo d=>i1 (k:=6) Zk d (b.G 5) rfl d_) λa b=> ?_;refine Rn.vv b (λo d=>(aO bH d (b.G 108) (m 6 d_)).1) λa b=> ?_;refine Rn.uu b λa b=> ?_;refine Rn.vv b (λo d=>i1 (k:=7) Zk d (b.G 5) rfl d_) λa b=> ?_;refine Rn.vv b (λo d=>(aO bH d (b.G 110) (m 7 d_)).1) λa b=> ?_;refine Rn.uu b λa b=> ?_;refine Rn.uu b λa b=> ?_;refine Rn.p rfl (Rn.p rfl (Rn.p rfl ?_));refine Zd r J (kt _ 64) K (f9 _ 64) O (by rw[cB,uy]) o_ (bN S D Q) (λa wC j b=> ?_) 64 0 (St.of H) a B rfl d_ rfl (bR) (b.only ⟨rfl,rfl,rfl,rfl,rfl,rfl,rfl,rfl,rfl,rfl,rfl,rfl,rfl,trivial⟩);generalize R:cU KS (cj ((s.data.toList.drop f).take 64) 64) H 64=G at b
 iterate 8 refine Rn.uu b λa b=> ?_
 refine Rn.vv (v:= .agg (bA G.list).toArray) b (λo d=>Zb d (b.G 171) (b.G 172) (b.G 173) (b.G 174) (b.G 175) (b.G 176) (b.G 177) (b.G 178)) λa b=> ?_;refine Rn.al b (λo d=>ya d) λw5 a p A Y b=> ?_;refine Rn.nn b (λo d=>cZ (cells:=(bA G.list).toArray) d (b.G 29) (b.G 179) A xb rfl (all_oneCell_toArray (ry _))) λa b=> ?_;have W:=j.size;refine Rn.uu b λa b=> ?_;refine Rn.p rfl (Rn.p rfl (Rn.p rfl ?_));refine Zc hH r (R▸A6 KS _ r 64) ((setRow_other _ _ _ _ o_).trans (bk p (bk j z))) o_ (λa wE u cE b=> ?_) 8 0 a _ rfl d_ (bR) (setRow_heap _ _ _ _ _ _ A) (b.only ⟨rfl,rfl,rfl,rfl,trivial⟩);have y:=(u.block _ o_).trans ((setRow_other _ _ _ _ o_).trans (bk p (bk j M)));refine Rn.vv b (λo d=>Zl d (b.G 29) cE (by rw[gk,Cx])) λa b=> ?_;refine Rn.nn b (λo d=>cZ d (b.G 8) (b.G 194) y (by rw[xb];simp[gk,Cx]) (by simp[gk,Cx]) (all_oneCell_toArray (ry _))) λa b=> ?_;exact Rn.p rfl (Rn.ends rfl s_ (Rn.now ⟨a,_,_,_,_,rfl,b.defers,b.slot 8 _ rfl,setRow_heap _ _ _ _ _ _ y,by simp[gk,Cx],by rw[LX,←R];rfl,S.trans ((j.mono o_).trans ((p.mono o_).trans ((dD _ _ _ o_).trans ((u.mono o_).trans (dD _ _ _ o_)))))⟩))
def Eu(s:ByteArray)(w:World)(hs:s.size<=281474976710400):
 Calls lT 34 #[.s s] w λe w'=>e= .returned (.string ⟨(s.data.toList++iY s.data.toList).toArray⟩)/\Bw w w':=by
 obtain⟨m,hm⟩:∃m,m=fM s.size:=s_;have hm2:(s.size:Int)+8<=m:=by subst hm;unfold fM;omega
 have hm3:m<=281474976710656:=by subst hm;unfold fM;omega
 have hmk:=λw=>run_make_row' (P:=lT) 83 5 (.int .u8 0) 1 lu83 Lf.info5 rfl .i64 .i64 m o_ o_ w;have hme:((s.size:Int)+8)/64*64+64=(m:Int):=by subst hm;unfold fM;omega
 have hsl:s.data.toList.length=s.size:=by simp_all
 obtain⟨M,hM,hcp⟩:∃M,UX w M m (s.data.toList++ar9 (m- s.data.toList.length) 0)/\(Builtin.copy_ #[83,9] 3 #[.sk w.heap.size m m, .s s]).run lT (w.alloc (.cells (madeCells #[.int .u8 0] m) 5))= .ok (goInt s.size) M:=by
  refine⟨_,Jf w s.data.toList m 5 o_, ?_⟩;have:=rU (P:=lT) (w.alloc (.cells (madeCells #[.int .u8 0] m) 5)) 83 3 5 lu83 k_ 9 w.heap.size 0 m m s.size s (Nat.min_eq_left o_) (j5 (n:=m) (dB _ _ _ _ _ rfl (by rw[eq,JR,List.length_replicate])) o_ o_)
  grind
 have HM:Hid (UX w M m (s.data.toList++ar9 (m- s.data.toList.length) 0)):=hM;have hMs:=hM.size;have hXl:(s.data.toList++ar9 (m- s.data.toList.length) (0:UInt8)).length=m:=by simp;omega
 have hc0:M.cell? ⟨w.heap.size,s.size,none⟩=some (.int .u8 _):=GD hM.row s.size (by rw[hXl];omega);have hf0:M.frozen? ⟨w.heap.size,s.size,none⟩=false:=by have:=(hM.there s.size o_).2;simp_all
 have hlt:(s.size:Int)<(m:Int):=o_
 have HSL:Hid (s.data.toList.length=s.size):=hsl;have Hm:Hid (m=fM s.size):=hm;clear hm hM hXl hsl
 go_enter lf34,ntmps34
 go_wp2_with fail
 go_loopw [5] (λx wr=>∃(i:Nat),i<=8/\x= .i i/\Bw w wr/\wr.rangeAt w.heap.size 0 (aX (wS s.data.toList i))/\wr.there w.heap.size 0 m) (λx _=>8-(intOf x).toNat)
 case atStart=>
  refine⟨0,o_,rfl,HM.out.below.setCell (p:=⟨w.heap.size,s.size,none⟩) (ar5 _) _, ?_,gQ HM.out.there _ _ _⟩;have:=kx (k:=s.size) HM.out.row (.int .u8 128);rw[show(Value.int .u8 128)=Value.int .u8 ((128:UInt8).toNat:Int)from rfl,VS]at this;have e:=Ew s.data.toList;rw[HSL.out]at e this;rw[←e,←Hm.out];exact this
 case round=>
  obtain⟨i,hi,rfl,hb,hr,ht⟩:=hrel;have hpl:=pf s.data.toList i hi;rw[HSL.out,←Hm.out]at hpl;clear hc0 hf0 hcp hmk hme;by_cases h8:i<8
  .have h8':(i:Int)<8:=o_;obtain⟨j,hj⟩:∃j,j=m- 8+i:=s_;have hji:(m:Int)- 8+(i:Int)=(j:Int):=o_;have hjm:(j:Int)<(m:Int):=o_;have hc:wr.cell? ⟨w.heap.size,j,none⟩=some (.int .u8 _):=GD hr j (by rw[hpl];omega);have hf:wr.frozen? ⟨w.heap.size,j,none⟩=false:=(by have:=(ht j o_).2;simp_all);have b3:(0:Int)<=56- 8*(i:Int):=o_;have b4:8*(s.size:Int)<=9223372036854775807:=o_;have Hr:Hid _:=hr;have Ht:Hid _:=ht;have Hj:Hid (j=m- 8+i):=hj;clear hr ht hj hpl;have Hv:Hid _:=Pf s.size i h8
   go_wp2_with fail
   rw[Hv.out];refine⟨⟨i+1,o_,by go_num,hb.setCell (p:=⟨w.heap.size,j,none⟩) (ar5 _) _, ?_,gQ Ht.out _ _ _⟩,by simp[intOf];omega⟩;have:=kx (k:=j) Hr.out (.int .u8 ((ZJ (8*s.size/256^(7- i))).toNat:Int));rw[VS]at this;have e:=LG s.data.toList i h8 (ZJ (8*s.size/256^(7- i))) (by rw[HSL.out]);rw[HSL.out,←Hm.out,←Hj.out]at e;simp_all
  .have hi8:i=8:=o_;subst hi8;clear h8 hi;rw[wR]at hr hpl;have hcv:=run_convert_bytes_back (P:=lT) wr 83 9 5 ⟨w.heap.size,0,none⟩ m (s.data.toList++iY s.data.toList) lu83 lu5 lu9
    (λj hj=>by
      rw[AS];have:=hr j _ (WB _ j hj)
      grind)
   rw[hpl]at hcv;generalize hZ:s.data.toList++iY s.data.toList=Z at*;have HZ:Hid (s.data.toList++iY s.data.toList=Z):=hZ;clear hZ hr ht hpl
   go_wp2_with fail
   go_ret
   exact⟨si HZ.out.symm,hb⟩
def Em(KS:List Int)(s:ByteArray)(hb capH kb cap:Nat)(w:World)(hKl:KS.length=64)(hKw:lB KS)(hH:w.rangeAt hb 0 (bA H0))(hhb:hb<w.heap.size)(hK:w.rangeAt kb 0 (bA KS))(hkb:kb<w.heap.size)
 (hs:s.size<=281474976710400):
 Calls lT 12 #[.agg #[.sk hb 8 capH, .sk kb 64 cap], .s s] w
  λe w'=>e= .returned (.string ⟨(iu KS s.data.toList).toArray⟩)/\Bw w w':=by
 have HK:Hid (w.rangeAt kb 0 (bA KS)):=hK;have HH:Hid (w.rangeAt hb 0 (bA H0)):=hH;have HKw:Hid (lB KS):=hKw;clear hK hH hKw
 go_enter lf12,ntmps12
 go_wp2
 go_loopw [6] (λx wr=>∃(k:Nat),k<=8/\x= .i k/\qp w wr hb capH kb cap (mh k)) (λx _=>8-(intOf x).toNat)
 case atStart=>exact⟨0,o_,rfl,IU w hb capH kb cap _ _⟩
 case round=>
  obtain⟨k,hk,rfl,hW⟩:=hrel;have HW:Hid (qp w wr hb capH kb cap (mh k)):=hW;clear hW;by_cases hlt:k<8
  .have hlt':(k:Int)<8:=o_;have c0:wr.cell? ⟨w.heap.size,0,none⟩=some (.sk hb 8 capH):=HW.out.crow 0 _ rfl;have c1:wr.cell? ⟨hb,k,none⟩=some (.i (H0.getD k 0)):=fL (bN HW.out.below hhb HH.out) k hlt;have c2:wr.cell? ⟨w.heap.size+1,k,none⟩=some (.i _):=fL HW.out.hrow k (by exact y7 k hk▸hlt);have c3:wr.frozen? ⟨w.heap.size+1,k,none⟩=false:=(by have:=(HW.out.there k hlt).2;simp_all);have Hset:Hid _:=Fl k hlt;generalize (mh k).getD k 0=y2 at c2;generalize H0.getD k 0=y1 at c1 Hset
   go_wp2_with fail
   go_roundw
   case rel=>exact⟨k+1,o_,by go_num,by rw[←Hset.out];exact HW.out.set k y1⟩
   case measure=>simp[intOf];omega
  .have hk8:k=8:=o_;subst hk8;clear hlt hk;simp only[show((8:Nat):Int)=8 from rfl];rw[show mh 8=H0 from rfl]at HW
   go_wp2_with fail
   refine(Eu s _ hs).mono ?_;rintro e w1 ⟨rfl,hb1⟩;have HW1:Hid (qp w w1 hb capH kb cap H0):=HW.out.below' hb1;clear HW hb1;have hPl:(ByteArray.mk (s.data.toList++iY s.data.toList).toArray).size=(s.data.toList++iY s.data.toList).length:=(by show(s.data.toList++iY s.data.toList).toArray.size=_;simp);have hP64:=Ev s.data.toList;have hPb:(s.data.toList++iY s.data.toList).length<=281474976710656:=by rw[←wR,pf _ _ o_];have:s.data.toList.length=s.size:=(by rw[au3];rfl);rw[this];unfold fM;omega
   have HP:Hid (iu KS s.data.toList=(ar7 32).map (ra (cM KS (s.data.toList++iY s.data.toList) ((s.data.toList++iY s.data.toList).length/64)))):=rfl;generalize s.data.toList++iY s.data.toList=P at*;obtain⟨q,hq⟩:∃q,q=P.length/64:=⟨_,rfl⟩;have hqP:P.length=64*q:=o_;rw[←hq]at HP;have HqP:Hid (P.length=64*q):=hqP;have hq2:q<=4398046511104:=o_;have hPs:(ByteArray.mk P.toArray).size=64*q:=o_;clear hP64 hPl hPb hq hqP;obtain⟨PB,hPB⟩:∃PB:ByteArray,PB=⟨P.toArray⟩:=⟨_,rfl⟩;rw[←hPB]at hPs⊢;have HPB:Hid (PB.data.toList=P):=(by show PB.data.toList=P;rw[hPB]);clear hPB
   go_wp2_with fail
   go_loopw [8] (λx wr=>∃(k:Nat),k<=q/\x= .i ((64*k:Nat):Int)/\qp w wr hb capH kb cap (cM KS P k)) (λx _=>64*q-(intOf x).toNat)
   case atStart=>exact⟨0,o_,rfl,HW1.out⟩
   case round=>
    obtain⟨k,hk,rfl,hW⟩:=hrel;have HW:Hid (qp w wr hb capH kb cap (cM KS P k)):=hW;clear hW HW1;rw[show((64*k:Nat):Int)=64*(k:Int)from o_];by_cases hlt:k<q
    .have hlt':64*(k:Int)<64*(q:Int):=o_;have hF8:(cM KS P k).length=8:=dA _ _ _;have hFw:=vR KS P k;have hn:cM KS P (k+1)=od KS (cM KS P k) ((PB.data.toList.drop (64*k)).take 64):=(by rw[HPB.out];rfl);have hn8:(cM KS P (k+1)).length=8:=dA _ _ _;generalize cM KS P k=F at*;generalize hF':cM KS P (k+1)=F' at*;have HF':Hid (cM KS P (k+1)=F'):=hF';clear hF';have hi49:(lT.info? 81).map (·.size)=some (bA F).length:=(by rw[gk,hF8];kernel_rfl);have hi24:(lT.info? 26).map (·.size)=some [Value.sk hb 8 capH,Value.sk kb 64 cap].length:=k_;have hbl:=Kp F KS PB (64*k) kb cap (.sk hb 8 capH) wr hF8 hFw hKl HKw.out (bN HW.out.below hkb HK.out) o_ o_;rw[←hn,show((64*k:Nat):Int)=64*(k:Int)from o_]at hbl;have Hbl:Hid (Calls _ _ _ _ _):=hbl;have Hi49:Hid ((lT.info? 81).map (·.size)=some (bA F').toArray.size):=(by show _=some (bA F').toArray.size;rw[JR,gk,hn8];kernel_rfl);have Hn8:Hid (F'.length=8):=hn8;clear hbl hn hF8 hFw hn8
     go_wp2_with (first
      |refine wpList_load_mid rfl 26 (.tmp 2) rfl w.heap.size 0 rfl [Value.sk hb 8 capH,Value.sk kb 64 cap] _ HW.out.crow lu26 rfl hi24 ?_
      |refine wpList_load_mid rfl 81 (.tmp 5) rfl (w.heap.size+1) 0 rfl (bA F) _ HW.out.hrow lu81 rfl hi49 ?_)
     refine Hbl.out.mono ?_;rintro e w2 ⟨rfl,hb2⟩;have HW2:Hid (qp w w2 hb capH kb cap F):=HW.out.below' hb2;have Hth:Hid (w2.there (w.heap.size+1) 0 (bA F').toArray.size):=by show w2.there _ _ (bA F').toArray.size;rw[show(bA F').toArray.size=8 from by simp[gk,Hn8.out]];exact HW2.out.there
     clear hb2 HW Hbl hi49
     go_wp2_with (first
      |refine wpList_store_mid rfl 81 (.tmp 5) (.tmp 34) rfl (w.heap.size+1) 0 (bA F').toArray rfl rfl Hth.out Hi49.out (all_oneCell_toArray (ry F')) ?_)
     go_roundw
     case rel=>exact⟨k+1,o_,by go_num,by rw[HF'.out];exact HW2.out.put _ Hn8.out⟩
     case measure=>simp[intOf];omega
    .have hkq:k=q:=o_;subst hkq;clear hlt hk;have hmk:∀W,(ZB 83 (.i 32) (.i 32)).run lT W= .ok (.sk W.heap.size 32 32) (W.alloc (.cells (madeCells #[.int .u8 0] 32) 5)):=
      λW=>run_make_row' (P:=lT) 83 5 (.int .u8 0) 1 lu83 Lf.info5 rfl .i64 .i64 32 o_ o_ W
     have hlt':¬64*(k:Int)<64*(k:Int):=o_;have hF8:(cM KS P k).length=8:=dA _ _ _;have hF0:=qG KS P k;have hFw:=vR KS P k;generalize cM KS P k=F at*;have HF8:Hid (F.length=8):=hF8;have HF0:Hid (∀i,0<=F.getD i 0):=hF0;have HFw:Hid (lB F):=hFw;clear hF8 hF0 hFw
     go_wp2_with fail
     go_loopw [10] (λx W=>∃j:Nat,j<=32/\x= .i j/\W=wr.alloc (.cells (d8 F j).toArray 5)) (λx _=>32-(intOf x).toNat)
     case atStart=>exact⟨0,o_,rfl,by rw[eq];rfl⟩
     case round=>
      clear hmk;obtain⟨j,hj,rfl,rfl⟩:=hrel;by_cases hl:j<32
      .have hg:=Cj F j hl;have hln:=uF F j hj;have hz3:w.heap.size+1<wr.heap.size:=(by have:=HW.out.size;omega);have hcw:=λo:Obj=>aI5 (w:=wr) o (w.heap.size+1) (j/4) hz3;have hcv:wr.cell? ⟨w.heap.size+1,j/4,none⟩=some (.i (F.getD (j/4) 0)):=fL HW.out.hrow (j/4) (by rw[HF8.out];omega);have hx0:=HF0.out (j/4);have hx1:=(HFw.out (j/4)).2;generalize hx:F.getD (j/4) 0=x at hcv hx0 hx1;have HX:Hid (F.getD (j/4) 0=x):=hx;clear hx;have l1:(j:Int)<32:=o_;have b1:(j:Int)/4<8:=o_;have b2:(0:Int)<=(j:Int)/4:=o_;have b3:(0:Int)<=24-(j:Int)%4*8:=o_;have Hv:Hid _:=Cg F j x HX.out hx0
       go_wp2_with fail
       rw[Nat.mul_comm (j%4) 8];exact⟨⟨j+1,o_,by go_num,by rw[Ci F j hl _ Hv.out]⟩,by simp[intOf];omega⟩
      .have hj32:j=32:=o_;subst hj32;clear hl hj;rw[Ck];have hcv:=run_convert_bytes_back (P:=lT) (wr.alloc (.cells (aX ((ar7 32).map (ra F))).toArray 5)) 83 9 5 ⟨wr.heap.size,0,none⟩ 32 ((ar7 32).map (ra F)) lu83 lu5 lu9
               (λj hj=>by rw[AS,at5 _ _ _ _ rfl];simp[aX]at hj⊢;simp[hj])
       rw[show((ar7 32).map (ra F)).length=32 from s_]at hcv;generalize hZ:(ar7 32).map (ra F)=Z at*;clear hZ
       go_wp2_with fail
       go_ret
       exact⟨si HP.out.symm,HW.out.below.alloc (by have:=HW.out.size;omega) _⟩
def ie(s)(a n:Nat)(w)(t:n<=4)(z:a+n<=s.size)(r:s.size<=1125899906842624):
 Calls lT 37 #[.s s, .i (a:Int), .i (n:Int)] w λe w'=>e= .returned (.i (dC (cq s.data.toList a (a+n))))/\w'=w:=by
 have b:s.data.toList.length=s.size:=by simp_all
 have g:Hid (s.data.toList.length=s.size):=b;clear b
 go_enter lf37,ntmps37
 go_wp2
 go_loop [7,8] (λv i=>∃k,k<=n/\i= .i k/\v= .i (dC (cq s.data.toList a (a+k)))) (λ_ i=>n-(intOf i).toNat)
 case atStart=>exact⟨0,o_,rfl,by rw[aS1,cq,List.drop_eq_nil_of_le (by simp;omega)];rfl⟩
 case round=>
  obtain⟨k,u,rfl,rfl⟩:=hrel;by_cases m:k<n
  .have c:(k:Int)<(n:Int):=o_;have q:=jY (cq s.data.toList a (a+k)) 3 (by rw[cq];simp;omega);have o:=mX s (a+k) ((a:Int)+(k:Int)) o_ o_;have h:Hid (dC (cq s.data.toList a (a+(k+1)))=256*dC (cq s.data.toList a (a+k))+((s.data.toList.getD (a+k) 0).toNat:Int)):=by show dC _=_;rw[Kd _ _ _ (by rw[g.out];omega),pZ]
   have l:=(s.data.toList.getD (a+k) 0).toNat_lt;generalize s.data.toList.getD (a+k) 0=x at o h l;have A:=h;generalize dC (cq s.data.toList a (a+k))=y at*;have⟨p,d⟩:=q;have j:y<16777216:=(by simpa using d);clear d
   go_wp2
   go_round
   case rel=>exact⟨k+1,o_,by go_num,by rw[h.out]⟩
   case measure=>simp[intOf];omega
  .have f:k=n:=o_;subst f;have c:¬(k:Int)<(k:Int):=o_
   go_wp2
   go_ret
   simp_all
def J8(v)(V n:Nat)(w)(l:n<=8)(q:(V:Int)=v%18446744073709551616):
 Calls lT 29 #[.i v, .i (n:Int)] w λe w'=>e= .returned (.string ⟨(dm V n).toArray⟩)/\Bw w w':=by
 have m:=λw=>run_make_row' (P:=lT) 83 5 (.int .u8 0) 1 lu83 Lf.info5 rfl .i64 .i64 n o_ o_ w
 go_enter lf29,ntmps29
 go_wp2_with fail
 go_loopw [6] (λx h=>∃i,i<=n/\x= .i i/\h=w.alloc (.cells (uC V n i).toArray 5)) (λx _=>n-(intOf x).toNat)
 case atStart=>exact⟨0,o_,rfl,by rw[KZ,eq]⟩
 case round=>
  obtain⟨i,p,rfl,rfl⟩:=hrel;by_cases b:i<n
  .have a:(i:Int)<(n:Int):=o_
   have s:=RR V n i b
   have k:=Iy V n i p
   have t:(0:Int)<=8*((n:Int)- 1-(i:Int)):=o_
   go_wp2_with fail
   go_roundw
   case rel=>exact⟨i+1,o_,by go_num,by rw[RQ V n i b _ (RP v V n i q l)]⟩
   case measure=>simp[intOf];omega
  .have c:i=n:=o_;subst c;have a:¬(i:Int)<(i:Int):=o_;have f:=cO i V;have d:=run_convert_bytes_back (P:=lT) (w.alloc (.cells (aX (dm V i)).toArray 5)) 83 9 5 ⟨w.heap.size,0,none⟩ i (dm V i) lu83 lu5 lu9
    (λj o=>by rw[AS,at5 _ _ _ _ rfl];simp[aX,o])
   rw[f]at d;rw[RS];generalize g:dm V i=L at*;have r:Hid (dm V i=L):=g;clear g f
   go_wp2_with fail
   go_ret
   exact⟨si r.out.symm,(bR).alloc o_ _⟩
def fw(v n:Nat)(w)(a:n<=8)(h:v<9223372036854775808):
 Calls lT 29 #[.i (v:Int), .i (n:Int)] w λe w'=>e= .returned (.string ⟨(dm v n).toArray⟩)/\Bw w w':=J8 v v n w a o_
end L1
namespace L1
open Go.Conc Go.RowKit
def AJ(f:Func):Code:= .seq (.seq (rG f 4) (.cond (.tmp 14) .skip (.exit 2))) (.seq (.block 3 (.seq (rD f 6) (.cond (.tmp 30) .ret .skip))) (rG f 5))
def AB(f:Func):Code:= .seq (rG f 1) (.seq (.cond (.tmp 9) .skip (.exit 0)) (.seq (.block 1 (.seq (rG f 2) (.seq (rG f 3) (.block 2 (.loop (AJ f)))))) (rG f 7)))
def Uk:f129.body=some (.seq (rG f129 0) (.block 0 (.loop (AB f129)))):=k_
def zI(wd k:Nat):Int:=8- wd- k*wd
def Ia{wd}(a:vy wd)(b:k<8/wd):zI wd k=((8- wd- k*wd:Nat):Int):=by unfold zI;rcases a with rfl|rfl|rfl<;>simp at b<;>omega
def QB{wd}(a:vy wd):¬zI wd (8/wd)≥0:=by unfold zI;rcases a with rfl|rfl|rfl<;>decide
def Na(wd k):zI wd k- wd=zI wd (k+1):=by
 unfold zI
 grind
def zH{wd}(a:vy wd)(b:k<=8/wd): -9<=zI wd k/\zI wd k<9:=by unfold zI;rcases a with rfl|rfl|rfl<;>simp at b<;>omega
def I4(b:ByteArray)(i)(h:i<b.size):b[i]=b.data.toList.getD i 0:=by rw[as2,EN (by simpa using h)];rfl
section
variable{Inv:Nat->World->Prop}{r:Loop}{b:ByteArray}{bb bw:Nat}(hw:vy wd)
 (hstr:∀c w,Inv c w->w.heap[bb]?=some (.cells #[.string b] 9)) (hwid:∀c w,Inv c w->w.heap[bw]?=some (.cells #[.int .i64 wd] 3))
 (G:vo (aI true prog) Goal cs (λc=>#[.int .i64 (dP b.data.toList wd c)]) (b.size*(8/wd)) l r Inv)
include hw hstr hwid G
def Tp(j:i<b.size)(r:k<8/wd)(p:Inv (i*(8/wd)+k) w)
 (e:Has [(0, .func (.yield l) #[] #[]),(1, .pt bb),(2, .pt bw),(4, .i i),(5, .i (zI wd k)),(7, .i b.size),(8, .i i)] 32 [] a)
 (next:∀a w,Inv (i*(8/wd)+k+1) w->Has [(30, .bool false),(0, .func (.yield l) #[] #[]),(1, .pt bb),(2, .pt bw),(4, .i i),(5, .i (zI wd k)),(7, .i b.size),(8, .i i)] 32 [] a->Rn lT Goal ((base 129).atR a K) cs w):
 Rn lT Goal ((base 129).atR a (.code (rD f129 6)::K)) cs w:=by
 have x:0<8/wd:=o_
 have D:i*(8/wd)+k<b.size*(8/wd):=by
  have:(i+1)*(8/wd)<=b.size*(8/wd):=Nat.mul_le_mul_right _ j
  grind
 have H:=(b.data.toList.getD i 0).toNat_lt;have C:=zH hw (aE5 r);have n:dP b.data.toList wd (i*(8/wd)+k)=(b.data.toList.getD i 0).toNat/2^(8- wd- k*wd)%2^wd:=by rw[Qc _ hw i k r (by simpa using j)];simp_all
 have B:wd<=8:=by simp_all
 have u:=qQ hw;have F:2^wd<=256:=by rcases hw with rfl|rfl|rfl<;>decide
 have s:dH wd=2^wd- 1:=rfl;have A:(1:Int)*2^wd=((2^wd:Nat):Int):=by simp_all
 have q:((2^wd:Nat):Int)- 1=(dH wd:Int):=o_
 refine Rn.gv 11 e ?_;refine n_ ?_;refine n_ ?_ (y:=λo a w d z=>(aO cC d gx ((aH (hstr _ _ (G.below _ _ _ p z.b)) 0).trans rfl)).1);refine n_ ?_;refine n_ ?_ (y:=λo a w d z=>(C2 d gx gx j).trans (by rw[I4 b i j]));refine n_ ?_ (y:=λo a w d z=>Gz d gx);refine n_ ?_;refine n_ ?_ (v:= .i (((b.data.toList.getD i 0).toNat/2^(8- wd- k*wd):Nat):Int)) (y:=λo a w d z=>(sb d gx (aT3 gx (by rw[(Ia hw r)])) o_).trans (by simp_all));refine n_ ?_ (y:=λo a w d z=>(aO bH d gx ((aH (hwid _ _ (G.below _ _ _ p z.b)) 0).trans rfl)).1);refine n_ ?_ (y:=λo a w d z=>(m8 (m:=1) (k:=wd) d rfl gx o_ (by rw[A];omega)).trans (by rw[A]));refine n_ ?_ (v:= .i (dH wd)) (y:=λo a w d z=>q▸tj d gx rfl o_);refine n_ ?_ (v:= .i (dP b.data.toList wd (i*(8/wd)+k))) (y:=λo a w d z=>(ma d gx gx).trans (by rw[Ie _ wd (Nat.lt_of_le_of_lt (Nat.div_le_self _ _) o_) hw,←n]));refine q_ λa t e E _ g f=>Rn.given (c:=i*(8/wd)+k) G e 29 18 (xs:=#[.tmp 28]) (ats:=#[3]) d_ k_ rfl (by simp[e.G 28]) D (G.below _ _ _ p E) λa t e p=>f _ _ λg f=> ?_;exact Rn.uu e λa e=>f _ _ (next a t p (e.only ⟨rfl,rfl,rfl,rfl,rfl,rfl,rfl,rfl,trivial⟩))
def Fg(q:i<b.size)(next:∀a w,Inv ((i+1)*(8/wd)) w->Has [(0, .func (.yield l) #[] #[]),(1, .pt bb),(2, .pt bw),(7, .i b.size),(8, .i i)] 32 [] a->Rn lT Goal ((base 129).atR a K) cs w):
 ∀j k a w,8/wd- k=j->k<=8/wd->Inv (i*(8/wd)+k) w->
  Has [(0, .func (.yield l) #[] #[]),(1, .pt bb),(2, .pt bw),(4, .i i),(5, .i (zI wd k)),(7, .i b.size),(8, .i i)] 32 [] a->
  Rn lT Goal ((base 129).atR a (.code (AJ f129):: .inLoop (AJ f129):: .inBlock 2::K)) cs w:=by
 intro j;induction j with
 |zero=>
  intro k a w p f e c;have d:k=8/wd:=o_
  subst d
  iterate 2 refine Rn.uu c λa c=> ?_
  refine Rn.p rfl (Rn.cond _ (c.G 14) ?_);rw[decide_eq_false (QB hw)];refine Rn.p rfl (next a w ?_ c.O)
  grind
 |succ j g=>
  intro k a w p f e c;have d:k<8/wd:=o_
  have m:=zH hw f;have h:wd<=8:=by rcases hw with rfl|rfl|rfl<;>decide
  iterate 2 refine Rn.uu c λa c=> ?_
  refine Rn.p rfl (Rn.cond _ (c.G 14) ?_);rw[decide_eq_true (by rw[Ia hw d];omega)];refine Rn.p rfl (Rn.p rfl (Rn.p rfl (Rn.p rfl ?_)));refine Tp hw hstr hwid G q d e c.O λa w e c=>Rn.cond false (c.G 30) (Rn.p rfl (Rn.p rfl (Rn.r rfl ?_)));refine Rn.uu c λa c=> ?_;refine Rn.vv c (λo n=>(aO bH n (c.G 2) ((aH (hwid _ _ e) 0).trans rfl)).1) λa c=> ?_
  iterate 2 refine Rn.uu c λa c=> ?_
  refine Rn.p rfl (Rn.p rfl (g (k+1) a w o_ o_ e (c.only ⟨rfl,rfl,rfl,rfl, ?_,rfl,rfl,trivial⟩)));rw[←Na];rfl
def Ez(hs:b.size<4611686018427387904)(next:∀a w,Inv (b.size*(8/wd)) w->a.defers=[]->Rn lT Goal ((base 129).atR a K) cs w):
 ∀j i a w,b.size- i=j->i<=b.size->Inv (i*(8/wd)) w->
  Has [(0, .func (.yield l) #[] #[]),(1, .pt bb),(2, .pt bw),(7, .i b.size),(8, .i i)] 32 [] a->
  Rn lT Goal ((base 129).atR a (.code (AB f129):: .inLoop (AB f129):: .inBlock 0::K)) cs w:=by
 intro j;induction j with
 |zero=>
  intro i a w k m e c;have d:i=b.size:=o_
  subst d;refine Rn.uu c λa c=> ?_;refine Rn.p rfl (Rn.p rfl (Rn.cond _ (c.G 9) ?_));rw[decide_eq_false o_];exact Rn.p rfl (next a w e c.defers)
 |succ j f=>
  intro i a w k m e c;have d:i<b.size:=o_
  have g:wd<=8:=by rcases hw with rfl|rfl|rfl<;>decide
  refine Rn.uu c λa c=> ?_;refine Rn.p rfl (Rn.p rfl (Rn.cond _ (c.G 9) ?_));rw[decide_eq_true o_]
  iterate 2 refine Rn.uu c λa c=> ?_
  refine Rn.vv c (λo h=>(aO bH h (c.G 2) ((aH (hwid _ _ e) 0).trans rfl)).1) λa c=> ?_
  iterate 2 refine Rn.uu c λa c=> ?_
  refine Rn.p rfl (Rn.p rfl (Rn.p rfl ?_));refine Fg hw hstr hwid G d (λa w e c=> ?_) (8/wd) 0 a w rfl s_ e (c.only ⟨rfl,rfl,rfl,rfl, ?_,rfl,rfl,trivial⟩)
  .iterate 2 refine Rn.uu c λa c=> ?_
   refine Rn.p rfl (Rn.p rfl (f (i+1) a w o_ o_ e (c.only ⟨rfl,rfl,rfl,rfl, ?_,trivial⟩)));simp_all
  .unfold zI;simp
end
def uY{j}{d}{r}{b}{m k}(n:vy wd)(p:b.size<4611686018427387904)
 (e:∀c w,d c w->w.heap[m]?=some (.cells #[.s b] 9)) (g:∀c w,d c w->w.heap[k]?=some (.cells #[.i wd] 3))
 (G:vo lT Goal (j::cs) (λc=>#[.i (dP b.data.toList wd c)]) (b.size*(8/wd)) l r d)  (i:d 0 w)
 (h:∀w,d (b.size*(8/wd)) w->Rn lT Goal (j.finish (.tuple #[])) cs w):
 Rn lT Goal (as7 lT 129 #[.func (.yield l) #[] #[], .pk m 0, .pk k 0] .normal) (j::cs) w:=by refine Rn.ent lf129 Uk λa f=> ?_;refine Rn.vv f (λo q=>(aO cC q (f.G 1) ((aH (e _ _ i) 0).trans rfl)).1) λa f=> ?_;refine Rn.uu f λa f=> ?_;refine Rn.mvc f 8 (.i 0) d_ k_ λa f=> ?_;refine Rn.p rfl (Rn.p rfl (Rn.p rfl ?_));refine Ez n e g G p (λa w i s=> ?_) b.size 0 a w rfl o_ (by simp_all) f.O;exact Rn.ends rfl s_ (Rn.leave (.tuple #[]) rfl s lf129 (results_none rfl _ _ w) (events_results_none rfl _ _) (h w i))
end L1
section
open Go.Conc Go.RowKit
section
variable{base:Nat}{e:TypeId}{size:Nat}{xs:List Value}
def nY(h:w.ownsRow base e size v n xs){o}(f:w.heap[b]?=some o)(c:∀a,o≠ .cells a e (0,0)):some b≠v.ownBlock:=λq=>by
 obtain⟨rfl,_⟩|⟨g,d,a,rfl,_,i,_⟩:=h.2
 .cases q
 .cases q
  grind
def jC(h:w.ownsRow base e size v n xs)(c:∀g,v.ownBlock=some g->w'.heap[g]?=w.heap[g]?):w'.ownsRow base e size v n xs:=by
 refine⟨h.1, ?_⟩;obtain h|⟨g,b,a,rfl,i,d,f⟩:=h.2
 .grind
 .exact .inr ⟨g,b,a,rfl,i,(c g rfl).trans d,f⟩
def uR{w0}{row}(h:Below N w0 w)(a:w.grownBy w' row)(b:∀k,row=some k->N<=k)(d:N<=w.heap.size):Below N w0 w':=
 ⟨a.os.trans h.os,a.tape.trans h.tape,a.output.trans h.output,as8 h.size a.size,λk c=>(a.block k o_ (λq=>by grind)).trans (h.block k c)⟩
end
structure Ap (ti ts:TypeId) (D:Nat->Value) (b2 l ld:Nat) (r:Loop) (w0:World) (c:Nat) (w:World):Prop where
 old:Bw w0 w
 row:∃v,w.heap[b2]?=some (.cells #[v] ts)/\w.ownsRow w0.heap.size ti 1 v c ((ar7 c).map D)
 loop:w.heap[l]?=some (.loop r)
 list:w.heap[ld]?=some (.deferred (some []))
def Ap.below{e d}{D}{j ld}{r}{w0}{c}(h:Ap e d D j l ld r w0 c w)(a:Bw w w'):Ap e d D j l ld r w0 c w':=by have g:∀{b:Nat} {o:Obj},w.heap[b]?=some o->w'.heap[b]?=some o:=λ{b o} f=>(a.block b (gA f).1).trans f;have⟨v,n,i⟩:=h.row;exact⟨aD h.old h.old.size a,⟨v,g n,jC i λk m=>a.block k (i.lt k m).2⟩,g h.loop,g h.list⟩
end
namespace L1
open Go.Conc Go.RowKit
def Do(f:Func)(T:Array Value)(ld:Nat)(st:LoopState):Loop:={state:=st,pending:=none,fn:=130,tmps:=T,params:=#[7],assign:= .region 2 (bP f 2) false,body:= .block 1 (rG f 3),defers:=ld}
def Ui:f130.body=some (.seq (rG f130 0) (.seq (.seq (rG f130 1) (.block 0 (.rangeFunc (.tmp 6) #[7] (rG f130 2) (.block 1 (rG f130 3)))))
 (.seq (rG f130 4) .ret))):=rfl
def CM:∃i,lT.info? 3=some i/\i.zero=some (.i 0)/\i.size=1/\i.bytes=8:=by have h:(lT.info? 3).map (λi=>(i.zero,i.size,i.bytes))=some (some (.i 0),1,8):=rfl;simp_all
def Lo{ev}{i}(a:o.op= .buildSlice 24 1 #[(0,x)])(b:ev x= .i i):
 (execOp ev o).run lT w= .ok (.value (.sk w.heap.size 1 1)) (w.alloc (.cells #[.i i] 3)):=by simp[execOp,a,b];kernel_rfl
section
variable{T:Array Value}{b2 ld:Nat}{d:Nat->Int}
def Oj(hT:Has [(2, .pt b2)] 13 [] ⟨T,[]⟩)(hb2:w0.heap.size<=b2)(hl:w0.heap.size<=l){c}(hc:c<1000000){cf}(hI:Ap 3 24 (λi=> .i (d i)) b2 l ld (Do f130 T ld .ready) w0 c w)
 (next:∀w',Ap 3 24 (λi=> .i (d i)) b2 l ld (Do f130 T ld .ready) w0 (c+1) w'->Rn lT Goal (cf.finish (.bool true)) cs w'):
 Rn lT Goal (YU l 130 (((#[7]:Array Tmp).zip #[.i (d c)]).foldl (λtmps (t,a)=>tmps.setIfInBounds t a) T) (rG f130 2) (.block 1 (rG f130 3)) .normal) (cf::cs) w:=by
 have hF:=hT.put (d:=7) d_ (.i (d c));have ez:((#[7]:Array Tmp).zip #[.i (d c)]).foldl (λ tmps x=>match x with|(t,a)=>tmps.setIfInBounds t a) T=T.setIfInBounds 7 (.i (d c)):=s_
 rw[ez];show Rn _ Goal ((rb 130 l).atR (ZM ⟨T,[]⟩ (some 7) (.i (d c))) [.code (rG f130 2), .beginRound, .code (.block 1 (rG f130 3))]) (cf::cs) w;revert hF;generalize ZM ⟨T,[]⟩ (some 7) (.i (d c))=a;intro hF;refine Rn.r rfl (Rn.S hF 5 7 rfl λa hF=> ?_);refine Rn.p rfl (Rn.rounds rfl hI.loop rfl ?_);have⟨v,hv,hown⟩:=hI.row;have n2l:b2≠l:=λe=>by subst e;rw[hI.loop]at hv;cases hv
 have ndl:ld≠l:=λe=>by subst e;have:=hI.list;rw[hI.loop]at this;cases this
 have n2d:ld≠b2:=λe=>by subst e;have:=hI.list;simp_all
 have hv1:(bU w l (Do f130 T ld .busy)).heap[b2]?=some (.cells #[v] 24):=(bD w _ n2l).trans hv;have hl1:(bU w l (Do f130 T ld .busy)).heap[l]?=some (.loop (Do f130 T ld .busy)):=iA hI.loop;have hd1:(bU w l (Do f130 T ld .busy)).heap[ld]?=some (.deferred (some [])):=(bD w _ ndl).trans hI.list;have hown1:(bU w l (Do f130 T ld .busy)).ownsRow w0.heap.size 3 1 v c ((ar7 c).map λi=> .i (d i)):=jC hown λg hg=>bD w _ λe=>nY hown hI.loop (by simp_all) (by simp_all);have hold1:Bw w0 (bU w l (Do f130 T ld .busy)):=hI.old.trans (fa w l _ hl);show Rn _ Goal _ _ (bU w l (Do f130 T ld .busy));revert hv1 hl1 hd1 hown1 hold1;generalize bU w l (Do f130 T ld .busy)=w1;intro hv1 hl1 hd1 hown1 hold1
 iterate 2 refine Rn.uu hF λa hF=> ?_
 refine Rn.vv hF (λo ho=>Lo ho (hF.G 9)) λa hF=> ?_;have hb2':=aR w1 (.cells #[.i (d c)] 3);have g:∀{b:Nat} {o:Obj},w1.heap[b]?=some o->(w1.alloc (.cells #[.i (d c)] 3)).heap[b]?=some o:=λ{b o} ho=>(hb2'.block b (gA ho).1).trans ho;have hv2:=g hv1;have hl2:=g hl1;have hd2:=g hd1;have hown2:=jC hown1 λk hk=>hb2'.block k (hown1.lt k hk).2;have hold2:=aD hold1 hold1.size hb2';have hnew:=aY w1 (.cells #[.i (d c)] 3);have⟨ti,hti,hz,hsz,hby⟩:=CM;have happ:=λty=>run_append_own (w1.alloc (.cells #[.i (d c)] 3)) w0.heap.size 24 ty 3 ti (.i 0) 1 8 k_ hti hz hsz hby rfl d_ v c _ hown2 ⟨w1.heap.size,0,none⟩ 1 1 [.i (d c)] rfl
  (λj u hj=>by have hj0:j=0:=(by grind);subst hj0;cases hj;rw[rC,aH hnew];rfl) (λu hu=>by simp at hu;subst hu;rfl) (by simp only[maxLen];omega) o_ hold2.size
 cases ho:(bP f130 3)[3]? with
 |none=>exact absurd ho (by simp;decide)
 |some o=>
 have⟨e1,e2,e3⟩:=cL (d:=some 11) (p:= .call {callee:= .builtin .append,args:=#[.tmp 8, .tmp 10],argTypes:=#[24,24]}) ho k_;have⟨v',w3,hrun,hown3,hgr,_⟩:=happ o.type;have hr:(execOp a.eval o).run lT (w1.alloc (.cells #[.i (d c)] 3))= .ok (.value v') w3:=by simp[execOp,e2,resolve,(hF.G 8),(hF.G 10),invoke,builtin,hrun]
 refine Rn.ran ho (e3 _) (by rw[e2];simp) hr ?_;rw[e1];have hF:=hF.put (d:=11) d_ v';revert hF;generalize a.put (some 11) v'=a;intro hF;have q2:=nY hown2 hv2 (by simp_all);have ql:=nY hown2 hl2 (by simp_all);have qd:=nY hown2 hd2 (by simp_all);have hv3:=(hgr.block b2 (gA hv2).1 q2).trans hv2;have hl3:=(hgr.block l (gA hl2).1 ql).trans hl2;have hd3:=(hgr.block ld (gA hd2).1 qd).trans hd2;have hold3:Bw w0 w3:=uR hold2 hgr (λk hk=>(hown2.lt k hk).1) hold2.size;clear hrun happ hr hgr q2 ql qd hnew e1 e2 e3 ho;have hcells:v'.cells=#[v']/\v'.oneCell'=true:=by rcases hown3.2 with⟨rfl,_⟩|⟨g,cap,cur,rfl,_⟩<;>exact⟨rfl,rfl⟩
 refine Rn.nn hF (λo ho=>(ff (w:=w3) (b:=b2) (k:=0) (v:=v') (v0:=v) hcells.1 hcells.2 k_ ho (hF.G 2) (hF.G 11) ((aH hv3 0).trans rfl) (by simp[If,hv3])).1) λa hF=> ?_;refine Rn.p rfl (Rn.p rfl ?_);have hl4:(w3.setCell ⟨b2,0,none⟩ v').heap[l]?=some (.loop (Do f130 T ld .busy)):=(cP w3 _ (ZL n2l)).trans hl3;refine Rn.through rfl rfl hl4 (next _ ⟨?_,⟨v',(bD _ _ n2l).trans (kJ hv3), ?_⟩,iA hl4,(bD _ _ ndl).trans ((cP w3 _ n2d).trans hd3)⟩)
 .exact(hold3.trans (eJ _ _ _ hb2)).trans (fa _ _ _ hl)
 .rw[av2,Q4];refine jC hown3 λk hk=> ?_;have k1:k≠l:=λe=>nY hown3 hl3 (by simp_all) (by simp_all);have k2:k≠b2:=λe=>nY hown3 hv3 (by simp_all) (by simp_all);exact(bD _ _ k1).trans (cP w3 _ k2)
end
def nh(b:ByteArray)(wd n:Nat):List Value:=(ar7 n).map λi=> .int .i64 (dP b.data.toList wd i)
def Og(b)(wd E D)(w)(K:vy wd)(S:b.size<=1000)(n:w.heap[E]?=some (.cells #[.s b] 9))(m:w.heap[D]?=some (.cells #[.i wd] 3)):
 Calls lT 130 #[.slice none 0 0, .func (.func 129) #[] #[.pk E 0, .pk D 0]] w λe w'=>∃v,e= .returned v/\w'.ownsRow w.heap.size 3 1 v (b.size*(8/wd)) (nh b wd (b.size*(8/wd)))/\Bw w w':=by
 refine eK lf130 Ui λO a r=> ?_;refine Rn.gr ?_;refine Rn.z r 2 0 24 rfl λa r=> ?_;show Rn _ _ _ _ (w.alloc (.cells #[.slice none 0 0] 24))
 iterate 2 refine Rn.uu r λa r=> ?_
 have s:=aJ w (.cells #[.slice none 0 0] 24);have j:=aR w (.cells #[.slice none 0 0] 24);have z:=aY w (.cells #[.slice none 0 0] 24);have u:=(j.block E (gA n).1).trans n;have t:=(j.block D (gA m).1).trans m;revert s j z u t;generalize w.alloc (.cells #[.slice none 0 0] 24)=f;intro s j z u t;refine Rn.p rfl (Rn.p rfl ?_);refine Rn.rangeAs (Do f130 a.tmps f.heap.size .ready) (args:=#[.func (.yield (f.heap.size+1)) #[] #[], .pk E 0, .pk D 0]) rfl rfl lf129 k_ k_ (r.G 6) s_ ?_;have A:8/wd<=4:=by rcases K with rfl|rfl|rfl<;>decide
 have W:b.size*(8/wd)<=4000:=as8 (aG3 S A) d_;have M:Has [(2, .pt w.heap.size)] 13 [] ⟨a.tmps,[]⟩:=⟨rfl,r.size,(r.only (G:=[(2, .pt w.heap.size)]) ⟨rfl,trivial⟩).slot⟩;have G:∀y,vo lT y (((base 130).atR ⟨a.tmps,{target:= .collected f.heap.size,args:=#[]}::a.defers⟩ (.inRangeFunc (f.heap.size+1)::[.inBlock 0, .code (.seq (rG f130 4) .ret)]))::O) (λc=>#[.i (dP b.data.toList wd c)]) (b.size*(8/wd)) (f.heap.size+1) (Do f130 a.tmps f.heap.size .ready)
  (Ap 3 24 (λi=> .i (dP b.data.toList wd i:Nat)) w.heap.size (f.heap.size+1) f.heap.size (Do f130 a.tmps f.heap.size .ready) w):=
  λy=>
  {below:=λc w w' h U=>h.below U
   loop:=λc w h=>h.loop
   size:=λc=>rfl
   round:=λc w' Y X x next=>Oj (d:=λc=>(dP b.data.toList wd c:Nat)) M o_ o_ o_ x next}
 refine uY K o_ (λc w' h=>(h.old.block E ((gA n).1)).trans n) (λc w' h=>(h.old.block D ((gA m).1)).trans m) (G _) ⟨aD j o_ (m5 f _),⟨.slice none 0 0,(bK f _ o_).trans z,World.ownsRow_nil ..⟩,fI f _,fJ f _⟩ λF x=> ?_;show Rn _ _ ((base 130).atR ⟨a.tmps,{target:= .collected f.heap.size,args:=#[]}::a.defers⟩ (.endRangeFunc (f.heap.size+1)::_)) O F;refine Rn.rangeOver x.loop rfl rfl ?_;have⟨v,R,g⟩:=x.row;have p:Has [(2, .pt w.heap.size)] 13 [{target:= .collected f.heap.size,args:=#[]}] ⟨a.tmps,{target:= .collected f.heap.size,args:=#[]}::a.defers⟩:=⟨by rw[r.defers],r.size,M.slot⟩;revert p;generalize (Act.mk a.tmps ({target:= .collected f.heap.size,args:=#[]}::a.defers))=a2;intro p;have I:=(bD F (l:=f.heap.size+1) {Do f130 a.tmps f.heap.size .ready with state:= .exhausted} o_).trans x.list;have H:=(bD F (l:=f.heap.size+1) {Do f130 a.tmps f.heap.size .ready with state:= .exhausted} o_).trans R;refine Rn.gr ?_;refine Rn.O p 12 (.load 24 (.tmp 2)) (λo T=>(aO sB T (p.G 2) ((aH H 0).trans rfl)).1) λZ p=> ?_;refine Rn.S p 4 12 rfl λV p=> ?_;refine Rn.p rfl (Rn.ends rfl s_ (Rn.take p.defers I (Rn.now ⟨⟨V.tmps,[]⟩,_,v,rfl,rfl,p.slot 4 _ rfl,v,rfl, ?_, ?_⟩)))
 .refine jC g λk L=> ?_;have Q:k≠f.heap.size+1:=λe=>nY g x.loop (by simp_all) (by simp_all);have P:k≠f.heap.size:=λe=>nY g x.list (by simp_all) (by simp_all);show(Array.setIfInBounds ..)[k]?=_;rw[sN o_];exact bD _ _ Q
 .exact(x.old.trans (fa _ _ _ o_)).trans (gJ _ _ o_)
def Up:f109.body=some (.seq (rG f109 0) (.seq (rG f109 1) .ret)):=rfl
def Db(b)(wd g d)(w)(j:vy wd)(l:b.size<=1000)(i:w.heap[g]?=some (.cells #[.s b] 9))(h:w.heap[d]?=some (.cells #[.i wd] 3)):
 Calls lT 109 #[.func (.func 129) #[] #[.pk g 0, .pk d 0]] w λe w'=>∃v,e= .returned v/\w'.ownsRow w.heap.size 3 1 v (b.size*(8/wd)) (nh b wd (b.size*(8/wd)))/\Bw w w':=by
 refine eK lf109 Up λm a c=> ?_
 iterate 2 refine Rn.uu c λa c=> ?_
 refine Rn.calls (xs:=#[.const (.slice none 0 0), .tmp 3]) (ats:=#[24,158]) c 4 d_ k_ (by simp[c.G 3];rfl) lf130 k_ k_
  (Og b wd g d w j l i h) λv w' k a c=> ?_
 refine Rn.uu c λa c=> ?_;exact Rn.fi c ⟨v,rfl,k⟩
def Uq:f107.body=some (.seq (rG f107 0) (.seq (rG f107 1) .ret)):=k_
def xr(b)(wd:Nat)(w):
 Calls lT 107 #[.s b, .i wd] w λe w'=>e= .returned (.func (.func 129) #[] #[.pk w.heap.size 0, .pk (w.heap.size+1) 0])/\w'=(w.alloc (.cells #[.s b] 9)).alloc (.cells #[.i wd] 3):=by
 refine eK lf107 Uq λf a c=> ?_;refine Rn.gr ?_;refine Rn.z c 2 0 9 rfl λa c=> ?_;show Rn _ _ _ _ (w.alloc (.cells #[.s b] 9));refine Rn.z c 3 1 3 rfl λa c=> ?_;rw[aJ]at c;show Rn _ _ _ _ ((w.alloc (.cells #[.s b] 9)).alloc (.cells #[.i wd] 3));refine Rn.uu c λa c=> ?_;refine Rn.gr ?_;refine Rn.O c 5 (.makeFunc (.func 129) #[] #[.tmp 2, .tmp 3]) (v:= .func (.func 129) #[] #[.pk w.heap.size 0, .pk (w.heap.size+1) 0]) (w':=(w.alloc (.cells #[.s b] 9)).alloc (.cells #[.i wd] 3)) (λo d=> ?_) λa c=> ?_
 .rw[((gw lT (w:=(w.alloc (.cells #[.s b] 9)).alloc (.cells #[.i wd] 3)) (ev:=a.eval) d).1)];simp[c.G 2,c.G 3]
 refine Rn.uu c λa c=> ?_;exact Rn.fi c ⟨rfl,rfl⟩
end L1
section
open Go.Conc Go.RowKit
structure Sm (ts tk ti:TypeId) (Q:ByteArray) (wd:Nat) (key:Array Value) (r:Loop) (w0:World) (S:Nat) (w:World):Prop where
 old:Bw w0 w
 key:w.heap[w0.heap.size]?=some (.cells key tk)
 five:w.heap[w0.heap.size+1]?=some (.cells #[.int .i64 S] ti)
 str:w.heap[w0.heap.size+2]?=some (.cells #[.string Q] ts)
 wid:w.heap[w0.heap.size+3]?=some (.cells #[.int .i64 wd] ti)
 list:w.heap[w0.heap.size+4]?=some (.deferred (some []))
 loop:w.heap[w0.heap.size+5]?=some (.loop r)
section
variable{ts tk ti:TypeId}{Q:ByteArray}{key:Array Value}{r:Loop}{S:Nat}
def Sm.below(h:Sm ts tk ti Q wd key r w0 S w)(c:Bw w w'):Sm ts tk ti Q wd key r w0 S w':=by have g:∀{b:Nat} {o:Obj},w.heap[b]?=some o->w'.heap[b]?=some o:=λ{b o} a=>(c.block b (gA a).1).trans a;exact⟨aD h.old h.old.size c,g h.key,g h.five,g h.str,g h.wid,g h.list,g h.loop⟩
def Sm.turn(h:Sm ts tk ti Q wd key r w0 S w)(a):Sm ts tk ti Q wd key a w0 S (bU w (w0.heap.size+5) a):=
 ⟨h.old.trans (fa w _ _ o_),(bD w _ o_).trans h.key,(bD w _ o_).trans h.five,(bD w _ o_).trans h.str,(bD w _ o_).trans h.wid,(bD w _ o_).trans h.list,iA h.loop⟩
def Sm.put(h:Sm ts tk ti Q wd key r w0 S w)(a):Sm ts tk ti Q wd key r w0 a (w.setCell ⟨w0.heap.size+1,0,none⟩ (.i a)):=
 ⟨h.old.trans (eJ w _ _ (by simp_all)),(cP w _ (by simp_all)).trans h.key,kJ h.five,(cP w _ (by simp_all)).trans h.str,(cP w _ (by simp_all)).trans h.wid,(cP w _ (by simp_all)).trans h.list,(cP w _ (by simp_all)).trans h.loop⟩
end
end
namespace L1
open Go.Conc Go.RowKit
def Bq(f:Func)(T:Array Value)(ld:Nat)(st:LoopState):Loop:={state:=st,pending:=none,fn:=90,tmps:=T,params:=#[12],assign:= .region 3 (bP f 3) false,body:= .block 1 (rD f 4),defers:=ld}
def Uu:f90.body=some (.seq (rG f90 0) (.seq (rG f90 1) (.seq (.seq (rG f90 2) (.block 0 (.rangeFunc (.tmp 11) #[12] (rG f90 3) (.block 1 (rD f90 4)))))
 (.seq (rG f90 5) (.seq (rD f90 6) .ret))))):=k_
section
variable{y:Operand}
def fv(j)(f:j<8)(a:o.op= .fieldAddr 115 x j)(c:ev x= .pk b 0):(execOp ev o).run lT w= .ok (.value (.pk b j)) w:=by simp[execOp,a,c];rcases(o_:j=0\/j=1\/j=2\/j=3\/j=4\/j=5\/j=6\/j=7)with rfl|rfl|rfl|rfl|rfl|rfl|rfl|rfl<;>kernel_rfl
def Lu{g}{len cap}(a:o.op= .slice 24 x none (some y) none)(d:ev x= .slice (some g) len cap)(c:ev y= .i n)(h:n<=cap):(execOp ev o).run lT w= .ok (.value (.slice (some g) n cap)) w:=by
 have e:lT.underlying 24=some (.slice 3):=k_
 have b:∀w,(sizeOf 3).run lT w= .ok 1 w:=s_;simp[execOp,a,d,c,Mv,YT,Ng,s_,Tv,asIntOf,h,b,go_sem]
end
section
variable{T:Array Value}{s:dQ}{Q:ByteArray}
def On(j:vy wd)(i:s.width=wd)(A:Has [(2, .pt w0.heap.size),(5, .pt (w0.heap.size+1))] 34 [] ⟨T,[]⟩){c}(D:c<1000000){n}
 (h:Sm 9 115 3 Q wd s.key (Bq f90 T (w0.heap.size+4) .ready) w0 (fD Q.data.toList wd c) w)
 (next:∀w',Sm 9 115 3 Q wd s.key (Bq f90 T (w0.heap.size+4) .ready) w0 (fD Q.data.toList wd (c+1)) w'->Rn lT Goal (n.finish (.bool true)) cs w'):
 Rn lT Goal (YU (w0.heap.size+5) 90 (((#[12]:Array Tmp).zip #[.i (dP Q.data.toList wd c)]).foldl (λtmps (t,a)=>tmps.setIfInBounds t a) T) (rG f90 3) (.block 1 (rD f90 4)) .normal) (n::cs) w:=by
 have f:=A.put (d:=12) d_ (.i (dP Q.data.toList wd c));have B:((#[12]:Array Tmp).zip #[.i (dP Q.data.toList wd c)]).foldl (λ tmps x=>match x with|(t,a)=>tmps.setIfInBounds t a) T=T.setIfInBounds 12 (.i (dP Q.data.toList wd c)):=s_
 rw[B];show Rn _ Goal ((rb 90 (w0.heap.size+5)).atR (ZM ⟨T,[]⟩ (some 12) (.i (dP Q.data.toList wd c))) [.code (rG f90 3), .beginRound, .code (.block 1 (rD f90 4))]) (n::cs) w;revert f;generalize ZM ⟨T,[]⟩ (some 12) (.i (dP Q.data.toList wd c))=a;intro f;refine Rn.r rfl (Rn.S f 6 12 rfl λa f=> ?_);refine Rn.p rfl (Rn.rounds rfl h.loop rfl ?_);have e:=h.turn (Bq f90 T (w0.heap.size+4) .busy);show Rn _ Goal _ _ (bU w (w0.heap.size+5) (Bq f90 T (w0.heap.size+4) .busy));revert e;generalize bU w (w0.heap.size+5) (Bq f90 T (w0.heap.size+4) .busy)=C;intro e;have E:=rO Q.data.toList j c;have q:=qQ j;have f:Has [(2, .pt w0.heap.size),(5, .pt (w0.heap.size+1)),(6, .i (dP Q.data.toList wd c))] 34 [] a:=f.O;refine Rn.p rfl ?_;refine Rn.gu 6 f ?_;refine n_ ?_ (y:=λo a w g z=>(aO bH g gx ((aH (e.below z.b).five 0).trans rfl)).1);refine n_ ?_ (y:=λo a w g z=>j7 (s:=s) g gx (e.below z.b).key s_);refine p_ lf108 (λw _ _=>Gj s wd i (by rcases j with rfl|rfl|rfl<;>decide) w) ?_;refine n_ ?_;refine n_ ?_ (y:=λo a w g z=>u9 g gx gx (sP Q.data.toList wd c) o_);refine n_ ?_;refine q_ λa w' f u _ p l=> ?_;have h:=e.below u;refine Rn.nn f (λo g=>(ff rfl rfl k_ g (f.G 5) (f.G 18) ((aH h.five 0).trans rfl) (by simp[If,h.five])).1) λa _=>l _ _ ?_;have h:=h.put (fD Q.data.toList wd (c+1));exact Rn.p rfl (Rn.through rfl rfl h.loop (next _ (h.turn _)))
end
def lE(n:Nat)(d:Nat->Nat)(v:Value)(w:World):Prop:=∃gb cap,v= .sk gb n cap/\gb<w.heap.size/\∀c,c<n->w.cell? ⟨gb,c,none⟩=some (.int .i64 (d c))
def lE.mono{d}(h:lE n d v w)(f:Bw w w'):lE n d v w':=by obtain⟨b,e,rfl,a,h⟩:=h;refine⟨b,e,rfl,ar4 a f.size,λc g=> ?_⟩;rw[←h c g];unfold AT;rw[f.block b a]
section
variable{s:dQ}{al:ByteArray}
def Tq(G:vy wd)(r:s.width=wd)(L:s.count=n)(t:al.size<=1000)(J:1<=n)(I:n<=al.size*(8/wd))(b:w.heap[N]?=some (.cells s.key 115))
 (A:Has [(2, .pt N),(7, .s al)] 34 ds a)
 (next:∀a w' v,lE n (λc=>dP al.data.toList wd c) v w'->Bw w w'->Has [(4,v)] 34 ds a->Rn lT Goal ((base 90).atR a K) cs w'):
 Rn lT Goal ((base 90).atR a (.code (rD f90 6)::K)) cs w:=by
 refine Rn.gt A ?_
 iterate 2 refine n_ ?_
 refine n_ ?_ (v:= .i wd) (y:=λo a w i z=>(aO bH i gx ((aH (bk z.b b) 5).trans (by rw[←r];rfl))).1);refine t_ [.inr λv w=>∃p,v= .func (.func 129) #[] #[.pk p 0, .pk (p+1) 0]/\w.heap[p]?=some (.cells #[.s al] 9)/\w.heap[p+1]?=some (.cells #[.i wd] 3), .inr λv w=>∃B,w.ownsRow B 3 1 v (al.size*(8/wd)) (nh al wd (al.size*(8/wd))), .inl (.pk N 6), .inl (.i n), .inr (lE n λc=>dP al.data.toList wd c), .inr (lE n λc=>dP al.data.toList wd c)] ?_;refine b_ (λ_ _ _ ⟨p,d,m,C⟩ j=>⟨p,d,bk j m,bk j C⟩) lf107 (λw' _ _=>(xr al wd w').mono λe q h=>⟨_,h.1,⟨w'.heap.size,rfl, ?_, ?_⟩, ?_⟩) λu=> ?_
 .rw[h.2];exact(cV _ _ (by simp_all)).trans (aY w' _)
 .have:=aY (w'.alloc (.cells #[.s al] 9)) (.cells #[.i wd] 3);simp_all
 .rw[h.2];exact aD (aR w' _) (by simp_all) (aR _ _)
 refine b_ (λ_ _ _ ⟨B,h⟩ j=>⟨B,jC h λk O=>j.block k (h.lt k O).2⟩) lf109 (λw' _ x=> ?_) λu=> ?_
 .obtain⟨p,rfl,d,m⟩:=x.1 k_;exact(Db al wd p (p+1) w' G t d m).mono λe q ⟨v,d,m,C⟩=>⟨v,d,⟨_,m⟩,C⟩
 refine x_ ?_;refine x_ ?_ (y:=λo a w i z=>(aO bH i gx ((aH (bk z.b b) 6).trans (by rw[←L];rfl))).1);refine z_ (λ_ _ _=>lE.mono) (λv=> ?_) (y:=λo a w i z=> ?_)
 rotate_left
 .have⟨B,l⟩:=z.m.1 k_;obtain⟨_,R⟩|⟨g,E,D,rfl,_,F,H,_,P,f⟩:=l.2
  .omega
  refine⟨_,w,Lu i gx gx o_,⟨g,E,rfl,(gA F).1,λc Q=> ?_⟩,bR⟩;rw[aH F];have M:c<al.size*(8/wd):=o_
  have d:(D.toList.take (al.size*(8/wd)*1))[c]?=(nh al wd (al.size*(8/wd)))[c]?:=by rw[f]
  rw[List.getElem?_take_of_lt o_]at d;rw[←Array.getElem?_toList,d];simp[nh,M]
 exact z_ (λ_ _ _=>lE.mono) (λv=>y_ λa w' A j x=>next a w' v (x.1 rfl) j (A.only ⟨rfl,trivial⟩)) (y:=λo a w i z=>⟨v,w,XE i gx,z.m.1 k_,bR⟩)
end
def AW(s:dQ)(wd sh n:Nat)(Q:ByteArray)(w:World)(J:vy wd)(C:s.width=wd)(Z:s.shift=sh)(K:sh<=8)(hn:s.count=n)(a3:1<=n)(a1:n<=34*(8/wd))(T:Q.size=32):
 Calls lT 90 #[.agg s.key, .s Q] w λe w'=>∃v,e= .returned v/\lE n (λc=>dP (ll Q.data.toList wd sh) wd c) v w'/\Bw w w':=by
 refine eK (N:=34) lf90 Uu λcs a f=> ?_;have S:Q.size*(8/wd)=256/wd:=by rw[T];rcases J with rfl|rfl|rfl<;>decide
 refine Rn.gr ?_;refine Rn.z f 2 0 115 rfl λa f=> ?_;show Rn _ _ _ _ (w.alloc (.cells s.key 115));refine Rn.uu f λa f=> ?_;refine Rn.vv f (λo j=>(jZ j).1) λa f=> ?_;rw[aJ]at f;have H:=aY (w.alloc (.cells s.key 115)) (.cells #[.i 0] 3);rw[aJ]at H;have V:=(cV (w.alloc (.cells s.key 115)) (.cells #[.i 0] 3) (b:=w.heap.size) (by simp_all)).trans (aY w _);have y:Bw w ((w.alloc (.cells s.key 115)).alloc (.cells #[.i 0] 3)):=aD (aR w _) (by simp_all) (aR _ _);have u:((w.alloc (.cells s.key 115)).alloc (.cells #[.i 0] 3)).heap.size=w.heap.size+2:=by simp_all
 revert H V y u;generalize (w.alloc (.cells s.key 115)).alloc (.cells #[.i 0] 3)=I;intro H V y u;refine Rn.nn f (λo j=>(ff (w:=I) (b:=w.heap.size+1) (k:=0) (v:= .i 0) (v0:= .i 0) rfl rfl k_ j (f.G 5) rfl ((aH H 0).trans rfl) (by simp[If,H])).1) λa f=> ?_;have z:=kJ (v:= .i 0) H;have t:=(cP I (a:=⟨w.heap.size+1,0,none⟩) (b:=w.heap.size) (.i 0) (by simp_all)).trans V;have l:Bw w (I.setCell ⟨w.heap.size+1,0,none⟩ (.i 0)):=y.trans (eJ I _ _ (by simp_all));have i:(I.setCell ⟨w.heap.size+1,0,none⟩ (.i 0)).heap.size=w.heap.size+2:=by simp_all
 revert z t l i;generalize I.setCell ⟨w.heap.size+1,0,none⟩ (.i 0)=B;intro z t l i;refine Rn.gr ?_;refine Rn.y f 8 1 rfl λa f=> ?_;refine Rn.vv f (λo j=>fv 5 d_ j (f.G 2)) λa f=> ?_;refine Rn.vv f (λo j=>(aO (v:= .i wd) bH j (f.G 9) ((aH t 5).trans (by rw[←C];rfl))).1) λa f=> ?_;refine Rn.cw f lf107 ((xr Q wd B)) λg m a f=> ?_;rw[i]at f;have x:Bw B g:=by rw[m];exact aD (aR B _) (by simp_all) (aR _ _)
 have L:g.heap.size=w.heap.size+4:=by simp_all
 have k2:g.heap[w.heap.size+2]?=some (.cells #[.s Q] 9):=by rw[m,←i];exact(cV _ _ (by simp_all)).trans (aY B _)
 have k3:g.heap[w.heap.size+3]?=some (.cells #[.i wd] 3):=by rw[m,show w.heap.size+3=B.heap.size+1 from o_];have:=aY (B.alloc (.cells #[.s Q] 9)) (.cells #[.i wd] 3);simp_all
 have k0:=(x.block _ o_).trans t;have k1:=(x.block _ o_).trans z;have D:Bw w g:=aD l o_ x;clear m z t l x H V y u;refine Rn.p rfl (Rn.p rfl ?_);refine Rn.rangeAs (Bq f90 a.tmps g.heap.size .ready) (args:=#[.func (.yield (g.heap.size+1)) #[] #[], .pk (w.heap.size+2) 0, .pk (w.heap.size+2+1) 0]) rfl rfl lf129 k_ k_ (f.G 11) s_ ?_;have P:Sm 9 115 3 Q wd s.key (Bq f90 a.tmps (w.heap.size+4) .ready) w (fD Q.data.toList wd 0) (du g (Bq f90 a.tmps g.heap.size .ready)):=by have hl:=fI g (Bq f90 a.tmps g.heap.size .ready);have hd:=fJ g (Bq f90 a.tmps g.heap.size .ready);rw[L]at hl hd⊢;exact⟨aD D o_ (m5 g _),(bK g _ o_).trans k0,(bK g _ o_).trans k1,(bK g _ o_).trans k2,(bK g _ o_).trans k3,hd,hl⟩
 rw[L]at P⊢;have hT:Has [(2, .pt w.heap.size),(5, .pt (w.heap.size+1))] 34 [] ⟨a.tmps,[]⟩:=⟨rfl,f.size,(f.only (G:=[(2, .pt w.heap.size),(5, .pt (w.heap.size+1))]) ⟨rfl,rfl,trivial⟩).slot⟩;have ac:Q.size*(8/wd)<=128:=by rw[T];rcases J with rfl|rfl|rfl<;>decide
 have G:∀A,vo lT A (((base 90).atR ⟨a.tmps,{target:= .collected (w.heap.size+4),args:=#[]}::a.defers⟩ (.inRangeFunc (w.heap.size+4+1)::[.inBlock 0, .code (.seq (rG f90 5) (.seq (rD f90 6) .ret))]))::cs) (λc=>#[.i (dP Q.data.toList wd c)]) (Q.size*(8/wd)) (w.heap.size+4+1) (Bq f90 a.tmps (w.heap.size+4) .ready)
  (λc=>Sm 9 115 3 Q wd s.key (Bq f90 a.tmps (w.heap.size+4) .ready) w (fD Q.data.toList wd c)):=
  λA=>
  {below:=λc w w' h hb=>h.below hb
   loop:=λc w h=>h.loop
   size:=λc=>rfl
   round:=λc w' cf hc U next=>On J C hT o_ U next}
 refine uY J o_ (λc w' h=>h.str) (λc w' h=>h.wid) (G _) P λX U=> ?_;show Rn _ _ ((base 90).atR ⟨a.tmps,{target:= .collected (w.heap.size+4),args:=#[]}::a.defers⟩ (.endRangeFunc (w.heap.size+4+1)::_)) cs X;refine Rn.rangeOver U.loop rfl rfl ?_;have r:=U.turn (Bq f90 a.tmps (w.heap.size+4) .exhausted);show Rn _ _ _ _ (bU X (w.heap.size+4+1) (Bq f90 a.tmps (w.heap.size+4) .exhausted));have d:Has [(1, .s Q),(2, .pt w.heap.size),(5, .pt (w.heap.size+1))] 34 [{target:= .collected (w.heap.size+4),args:=#[]}] ⟨a.tmps,{target:= .collected (w.heap.size+4),args:=#[]}::a.defers⟩:=⟨by rw[f.defers],f.size,(f.only (G:=[(1, .s Q),(2, .pt w.heap.size),(5, .pt (w.heap.size+1))]) ⟨rfl,rfl,rfl,trivial⟩).slot⟩;revert d r;generalize bU X (w.heap.size+4+1) (Bq f90 a.tmps (w.heap.size+4) .exhausted)=W;generalize (Act.mk a.tmps ({target:= .collected (w.heap.size+4),args:=#[]}::a.defers))=a2;intro r d;have hS:=rO Q.data.toList J (Q.size*(8/wd));have a7:fD Q.data.toList wd (Q.size*(8/wd))<=32640:=o_
 have a9:2^sh<=256:=as8 (Q5 d_ K) d_;have ab:fD Q.data.toList wd (Q.size*(8/wd))*2^sh<=32640*256:=aG3 a7 a9;have q:(fD Q.data.toList wd (Q.size*(8/wd)):Int)*2^sh=((fD Q.data.toList wd (Q.size*(8/wd))*2^sh:Nat):Int):=by simp_all
 refine Rn.uu d λa d=> ?_;refine Rn.vv d (λo j=>(aO bH j (d.G 5) ((aH r.five 0).trans rfl)).1) λa d=> ?_;refine Rn.uu d λa d=> ?_;refine Rn.vv d (λo j=>(aO (v:= .i sh) bH j (d.G 21) ((aH r.key 7).trans (by rw[←Z];rfl))).1) λa d=> ?_;refine Rn.vv d (λo j=>m8 (k:=sh) j (d.G 20) (d.G 22) o_ (by rw[q];omega)) λa d=> ?_;rw[q]at d;refine Rn.cl d lf92 (R:=λv w'=>v= .string ⟨(dm (fD Q.data.toList wd (Q.size*(8/wd))*2^sh) 2).toArray⟩/\Bw W w') ((nH _ o_ W).mono λe w' h=>⟨_,h.1,rfl,h.2⟩) λv w7 hv a d=> ?_;obtain⟨rfl,a6⟩:=hv;have Y:(Q++(⟨(dm (fD Q.data.toList wd (Q.size*(8/wd))*2^sh) 2).toArray⟩:ByteArray)).size=34:=by rw[ax3,T,mQ]
 have E:(Q++(⟨(dm (fD Q.data.toList wd (Q.size*(8/wd))*2^sh) 2).toArray⟩:ByteArray)).data.toList=ll Q.data.toList wd sh:=by simp[ll,S]
 refine Rn.vv d (λo j=>rV j (d.G 19) (d.G 24) (by simp_all)) λa d=> ?_;refine Rn.uu d λa d=> ?_;have O:=r.below a6;refine Rn.p rfl (Rn.p rfl ?_);refine Tq (n:=n) J C hn o_ a3 (by simp_all) O.key (d.only ⟨rfl,rfl,trivial⟩) λa8 w8 v p a5 d=> ?_;have F:=O.below a5;rw[E]at p;refine Rn.ends rfl (.inr ⟨_,rfl⟩) (Rn.take (ds:=[]) d.defers F.list (Rn.now ⟨⟨a8.tmps,[]⟩,_,v,rfl,rfl,d.slot 4 _ rfl,v,rfl, ?_,F.old.trans (gJ _ _ o_)⟩));obtain⟨gb,aa,rfl,a4,hc⟩:=p;refine⟨gb,aa,rfl,by simp_all,λc M=> ?_⟩;have a0:gb≠w.heap.size+4:=λe=>by have:=hc c M;subst e;unfold AT at this;simp only[F.list]at this;cases this
 refine(World.cell?_of_block (w:=w8) (a:=⟨gb,c,none⟩) ?_).trans (hc c M)
 grind
section
variable{b:Frame}{k:List Item}
def qY(e:Has F N ds a)(d x)(i:d<N)(c:F.lookup x=some (.s s))(h:(ops[m]?).map (λo=>(o.dst,o.op,o.guard))=some (some d,ij x,none))
 (next:∀a',Has ((d, .i s.size)::F) N ds a'->Rn lT Goal (b.atR a' (.inRegion ops rest::k)) cs w):Rn lT Goal (b.atR a (.inRegion ops (m::rest)::k)) cs w:=by
 have f:lT.underlying 9=some .string:=k_
 refine Rn.op e d (ij x) i h (by simp[ij]) (λo g=> ?_) next
 simp[execOp,g,ij,resolve,(e.get c),invoke,builtin,YQ,s_,goInt]
def kO(e:Has F N ds a)(d x)(c){i}(j:d<N)(f:F.lookup x=some (.i i))(h:(ops[m]?).map (λo=>(o.dst,o.op,o.guard))=some (some d,iB x c,none))
 (next:∀a',Has ((d, .bool (decide (i<c)))::F) N ds a'->Rn lT Goal (b.atR a' (.inRegion ops rest::k)) cs w):Rn lT Goal (b.atR a (.inRegion ops (m::rest)::k)) cs w:=
 Rn.op e d (iB x c) j h (by simp[iB]) (λo g=>(gy g (e.get f) rfl).1) next
def C1{x}(e:Has F N ds a)(c:F.lookup x=some (.bool q))(d:q=true)(next:Rn lT Goal (b.atR a k) cs w):Rn lT Goal (b.atR a (.code (.cond (.tmp x) .skip (.refuse ""))::k)) cs w:=by subst d;exact Rn.cond true (e.get c) (Rn.p rfl next)
def pT{x}(e:Has F N ds a)(c:F.lookup x=some (.bool q))(d:q=false)(next:Rn lT Goal (b.atR a k) cs w):Rn lT Goal (b.atR a (.code (.cond (.tmp x) (.refuse "") .skip)::k)) cs w:=by subst d;exact Rn.cond false (e.get c) (Rn.p rfl next)
def Xz{s:dQ}{v1}(c:Has [(0, .agg s.cells),(1,v1)] 36 [] a)(D:1<=s.count)(C:s.count<65537)(j:0<=s.width/\s.width<9)(l:0<=s.q/\s.q<4294967296)(p:s.id.size<65536)
 (next:∀a',Has [(1,v1),(3, .agg s.cells),(10, .i s.count),(13, .string s.links)] 36 [] a'→Rn lT Goal (b.atR a' (.code (.seq (.region 6 Xv false) (.seq (.cond (.tmp 22) (.refuse "") .skip) (.seq (.cond (.tmp 27) (.refuse "") .skip) (.seq (.cond (.tmp 28) (.refuse "") .skip) (.seq (.region 1 Xx false) (.seq (.block 0 (.loop qW)) (.seq (.region 5 Xw false) .ret)))))))::k)) cs (w.alloc (.cells s.cells 119))):
 Rn lT Goal (b.atR a (.code oV::k)) cs w:=by
 have⟨z,y,q,u,B,i,n,A,g,t,e,d⟩:=s;refine Rn.vv c (λo m=>Y8 m (c.G 0)) λa c=> ?_;refine Rn.op c 2 (.box 119 (.tmp 0)) d_ rfl s_ (v:= .pk w.heap.size 0) (w':=w.alloc (.cells (dQ.mk z y q u B i n A g t e d).cells 119)) (λo m=> ?_) λa c=> ?_
 .have h:=(mg lT (w:=w) (ev:=a.eval) m).1;rw[c.G 0]at h;exact h
 have f:=aY w (.cells (dQ.mk z y q u B i n A g t e d).cells 119);revert next f
 generalize w.alloc (.cells (dQ.mk z y q u B i n A g t e d).cells 119)=E;intro next f
 refine Rn.vv c (λo m=>Mb m (c.G 2) f) λa c=> ?_
 iterate 2 refine Rn.uu c λa c=> ?_
 refine qY c 7 6 d_ rfl rfl λa c=>Rn.uu c λa c=> ?_;refine qY c 7 6 d_ rfl rfl λa c=>Rn.uu c λa c=> ?_;refine qY c 9 8 d_ rfl rfl λa c=>Rn.uu c λa c=> ?_;refine qY c 7 6 d_ rfl rfl λa c=>Rn.uu c λa c=> ?_;refine kO c 7 6 0 d_ rfl rfl λa c=>Rn.uu c λa c=> ?_;refine kO c 16 11 0 d_ rfl rfl λa c=>Rn.uu c λa c=> ?_;refine kO c 15 10 65537 d_ rfl rfl λa c=>Rn.uu c λa c=> ?_;refine kO c 7 6 0 d_ rfl rfl λa c=>Rn.uu c λa c=> ?_;refine kO c 18 12 0 d_ rfl rfl λa c=>Rn.uu c λa c=> ?_;refine qY c 7 6 d_ rfl rfl λa c=>Rn.uu c λa c=> ?_;refine qY c 7 13 d_ rfl rfl λa c=>Rn.uu c λa c=> ?_;refine qY c 7 6 d_ rfl rfl λa c=>kO c 14 10 1 d_ rfl rfl λa c=>kO c 17 11 9 d_ rfl rfl λa c=>kO c 19 12 4294967296 d_ rfl rfl λa c=>kO c 20 9 65536 d_ rfl rfl λa c=> ?_;have D:=D;have C:=C;have j:=j;have l:=l;have p:=p;refine Rn.p rfl (Rn.p rfl ?_);refine pT c rfl (decide_eq_false o_) (Rn.p rfl ?_);refine C1 c rfl (decide_eq_true o_) (Rn.p rfl ?_);refine pT c rfl (decide_eq_false o_) (Rn.p rfl ?_);refine C1 c rfl (decide_eq_true o_) (Rn.p rfl ?_);refine pT c rfl (decide_eq_false o_) (Rn.p rfl ?_);refine C1 c rfl (decide_eq_true o_) (Rn.p rfl ?_);refine C1 c rfl (decide_eq_true o_) ?_;exact next a c.O
end
section
variable{b:Frame}{k:List Item}(hKl:KS.length=64)(hK:wE.rangeAt 0 0 (aQ KS))(h0:0<wE.heap.size){s:dQ}{bL gb glen gcap:Nat}{dig:Nat->Int}
 (hn:s.count=n) (hn2:n<65537) (hwd:0<=s.width/\s.width<9) (hqq:0<=s.q/\s.q<4294967296) (hid:s.id.size<65536) (hlk:n*32<=s.links.size) (hbL:wE.heap.size<=bL)
 (hgb:gb<wE.heap.size) (hglen:n<=glen) (hdig:∀c,c<n->(0<=dig c/\dig c<256)/\wE.cell? ⟨gb,c,none⟩=some (.int .i64 (dig c)))
include hKl hK h0 hn hn2 hwd hqq hid hlk hbL hgb hglen hdig
def Ot(next:∀a w,Bw wE w->w.heap[bL]?=some (.cells (oL KS s dig n n) 9)->Has [(23, .sk bL n n)] 36 [] a->Rn lT Goal (b.atR a k) cs w):
 ∀j i a w,n- i=j->i<=n->Bw wE w->w.heap[bL]?=some (.cells (oL KS s dig n i) 9)->
  Has [(1, .sk gb glen gcap),(3, .agg s.cells),(10, .i n),(13, .s s.links),(23, .sk bL n n),(24, .i i)] 36 [] a->Rn lT Goal (b.atR a (.code qW:: .inLoop qW:: .inBlock 0::k)) cs w:=by
 intro j;induction j with
 |zero=>
  intro i a w F G d l c;have m:i=n:=o_
  subst m;refine Rn.uu c λa c=> ?_;refine Rn.p rfl (Rn.cond (decide ((i:Int)<i)) (c.G 25) ?_);rw[show(decide ((i:Int)<i))=false by simp];exact Rn.p rfl (next a w d l c.O)
 |succ j D=>
  intro i a w F G d l c;have m:i<n:=o_
  have⟨H,p⟩:=hdig i m;refine Rn.uu c λa c=> ?_;refine Rn.p rfl (Rn.cond (decide ((i:Int)<n)) (c.G 25) ?_);rw[show(decide ((i:Int)<n))=true by simpa using m];refine Rn.vv c (λo u=>(dI (e:=3) k_ s_ u (c.G 1) (c.G 24) o_).1) λa c=> ?_;have r:w.cell? ((⟨gb,0,none⟩:Addr).add i)=some (.i (dig i)):=by rw[rC,as5];unfold AT at p⊢;exact d.block gb hgb▸p
  refine Rn.vv c (λo u=>(aO bH u (c.G 26) r).1) λa c=> ?_;refine kO c 28 27 0 d_ rfl rfl λa c=>kO c 29 27 256 d_ rfl rfl λa c=>Rn.p rfl (Rn.p rfl ?_);refine pT c rfl (decide_eq_false o_) (Rn.p rfl ?_);refine C1 c rfl (decide_eq_true o_) ?_;refine Rn.uu c λa c=> ?_;refine Rn.uu c λa c=> ?_;refine Rn.uu c λa c=> ?_;have A:a.eval (.tmp 30)= .i ((i*32:Nat):Int):=(c.G 30).trans (by simp_all);have z:a.eval (.tmp 32)= .i (((i+1)*32:Nat):Int):=(c.G 32).trans (by simp_all);refine Rn.vv c (λo u=>(eC u (c.G 13) A z o_ o_).1) λa c=> ?_;have y:Ga s i (dig i) (s.links.extract (i*32) ((i+1)*32)):=⟨hwd,hqq,hid,o_,H,by rw[as6];omega⟩;refine Rn.calls c 34 d_ rfl (by simp[c.G 3,c.G 24,c.G 27,c.G 33]) lf120 k_ k_
   (R:=λv B=>v= .s (lA KS s i (dig i) (s.links.extract (i*32) ((i+1)*32)))/\Bw w B) ((HI KS s i (dig i) _ y w (Yc h0 d hK) hKl (ar4 h0 d.size)).mono λe B h=>⟨_,h.1,rfl,h.2⟩) λv C E a c=> ?_
  obtain⟨rfl,q⟩:=E;have g:=(q.block bL (gA l).1).trans l;refine Rn.uu c λa c=> ?_;refine Rn.does0 c (.store 9 (.tmp 35) (.tmp 34)) rfl s_ (λo u=>(ff (v0:= .string ⟨#[]⟩) rfl rfl k_ u
   ((c.G 35).trans (by rw[rC,as5])) (c.G 34) (by rw[aH g];simp[oL,m]) (by simp[If,g])).1) λa c=> ?_
  refine Rn.uu c λa c=> ?_;refine Rn.p rfl (Rn.p rfl ?_);refine D (i+1) a _ o_ o_ ((aD d d.size q).trans (eJ _ _ _ hbL)) ?_ (c.only ⟨rfl,rfl,rfl,rfl,rfl, ?_,trivial⟩)
  .rw[kI g,←Dm λ_ _=>rfl];unfold Ae;simp
  simp_all
end
def MK(KS)(A:KS.length=64)(s)(n q glen gcap)(dig)(w)(D:w.rangeAt 0 0 (aQ KS))(E:0<w.heap.size)(B:s.count=n)(C:1<=n)(u:n<65537)(i:0<=s.width/\s.width<9)(j:0<=s.q/\s.q<4294967296)(k:s.id.size<65536)(v:n*32<=s.links.size)
 (y:q<w.heap.size) (h:n<=glen) (l:∀c,c<n->(0<=dig c/\dig c<256)/\w.cell? ⟨q,c,none⟩=some (.int .i64 (dig c))):
 Calls (aI true tP) 94 #[.agg s.cells, .sk q glen gcap] w λe w'=>∃bL,e= .returned (.sk bL n n)/\w'.heap[bL]?=some (.cells (aw8 λc:Fin n=>Ae KS s dig c.val) 9)/\Bw w w':=by refine aW uQ rfl λF=> ?_;rw[aT [.agg s.cells, .sk q glen gcap] uQ rfl rfl];have b:=aN [.agg s.cells, .sk q glen gcap] 36 s_;refine Xz b o_ o_ i j k λa b=> ?_;rw[B]at b;have p:=aR w (.cells s.cells 119);refine Rn.uu b λa b=> ?_;refine Rn.vv b (λo f=>Mc f (b.get rfl)) λa b=> ?_;refine Rn.vv b (λo f=>(gy f (b.get rfl) (b.get rfl)).1) λa b=> ?_;refine Rn.vv b (λo f=>Py f (b.get rfl)) λa b=> ?_;refine Rn.vv b (λo f=>(gy f (b.get rfl) (b.get rfl)).1) λa b=> ?_;refine Rn.vv b (λo f=>CW f (b.get rfl) rfl) λa b=> ?_;refine Rn.p rfl (Rn.p rfl (Rn.cond false ((b.get rfl).trans (by simp;omega)) (Rn.p rfl (Rn.p rfl (Rn.cond false ((b.get rfl).trans (by simp;omega)) (Rn.p rfl (Rn.p rfl (Rn.cond false (b.get rfl) (Rn.p rfl ?_)))))))));refine Rn.vv b (λo f=>GV o_ o_ f (b.get rfl) (b.get (d:=10) rfl)) λa b=> ?_;refine Rn.mvc b 24 (.int .i64 0) d_ rfl λa b=> ?_;refine Rn.p rfl (Rn.p rfl (Rn.p rfl (Rn.p rfl ?_)));refine Ot A D E B u i j k v (by rw[(aJ w (.cells s.cells 119))];omega) y h l ?_ n 0 a _ rfl o_ (aD p p.size (aR (w.alloc (.cells s.cells 119)) (.cells (ar6 n (.string ⟨#[]⟩)) 9))) (by rw[Dl];exact (aY (w.alloc (.cells s.cells 119)) (.cells (ar6 n (.string ⟨#[]⟩)) 9))) (b.only ⟨rfl,rfl,rfl,rfl,rfl,rfl,trivial⟩);intro a w' m g b;refine Rn.uu b λa b=> ?_;refine Rn.p rfl (Rn.ends rfl s_ (Rn.now ⟨a,_, .sk ((w.alloc (.cells s.cells 119)).heap.size) n n,rfl,b.defers,b.slot 4 _ rfl,_,rfl, ?_,m⟩));rw[←Dn];exact g
end L1
end Go.Proofs.YtkmoglhgkcnalaaGreatDoor
