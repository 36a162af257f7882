/- A part of what the last text of the claim imports: texts laid together, and made small, by a program. -/
import Derived.WalkKit
import Derived.WalkSpells
import Derived.WalkLawsBesides
import Derived.Deep.MidRow
import Derived.Deep.OwnRows
import Derived.StillTail
import Derived.Conc.Beside
import Derived.Conc.CrowdInv
import Derived.Conc.CompanyDraw
import Derived.AtR
import Derived.Conc.WgGenN3
import Derived.CallsIn
import Derived.Test.YtkmoglhgkcnalabGreatDoorCwn2
set_option maxHeartbeats 16000000
set_option maxRecDepth 100000
open Array renaming getElem?_eq_getElem->jm,getElem?_setIfInBounds_self_of_lt->kg,replicate->kx,getD_eq_getD_getElem?->pg,getElem?_map->wZ,getElem?_push->DY,all_eq_true'->ET,mem_append->Hh,mem_of_getElem?->If,getElem?_modify->IN,size_map->M1,size_setIfInBounds->MZ,size_push->Vs,map->VX,ext->Wq,getElem_mem->Ww,swapAt!->WO,swapAt->Yr,mem_toList_iff->YK
open Bool renaming and_eq_true->d7,false_eq_true->qD
open Go.Act renaming put->Rf
open Go.Builtin renaming copy_->W4
open Go.Conc renaming mem_ofEvents->F8,Good->a06
open Go.Conc.Goes renaming stop->OT,cases->WG,rely->a03
open Go.Conc.Lib renaming WgLink->Z3,WgLib->Zh
open Go.Conc.QuitsD renaming ctl->a24
open Go.ConcN renaming RW->a11
open Go.ConcN.Gen renaming doneN->a23
open Go.ConcN.Gen.WgLive renaming cell0->R0
open Go.ConcN.RW renaming refl->Om,trans->a27
open Go.ConcR renaming Payload->Wc
open Go.ConcR.Gen renaming nm_done->a12
open Go.Ending renaming returned->Vg
open Go.Extern.AbiNoEscape renaming same->WY
open Go.Extern.BytealgMakeNoZero renaming digits->N4,makeNoZero->Ve
open Go.Frame renaming enter->t4,finish_atR->BR,eval_atR->Iu,atR->Yj,atR_of_none->Zg
open Go.GStep renaming after->mX
open Go.Instr renaming enterLoop->Am,endLoop->Iz,endRound->IQ,takeDeferred->Jd,getLoop->Rm,yield->Vi
open Go.IntKind renaming u32->IT,u64->LX,wrap_u64->PQ,wrap_u32->QY
open Go.Item renaming code->Ws
open Go.MemAct renaming ofEvent->Gg,touch?->KL,access->W7,low->a22
open Go.MemOp renaming ofEvents->IR
open Go.Obj renaming isChan->Xv
open Go.Region renaming wanted->jd,linearise->Bt,ready->CL,binds->QZ,Mode->Y7
open Go.Sem renaming runT_eq->AT,bind->BW,runT->G4,runT_fst->IJ
open Go.Stepped renaming next->Yq
open Go.StepsIn renaming one->ZC
open Go.World renaming cell?->AB,setCell->BO,rangeAt_setCells_same->J3,rangeAt_setCells_apart->MK,farStore->NE,cell?_alloc_at->Pf,farLoad->Pn,rangeAt_alloc->R3,there_setCells->Vm,cell?_setCells_out->W6,there_alloc->WA,setCells->ZR
open Int renaming natCast_pow->LK
open List renaming getElem?_eq_some_iff->qw,map_cons->rn,lookup->uT,not_mem_nil->Af,range->Ak,mem_cons->AI,getElem?_eq_getElem->AS,getElem?_append_right->BP,replicate->C2,getElem?_append_left->G7,cons_append->Iv,getElem?_map->IS,take_of_length_le->LP,mem_toArray->MB,append_assoc->ML,mem_singleton->NQ,set_append_right->OF,mem_range->Pi,map_append->Vt,drop_append_of_le_length->Vy,mem_map->VJ,take_append_of_le_length->We,mem_filter->Wp,length_take->Yi,ext_getElem->Zo
open Nat renaming le_refl->d8,lt_of_lt_of_le->gK,zero_add->qV,le_trans->z9,not_lt_zero->M0
open Ne renaming symm->LZ
open Option renaming map_some->d9,getD_some->y9,map_eq_some_iff->By
open Or renaming inl->Yb,inr->Z2
open UInt8 renaming ofNat->XE
namespace Go.Proofs.YtkmoglhgkcnalabGreatDoor
open Go
variable{n b i N l m k j b3 b4 b7 b9 Wg wd:Nat}{w w' w0 wL wM wE:World}{fr:Frame}{v:Value}{cs:List Frame}{args cv:Array Value}{V RO D V0:Nat->Prop}{q main listen ql:Bool}{g:Goroutine}{a:Act}{K:List Item}{P PL PM:Program}{x:Operand}{ops:Array Oper}{KS:List Int}{t u:TypeId}{o:Oper}{f:FuncId}{es:Array Event}{Goal:Goroutine->World->Prop}{fn:Func}{rest:List Nat}{ds:List Deferred}{F:List (Nat×Value)}{e:Event}{listed:Array Bool}{c:Int}{s msg key sig:ByteArray}{ρ:Nat->Nat}{ev:Operand->Value}{Post:Value->World->Prop}
section
open Go
theorem B8(args:Array Value):aF ρ PL PM (aE ρ) (WY args) (WY (args.map (aE ρ))):=by
 obtain⟨l⟩:=args;cases l with
 |nil=>exact .dead trivial
 |cons x l=>
  cases l with
  |nil=>
   rw[show VX (aE ρ) ⟨[x]⟩=#[aE ρ x]from s_];exact .pure x
  |cons y l=>exact .dead trivial
theorem qp:∀(n t:Nat) (a:Array Value),(∀v∈a,bO v=true)->∀v∈N4 n t a,bO v=true
 |0,_,_,h=>h
 |n+1,t,a,h=>qp n _ _ λv hv=>by
  rcases Array.mem_push.1 hv with hv|hv
  ·exact h v hv
  ·rw[hv];rfl
theorem vC(j:bN PL PM)(h rs:Array TypeId)(args:Array Value):aF ρ PL PM (aE ρ) (Ve h rs args) (Ve h rs (args.map (aE ρ))):=by
 obtain⟨l⟩:=args;cases l with
 |nil=>exact .dead trivial
 |cons x l=>
  cases l with
  |cons y l=>cases x<;>exact .dead trivial
  |nil=>
   cases x with
   |int k n=>
    cases k with
    |i64=>
     rw[show VX (aE ρ) ⟨[.i n]⟩=#[.i n]from by simp[aE]];unfold Ve;cases rs[0]? with
     |none=>exact .dead trivial
     |some t=>
      dsimp only;refine(aX j t).bind λd=> ?_;cases d with
      |slice e=>
       dsimp only[id];have g:aF ρ PL PM (aE ρ) (do let c←choose (.appendCap n.toNat 0 e);askRoom c;let bytes←choose (.extern "internal/bytealg.MakeNoZero.bytes" 0);let a←newRow e (N4 c bytes #[]);pure (.slice (some a) n.toNat c)) (do let c←choose (.appendCap n.toNat 0 e);askRoom c;let bytes←choose (.extern "internal/bytealg.MakeNoZero.bytes" 0);let a←newRow e (N4 c bytes #[]);pure (.slice (some a) n.toNat c)):=by refine aF.bind (f:=id) (.choose λn=> .pure n) λc=> ?_;refine(jY c).bind λ_=> ?_;refine aF.bind (f:=id) (.choose λn=> .pure n) λb=> ?_;have o:(N4 c b #[]).map (aE ρ)=N4 c b #[]:=jJ λv m=>dG ρ v (qp c b #[] s_ v m);have i:=g8 (ρ:=ρ) (PL:=PL) (PM:=PM) e (N4 c b #[]);rw[o]at i;exact i.bind λa=>aO _ (by simp[aE])
       split
       ·exact(jU (f:=id) j rfl).bind λ_=>g
       ·exact g
      |_=>exact .dead trivial
    |_=>exact .dead trivial
   |_=>exact .dead trivial
def qf(K:FuncId)(sk:Func)(ext:FuncId->Bool)(i:Nat)(f:Func):Func:=
 if i=K then sk else if ext i then f else match f.body with
  |some c=>if pE i c then f else oJ f
  |none=>oJ f
def ge(P:Program)(K:FuncId)(sk:Func)(ext:FuncId->Bool):Program:=fw P (P.funcs.mapIdx (qf K sk ext))
structure sX (P:Program) (K:FuncId) (sk:Func) (ext:FuncId->Bool) (G:Nat):Prop where
 zero:∀i∈P.types,∀z,i.zero=some z->bO z=true
 glob:P.globals.size=G
 tab:eP<G
 names:∀f∈P.funcs,f.name≠ "runtime.NumGoroutine"
 ty:EK P
 ex:j7<P.funcs.size
 lw:yp<P.funcs.size
 lwr:yp≠j7->∀fn,P.funcs[yp]?=some fn->fn.results.all (JS 2)=true
 exr:∀fn,P.funcs[j7]?=some fn->fn.results.all (JS 1)=true
 kex:dt K=0
 d1:fM≠K/\ext fM=false/\∃fn c,P.funcs[fM]?=some fn/\fn.body=some c/\pE fM c=true
 z3:Lr<P.funcs.size/\Ls<P.funcs.size/\fM<P.funcs.size
 kfn:∃fn,P.funcs[K]?=some fn/\fn.body.isSome=true/\sk.results=fn.results
 kbody:∃c,sk.body=some c/\jb 0 c=true
 kname:sk.name≠ "runtime.NumGoroutine"
 ext:∀i fn,ext i=true->P.funcs[i]?=some fn->fn.body=none/\Extern.findNext fn=none/\∃e,Extern.find fn=some e/\∀(ρ:Nat->Nat) (PL PM:Program),bN PL PM->∀args,aF ρ PL PM (aE ρ) (e args) (e (args.map (aE ρ)))
section
variable{K:FuncId}{sk:Func}{ext:FuncId->Bool}{G:Nat}
theorem qe(f:Nat):(ge P K sk ext).funcs[f]?=(P.funcs[f]?).map (qf K sk ext f):=by unfold ge fw;simp only[Array.getElem?_mapIdx]
theorem lE(a:(ge P K sk ext).funcs[f]?=some fn):∃b,P.funcs[f]?=some b/\
 ((f=K/\fn=sk)\/(f≠K/\ext f=true/\fn=b)\/(f≠K/\fn=b/\∃c,fn.body=some c/\pE f c=true)\/(f≠K/\fn=oJ b)):=by
 rw[qe]at a;cases i:P.funcs[f]? with
 |none=>rw[i]at a;cases a
 |some g=>
  rw[i]at a;simp only[d9,Option.some.injEq]at a;refine⟨g,rfl, ?_⟩;unfold qf at a;split at a
  ·rename_i e;exact .inl ⟨e,a.symm⟩
  ·rename_i d;split at a
   ·rename_i e;exact .inr (.inl ⟨d,e,a.symm⟩)
   ·cases h:g.body with
    |none=>rw[h]at a;exact .inr (.inr (.inr ⟨d,a.symm⟩))
    |some c=>
     rw[h]at a;simp only at a;split at a
     ·rename_i j;subst a;exact .inr (.inr (.inl ⟨d,rfl,c,h,j⟩))
     ·exact .inr (.inr (.inr ⟨d,a.symm⟩))
theorem oj(h:sX P K sk ext G):bN (ge P K sk ext) P:=Fj P _ λt i z b a=>ES P h.zero t i z b a
theorem vU(h:bN PL PM):bN PL PL:=⟨λ_=>rfl,λ_=>rfl,h.zero,rfl,λ_=>rfl,λ_=>rfl,λ_ _=>rfl,λ_ _ _ _ _=>rfl,λ_ _ _ _=>rfl,λ_=>rfl,λ_=>rfl,λ_=>rfl,rfl,λ_=>rfl⟩
theorem Eh(h:sX P K sk ext G){PM:Program}(u:bN (ge P K sk ext) PM)(v:∀(f:FuncId) (fn:Func),(ge P K sk ext).funcs[f]?=some fn->∃a:Func,PM.funcs[f]?=some a/\(a=fn\/P.funcs[f]?=some a))(r:Nat->Nat)(g:FuncId):iK r (ge P K sk ext) PM g:=by
 intro fn s;obtain⟨a,j,m⟩:=lE s;obtain⟨q,l,d⟩:=v g fn s;have b:a.name≠ "runtime.NumGoroutine" :=h.names a (If j);rcases m with⟨rfl,rfl⟩|⟨m,t,rfl⟩|⟨m,rfl,c,k,_⟩|⟨m,rfl⟩
 ·obtain⟨c,k,_⟩:=h.kbody;refine⟨h.kname, .inl ⟨by rw[k];rfl,q,l, ?_⟩⟩;rcases d with rfl|o
  ·exact⟨by rw[k];rfl,h.kname⟩
  ·rw[j]at o;cases o;obtain⟨x,n,p,_⟩:=h.kfn;rw[j]at n;cases n;exact⟨p,b⟩
 ·obtain⟨w,o,e,n,p⟩:=h.ext g fn t j;refine⟨b, .inr (.inr ⟨w,o, ?_,e,n,p r _ _ u⟩)⟩;rcases d with rfl|i
  ·exact l
  ·rw[j]at i;cases i;exact l
 ·refine⟨b, .inl ⟨by rw[k];rfl,q,l, ?_⟩⟩;have:q=fn:=by
   rcases d with i|i
   ·exact i
   ·rw[j]at i;cases i;rfl
  subst this;exact⟨by rw[k];rfl,b⟩
 ·exact⟨by show "none" ≠ "runtime.NumGoroutine";decide, .inr (.inl ⟨rfl,Gm _,Gp _,Gn _⟩)⟩
theorem A9(h:sX P K sk ext G)(m:(ge P K sk ext).funcs[f]?=some fn):∃a,P.funcs[f]?=some a/\a.results=fn.results/\fn.results.all (JS (dt f))=true:=by
 obtain⟨a,i,l⟩:=lE m;have b:a.results.all (JS (dt f))=true:=by
  by_cases g:f=j7
  ·subst g;rw[gj];exact h.exr a i
  ·by_cases d:f=yp
   ·have c:dt f=2:=(by unfold dt;rw[if_neg g,if_pos d]);rw[c];exact h.lwr (λe=>g (d.trans e)) a (d▸i)
   ·have c:dt f=3\/dt f=0:=by
     unfold dt;rw[if_neg g,if_neg d];split
     ·exact .inl rfl
     ·exact .inr rfl
    rw[ET];intro r _;rcases c with c|c<;>rw[c]<;>cases r<;>rfl
 refine⟨a,i, ?_⟩;rcases l with⟨rfl,rfl⟩|⟨_,_,rfl⟩|⟨_,rfl,_⟩|⟨_,rfl⟩
 ·obtain⟨n,k,_,j⟩:=h.kfn;rw[i]at k;cases k;exact⟨j.symm,by rw[j];exact b⟩
 ·exact⟨rfl,b⟩
 ·exact⟨rfl,b⟩
 ·exact⟨rfl,b⟩
theorem Eg(h:sX P K sk ext G):EK (ge P K sk ext):=by obtain⟨d,b,a⟩:=h.ty;exact⟨d,by unfold ge;rw[cX];exact b,a⟩
theorem jo:(ge P K sk ext).funcs.size=P.funcs.size:=by unfold ge fw;simp
theorem Ei(h:sX P K sk ext G):∃fn c,(ge P K sk ext).funcs[fM]?=some fn/\P.funcs[fM]?=some fn/\fn.body=some c/\pE fM c=true:=by obtain⟨f,e,fn,c,d,b,a⟩:=h.d1;refine⟨fn,c, ?_,d,b,a⟩;rw[qe,d];simp only[d9,qf,if_neg f,e,qD,↓reduceIte,b,a]
theorem Aw(h:sX P K sk ext G):kh (ge P K sk ext) P G where
 same:=oj h
 gl:=h.glob
 tab:=h.tab
 gm:=h.glob
 load w a b:=Fl P _ w a b
 store w a v b:=BQ P _ w a v b
 fn ρ g:=Eh h (oj h) (λf fn hf=>by obtain⟨fn',hp,_⟩:=lE hf;exact⟨fn',hp, .inr hp⟩) ρ g
 ty:=Eg h
 mix:=rfl
 ex:=by rw[jo];exact h.ex
 lw:=by rw[jo];exact h.lw
 res f fn hf:=A9 h hf
 none f hf:=by rw[qe]at hf;simpa using hf
 inits:=rfl
 d1:=by obtain⟨fn,c,h1,h2,h3,h4⟩:=Ei h;exact⟨fn,fn,h1,h2,rfl,rfl,c,h3,h4⟩
 z3:=by rw[jo];exact h.z3
theorem Av(h:sX P K sk ext G):kh (ge P K sk ext) (ge P K sk ext) G where
 same:=vU (oj h)
 gl:=h.glob
 tab:=h.tab
 gm:=h.glob
 load _ _ _:=rfl
 store _ _ _ _:=rfl
 fn ρ g:=Eh h (vU (oj h)) (λf fn hf=>⟨fn,hf, .inl rfl⟩) ρ g
 ty:=Eg h
 mix:=rfl
 ex:=by rw[jo];exact h.ex
 lw:=by rw[jo];exact h.lw
 res f fn hf:=by obtain⟨_,_,_,h3⟩:=A9 h hf;exact⟨fn,hf,rfl,h3⟩
 none f hf:=hf
 inits:=rfl
 d1:=by obtain⟨fn,c,h1,h2,h3,h4⟩:=Ei h;exact⟨fn,fn,h1,h1,rfl,rfl,c,h3,h4⟩
 z3:=by rw[jo];exact h.z3
theorem sn(h:sX P K sk ext G)(f:FuncId)(fn:Func)(c:Code)(i:(ge P K sk ext).funcs[f]?=some fn)(d:fn.body=some c):pE f c=true:=by
 obtain⟨l,e,g⟩:=lE i;rcases g with⟨rfl,rfl⟩|⟨_,j,rfl⟩|⟨_,rfl,m,b,a⟩|⟨_,rfl⟩
 ·obtain⟨m,b,a⟩:=h.kbody;rw[d]at b;cases b;exact O2 h.kex a
 ·obtain⟨k,_⟩:=h.ext f fn j e;rw[k]at d;cases d
 ·rw[d]at b;cases b;exact a
 ·cases d
theorem sj(h:sX P K sk ext G)(f:FuncId)(fn:Func)(d:(ge P K sk ext).funcs[f]?=some fn)(b:fn.body.isSome=true)(j:f≠K):jc (ge P K sk ext) P f:=by
 obtain⟨l,c,e⟩:=lE d;rcases e with⟨rfl,_⟩|⟨_,g,rfl⟩|⟨_,rfl,m,i,a⟩|⟨_,rfl⟩
 ·exact absurd rfl j
 ·obtain⟨k,_⟩:=h.ext f fn g c;rw[k]at b;cases b
 ·exact⟨fn,fn,d,c,rfl,rfl,m,i,a⟩
 ·cases b
end
end
section
open Go.RowKit
theorem sR(op:BinOp)(x y:Int):0<=bits op .u64 x y:=by unfold bits;simp only[PQ];omega
def Fs(x k:Int):Int:=
 bits .or .u32 (IT.wrap (x*2^min (bits .and .u64 (LX.wrap k) 31).toNat 32)) (x/2^min (LX.wrap (32- bits .and .u64 (LX.wrap k) 31)).toNat 32)
def iN(x a b c:Int):Int:=bits .xor .u32 (bits .xor .u32 (Fs x (-a)) (Fs x (-b))) (Fs x (-c))
def mZ(x a b c:Int):Int:=bits .xor .u32 (bits .xor .u32 (Fs x (-a)) (Fs x (-b))) (x/2^c.toNat)
theorem DT{a b:List UInt8}(h:a=b):Vg (.string ⟨a.toArray⟩)= .returned (.string ⟨b.toArray⟩):=by rw[h]
def et(l:List UInt8):Int:=l.foldl (λn b=>256*n+(b.toNat:Int)) 0
theorem ra(l:List UInt8)(b:UInt8):et (l++[b])=256*et l+(b.toNat:Int):=by simp[et,List.foldl_append]
theorem zV(n:Nat):∀l:List UInt8,l.length=n->0<=et l/\et l<256^n:=by
 induction n with
 |zero=>intro l h;rw[List.length_eq_zero_iff]at h;subst h;simp[et]
 |succ n a=>
  intro l h;obtain⟨r,b,rfl⟩:∃r b,l=r++[b]:=⟨l.dropLast,l.getLast (by intro c;simp[c]at h),(List.dropLast_concat_getLast _).symm⟩;have:=a r (by simp at h;omega);rw[ra];have d:=b.toNat_lt;rw[Int.pow_succ];omega
theorem pY(l:List UInt8)(n:Nat)(h:l.length<=n):0<=et l/\et l<256^n:=by have a:=zV _ l rfl;refine⟨a.1,Int.lt_of_lt_of_le a.2 ?_⟩;have d:=Nat.pow_le_pow_right (n:=256) d_ h;have c:=LK 256 l.length;have b:=LK 256 n;rw[show((256:Nat):Int)=256 from rfl]at c b;rw[←c,←b];exact Int.ofNat_le.2 d
theorem I8(n:Int)(b:UInt8)(a:0<=n)(d:n<72057594037927936):bits .or .u64 (n*256) (LX.wrap (b.toNat:Int))=256*n+(b.toNat:Int):=by
 have c:=b.toNat_lt;obtain⟨m,rfl⟩:=Int.eq_ofNat_of_zero_le a;rw[PQ,Int.emod_eq_of_lt o_ o_];have e:((m:Int)*256)=((m*256:Nat):Int):=o_
 rw[e,u64_or_nat _ _ o_ o_,nat_join 8 (m*256) b.toNat o_ o_];omega
theorem KT{k:IntKind}{a b:Int}(h:a=b):Vg (.int k a)= .returned (.int k b):=by rw[h]
def cQ(n:Nat):Nat->List UInt8
 |0=>[]
 |k+1=>cQ (n/256) k++[XE n]
theorem cU(k:Nat):∀n,(cQ n k).length=k:=by
 induction k with
 |zero=>intro n;rfl
 |succ k a=>intro n;simp[cQ,a]
theorem wt(j:Nat):∀n,cQ n (j+1)=XE (n/256^j)::cQ n j:=by
 induction j with
 |zero=>intro n;simp[cQ]
 |succ j a=>
  intro n;rw[cQ,a (n/256),cQ,Nat.div_div_eq_div_mul,←Nat.pow_succ',Iv]
def bG(l:List UInt8):List Value:=l.map λb=>Value.int .u8 (b.toNat:Int)
theorem cq(l:List UInt8):(bG l).length=l.length:=by simp[bG]
def F0(n k m:Nat):List Value:=C2 m (Value.int .u8 0)++bG (cQ n (k- m))
theorem BE(n k m:Nat)(h:m<=k):(F0 n k m).length=k:=by simp[F0,cq,cU];omega
theorem EZ(n k:Nat):F0 n k k=C2 k (Value.int .u8 0):=by simp[F0,cQ,bG]
theorem K5(n k:Nat):F0 n k 0=bG (cQ n k):=by simp[F0]
theorem K4(n k p:Nat):(F0 n k (p+1))[p]?=some (Value.int .u8 0):=by rw[F0,G7 s_];simp
theorem K3(n k p:Nat)(h:p<k)(v:Int)(hv:v=((n/256^(k-(p+1)))%256:Nat)):(F0 n k (p+1)).set p (Value.int .u8 v)=F0 n k p:=by subst hv;rw[F0,F0,show k- p=(k-(p+1))+1 from o_,wt,List.replicate_succ',bG,bG,rn,ML,OF _ _ s_];simp
def aH(l:List Int):List Value:=l.map λx=>Value.int .u32 x
theorem bB(l:List Int):(aH l).length=l.length:=by simp[aH]
def GW(B:List UInt8)(i:Nat):Int:=IT.wrap (et ((B.drop (4*i)).take 4))
def E9(W:List Int)(i:Nat):Int:=
 IT.wrap (IT.wrap (IT.wrap (W.getD (i- 16) 0+mZ (W.getD (i- 15) 0) 7 18 3)+W.getD (i- 7) 0)+mZ (W.getD (i- 2) 0) 17 19 10)
theorem I9(W:List Int)(m:Nat):E9 W (m+16)=IT.wrap (IT.wrap (IT.wrap (W.getD m 0+mZ (W.getD (m+1) 0) 7 18 3)+W.getD (m+9) 0)+mZ (W.getD (m+14) 0) 17 19 10):=by rw[E9,show m+16- 16=m from o_,show m+16- 15=m+1 from o_,show m+16- 7=m+9 from o_,show m+16- 2=m+14 from o_]
def cZ(B:List UInt8):Nat->List Int
 |0=>[]
 |k+1=>cZ B k++[if k<16 then GW B k else E9 (cZ B k) k]
theorem di(B:List UInt8)(k:Nat):(cZ B k).length=k:=by
 induction k with
 |zero=>rfl
 |succ k a=>simp[cZ,a]
def dW(B:List UInt8)(k:Nat):List Int:=cZ B k++C2 (64- k) 0
theorem vi(B:List UInt8)(k:Nat)(h:k<=64):(dW B k).length=64:=by simp[dW,di];omega
theorem tQ(B:List UInt8)(k:Nat)(h:k<64)(v:Int)(hv:v=if k<16 then GW B k else E9 (cZ B k) k):(aH (dW B k)).set k (.int .u32 v)=aH (dW B (k+1)):=by subst hv;rw[dW,dW,show 64- k=(64-(k+1))+1 from o_,List.replicate_succ,aH,aH,cZ];rw[Vt,OF _ _ (by simp[di])];simp[di]
theorem ma(B:List UInt8)(k j:Nat)(h:j<k):(aH (dW B k))[j]?=some (.int .u32 ((cZ B k).getD j 0)):=by rw[dW,aH,Vt,G7 (by simp[di];omega)];simp[di,h]
theorem rW(B:List UInt8)(k:Nat)(a:k<64):(aH (dW B k))[k]?=some (.int .u32 0):=by rw[dW,aH,Vt,BP (by simp[di])];rw[List.map_replicate,List.getElem?_replicate,if_pos (by simp[di];omega)]
theorem zt(B:List UInt8):dW B 64=cZ B 64:=by simp[dW]
theorem iH(l:List Int):∀v∈aH l,v.oneCell'=true:=by intro v a;simp only[aH,VJ]at a;obtain⟨x,_,rfl⟩:=a;rfl
theorem uG(l:List UInt8):∀v∈bG l,v.oneCell'=true:=by intro v a;simp only[bG,VJ]at a;obtain⟨x,_,rfl⟩:=a;rfl
theorem iv{p:Tmp}{ty:TypeId}(h:fn.results=#[.cell p ty])(tmps:Array Value)(w:World)(b o:Nat)(cs:List Value)(d:TypeDesc)
 (e:tmps.getD p undef= .pk b o) (i:w.rangeAt b o cs)
 (c:P.underlying ty=some d) (g:d.isRow=true) (f:(P.info? ty).map (·.size)=some cs.length):
 (results fn tmps).run P w= .ok (.agg cs.toArray) w:=by
 have a:tmps[p]?.getD undef= .pk b o:=by simpa using e
 simp[results,h,a,asAddr,run_loadVar_mid w b o ty cs d i c g f]
theorem dS{B:Nat}(a:B<=b):∀(c:List Value) (o:Nat) (w0 w:World),Below B w0 w->Below B w0 (w.setCells b o c)
 |[],_,_,_,h=>h
 |v::r,o,w0,w,h=>by rw[ZR];exact dS a r (o+1) w0 _ (h.setCell (p:=⟨b,o,none⟩) a v)
theorem KU{a b:List Value}(h:a=b):Vg (.agg a.toArray)= .returned (.agg b.toArray):=by rw[h]
theorem fp(z:Value)(n:Nat):madeCells #[z] n=(C2 n z).toArray:=by
 apply Wq
 ·simp[madeCells]
 ·intro i b a;simp[madeCells,Nat.mod_one]
theorem dZ(w:World)(L:List Value)(t:TypeId)(b:Nat)(c:b=w.heap.size):(w.alloc (.cells L.toArray t)).rangeAt b 0 L:=λj v a=>by rw[qV,Pf _ _ _ _ c];simpa using a
theorem fk(w:World)(c:Array Value)(t:TypeId)(b n:Nat)(a:b=w.heap.size)(d:c.size=n):(w.alloc (.cells c t)).there b 0 n:=λj e=>by rw[qV,Pf _ _ _ _ a,World.frozen?_alloc_at _ _ _ _ a];simp[d,e]
theorem aS{B o:Nat}{L:List Value}(h:Below B w w')(d:b<B)(c:w.rangeAt b o L):w'.rangeAt b o L:=λj v a=>by rw[h.cell (p:=⟨b,o+j,none⟩) d];exact c j v a
theorem fC{B o:Nat}(h:Below B w w')(a:b<B)(c:w.there b o n):w'.there b o n:=λj d=>by rw[h.cell (p:=⟨b,o+j,none⟩) a,h.frozen (p:=⟨b,o+j,none⟩) a];exact c j d
end
end Go.Proofs.YtkmoglhgkcnalabGreatDoor
namespace Go.Proofs.YtkmoglhgkcnalabGreatDoor
open Go.RowKit
structure St where
 a:Int
 b:Int
 c:Int
 d:Int
 e:Int
 f:Int
 g:Int
 h:Int
def St.t(s:St)(k w:Int):Int:=
 IT.wrap (IT.wrap (IT.wrap (IT.wrap (s.h+iN s.e 6 11 25)+bits .xor .u32 (bits .and .u32 s.e s.f) (bits .and .u32 (bits .xor .u32 4294967295 s.e) s.g))+k)+w)
def St.u(s:St):Int:=
 IT.wrap (iN s.a 2 13 22+bits .xor .u32 (bits .xor .u32 (bits .and .u32 s.a s.b) (bits .and .u32 s.a s.c)) (bits .and .u32 s.b s.c))
def St.next(s:St)(k w:Int):St:=
 ⟨IT.wrap (s.t k w+s.u),s.a,s.b,s.c,IT.wrap (s.d+s.t k w),s.e,s.f,s.g⟩
def St.of(H:List Int):St:=⟨H.getD 0 0,H.getD 1 0,H.getD 2 0,H.getD 3 0,H.getD 4 0,H.getD 5 0,H.getD 6 0,H.getD 7 0⟩
def St.list(s:St):List Int:=[s.a,s.b,s.c,s.d,s.e,s.f,s.g,s.h]
def dX(K W H:List Int):Nat->St
 |0=>St.of H
 |i+1=>(dX K W H i).next (K.getD i 0) (W.getD i 0)
def II(K H:List Int)(B:List UInt8):List Int:=(dX K (cZ B 64) H 64).list
def ij(H G:List Int)(k:Nat):List Int:=(Ak 8).map λi=>if i<k then IT.wrap (H.getD i 0+G.getD i 0)else H.getD i 0
def rh(K H:List Int)(B:List UInt8):List Int:=ij H (II K H B) 8
theorem qa(H G:List Int)(k:Nat):(ij H G k).length=8:=by simp[ij]
theorem nv(K H:List Int)(B:List UInt8):(rh K H B).length=8:=qa _ _ _
theorem zZ(H G:List Int)(h:H.length=8):ij H G 0=H:=by
 apply Zo
 ·simp[ij,h]
 ·intro i h1 h2;simp[ij,List.getD,AS h2]
theorem FI(H G:List Int)(k:Nat)(h:k<8):(aH (ij H G k))[k]?=some (.int .u32 (H.getD k 0)):=by simp[ij,aH,h]
theorem FH(H G:List Int)(k:Nat)(v:Int)(hv:v=IT.wrap (H.getD k 0+G.getD k 0)):(aH (ij H G k)).set k (.int .u32 v)=aH (ij H G (k+1)):=by
 subst hv;apply Zo
 ·simp[ij,aH]
 ·intro i h1 h2;simp only[ij,aH,List.map_map,List.getElem_set,List.getElem_map,List.getElem_range,Function.comp];by_cases e:k=i
  ·subst e;simp
  ·rw[if_neg e];by_cases e2:i<k
   ·rw[if_pos e2,if_pos o_]
   ·rw[if_neg e2,if_neg o_]
theorem Qx(s:St)(k w:Int):(s.h+iN s.e 6 11 25+bits .xor .u32 (bits .and .u32 s.e s.f) (bits .and .u32 (bits .xor .u32 (if IT.signed=true then-1 else IT.max) s.e) s.g)+k+w)%4294967296=s.t k w:=by
 have e:(if IT.signed=true then-1 else IT.max)=(4294967295:Int):=d_
 rw[e,St.t];simp only[QY];omega
theorem RR(s:St):(iN s.a 2 13 22+bits .xor .u32 (bits .xor .u32 (bits .and .u32 s.a s.b) (bits .and .u32 s.a s.c)) (bits .and .u32 s.b s.c))%4294967296=s.u:=by rw[St.u,QY]
theorem O5(s:St)(k w:Int):((s.h+iN s.e 6 11 25+bits .xor .u32 (bits .and .u32 s.e s.f) (bits .and .u32 (bits .xor .u32 (if IT.signed=true then-1 else IT.max) s.e) s.g)+k+w)%4294967296+
 (iN s.a 2 13 22+bits .xor .u32 (bits .xor .u32 (bits .and .u32 s.a s.b) (bits .and .u32 s.a s.c)) (bits .and .u32 s.b s.c))%4294967296)%4294967296=(s.next k w).a:=by rw[Qx,RR,St.next,QY]
theorem O4(s:St)(k w:Int):(s.d+(s.h+iN s.e 6 11 25+bits .xor .u32 (bits .and .u32 s.e s.f) (bits .and .u32 (bits .xor .u32 (if IT.signed=true then-1 else IT.max) s.e) s.g)+k+w)%4294967296)%4294967296=(s.next k w).e:=by rw[Qx,St.next,QY,QY]
end Go.Proofs.YtkmoglhgkcnalabGreatDoor
namespace Go.Proofs.YtkmoglhgkcnalabGreatDoor
open Go
variable{n b i N l m k j b3 b4 b7 b9 Wg wd:Nat}{w w' w0 wL wM wE:World}{fr:Frame}{v:Value}{cs:List Frame}{args cv:Array Value}{V RO D V0:Nat->Prop}{q main listen ql:Bool}{g:Goroutine}{a:Act}{K:List Item}{P PL PM:Program}{x:Operand}{ops:Array Oper}{KS:List Int}{t u:TypeId}{o:Oper}{f:FuncId}{es:Array Event}{Goal:Goroutine->World->Prop}{fn:Func}{rest:List Nat}{ds:List Deferred}{F:List (Nat×Value)}{e:Event}{listed:Array Bool}{c:Int}{s msg key sig:ByteArray}{ρ:Nat->Nat}{ev:Operand->Value}{Post:Value->World->Prop}
section
open Go.RowKit
theorem CK(L:List Int)(k:Nat)(h:k<L.length):(aH L)[k]?=some (.int .u32 (L.getD k 0)):=by simp[aH,h]
theorem NS{o:Nat}{L:List Int}(h:w.rangeAt b o (aH L))(k:Nat)(a:k<L.length):w.cell? ⟨b,o+k,none⟩=some (.int .u32 (L.getD k 0)):=h k _ (CK L k a)
theorem hY{L:List Int}(h:w.rangeAt b 0 (aH L))(k:Nat)(a:k<L.length):w.cell? ⟨b,k,none⟩=some (.int .u32 (L.getD k 0)):=by have:=NS h k a;rwa [qV]at this
structure Q1 (w M:World) (H KS S:List Int) (c:Nat):Prop where
 below:Bw w M
 hrow:M.rangeAt w.heap.size 0 (aH H)
 hthere:M.there w.heap.size 0 8
 res:M.there (w.heap.size+1+1) 0 8
 srow:M.rangeAt c 0 (aH S)
 krow:M.rangeAt 0 0 (aH KS)
theorem FG(w b:World)(H KS S:List Int)(B:List UInt8)(T i h:TypeId)(e a:Array Value)(n:e.size=8)(g:a.size=64)(k:S.length=64)(m:H.length=8)
 (l:w.rangeAt 0 0 (aH KS)) (o:0<w.heap.size)
 (d:Below (((w.alloc (.cells (aH H).toArray T)).alloc (.cells (bG B).toArray i)).alloc (.cells e T)).heap.size (((w.alloc (.cells (aH H).toArray T)).alloc (.cells (bG B).toArray i)).alloc (.cells e T)) b):
 Q1 w ((b.alloc (.cells a h)).setCells b.heap.size 0 (aH S)) H KS S b.heap.size:=by
 have j:=d.size;simp at j;have c:Bw w b:=((((Below.refl _ _).alloc (d8 _) _).alloc s_ _).alloc (by simp;omega) _).trans (d.mono (by simp;omega));have f:(b.alloc (.cells a h)).there b.heap.size 0 (aH S).length:=by rw[bB,k];exact fk _ _ _ _ _ rfl g
 refine⟨dS o_ _ _ _ _ (c.alloc o_ _), ?_, ?_, ?_, ?_, ?_⟩
 ·refine MK (R3 (aS d (by simp;omega) (R3 (R3 (dZ _ _ _ _ rfl) _) _)) _) _ _ _ (Yb o_)
 ·refine Vm (WA (fC d (by simp;omega) (WA (WA (fk _ _ _ _ _ rfl (by simp[bB,m])) _) _)) _) _ _ _
 ·refine Vm (WA (fC d s_ (fk _ _ _ _ _ s_ n)) _) _ _ _
 ·exact J3 _ _ _ _ f
 ·refine MK (R3 (aS c o l) _) _ _ _ (Yb o_)
theorem N9{c:Code}{Q:Exit->Act->World->Prop}{W:World}(b:World->Prop)(h:b W)(k:∀M,b M->Code.wp P c Q a M):Code.wp P c Q a W:=k W h
theorem vM{o:Nat}(h:w.there b o n)(a k:Nat)(v:Value):(w.setCell ⟨a,k,none⟩ v).there b o n:=Vm h a k [v]
theorem Fv{L:List Value}(h:w.rangeAt b 0 L)(v:Value):(w.setCell ⟨b,k,none⟩ v).rangeAt b 0 (L.set k v):=λj u a=>by
 rw[qV];have d:j<L.length:=by have:=(qw.1 a).1;simpa using this
 have c:=h j _ (AS d);rw[qV]at c;by_cases e:k=j
 ·subst e;rw[World.cell?_setCell_same _ _ _ c];simp[d]at a;rw[a]
 ·rw[World.cell?_setCell_other _ _ _ _ (λh=>e (by injection h)),c];rw[List.getElem?_set_ne e,AS d]at a;exact a
def H0:List Int:=[1779033703,3144134277,1013904242,2773480762,1359893119,2600822924,528734635,1541459225]
def cY(KS:List Int)(L:List UInt8):Nat->List Int
 |0=>H0
 |n+1=>rh KS (cY KS L n) ((L.drop (64*n)).take 64)
theorem dC(KS:List Int)(L:List UInt8)(n:Nat):(cY KS L n).length=8:=by
 cases n with
 |zero=>rfl
 |succ n=>exact nv _ _ _
theorem kP(KS:List Int)(L p:List UInt8):∀n,64*n<=L.length->cY KS (L++p) n=cY KS L n
 |0,_=>rfl
 |n+1,h=>by rw[cY,cY,kP KS L p n o_,Vy o_,We (by simp;omega)]
def ig(blk q:List UInt8)(h:Nat):List UInt8:=blk.take h++q++blk.drop (h+q.length)
theorem i1(a q:List UInt8)(h:Nat)(b:a.length=64)(c:h+q.length<=64):(ig a q h).length=64:=by simp[ig,b];omega
theorem ud(a q:List UInt8)(h:Nat)(c:a.length=64)(b:h+q.length<=64):(ig a q h).take (h+q.length)=a.take h++q:=by rw[ig,We (by simp;omega),LP (by simp;omega)]
theorem F5(a L q:List UInt8)(e:a.length=64)(d:a.take (L.length%64)=L.drop (64*(L.length/64)))(f:L.length%64+q.length<64):
 (L++q).length/64=L.length/64/\(L++q).length%64=L.length%64+q.length/\
 (ig a q (L.length%64)).take ((L++q).length%64)=(L++q).drop (64*((L++q).length/64)):=by
 have c:(L++q).length/64=L.length/64:=by simp;omega
 have b:(L++q).length%64=L.length%64+q.length:=by simp;omega
 refine⟨c,b, ?_⟩;rw[c,b,ud _ _ _ e o_,d,Vy o_]
theorem F6(KS:List Int)(a L q:List UInt8)(c:a.length=64)(d:a.take (L.length%64)=L.drop (64*(L.length/64)))(f:L.length%64+q.length=64):
 (L++q).length/64=L.length/64+1/\(L++q).length%64=0/\(L++q).drop (64*((L++q).length/64))=[]/\
 cY KS (L++q) ((L++q).length/64)=rh KS (cY KS L (L.length/64)) (ig a q (L.length%64)):=by
 have b:(L++q).length/64=L.length/64+1:=by simp;omega
 have g:(L++q).length%64=0:=by simp;omega
 refine⟨b,g, ?_, ?_⟩
 ·rw[b,List.drop_eq_nil_iff];simp;omega
 ·rw[b,cY,kP _ _ _ _ o_]
  congr 1
  have e:(ig a q (L.length%64)).take 64=a.take (L.length%64)++q:=by
   have:=ud a q (L.length%64) c o_
   rwa [f]at this
  rw[LP (by rw[i1 _ _ _ c o_];omega)]at e;rw[e,d,Vy o_,LP (by simp;omega)]
structure eW (w:World) (b:Nat) (KS:List Int) (L blk:List UInt8) (n:Nat):Prop where
 len:blk.length=64
 words:w.rangeAt b 0 (aH (cY KS L (L.length/64)))
 block:w.rangeAt b 8 (bG blk)
 length:w.cell? ⟨b,72,none⟩=some (.int .u64 (n:Int))
 tail:blk.take (L.length%64)=L.drop (64*(L.length/64))
 there:w.there b 0 73
theorem lj{o o' a:Nat}(h:w.there b o n)(e:o<=o')(d:o'+a<=o+n):w.there b o' a:=λj c=>by
 have:=h (o'+j- o) o_
 rwa [show o+(o'+j- o)=o'+j from o_]at this
theorem xM(w:World)(T ty e:TypeId)(p:P.underlying T=some (.slice e))(k:(P.info? e).isSome=true)(q:TypeId)(b o a d n:Nat)(s:ByteArray)(l:Nat.min s.size a=n)(f:w.there b o n):
 (W4 #[T,q] ty #[.slice (some ⟨b,o,none⟩) a d, .s s]).run P w= .ok (goInt n) (w.setCells b o (bG (s.data.toList.take n))):=by
 cases g:P.info? e with
 |none=>simp[g]at k
 |some i=>
  have h:(s.data.toList.take n).map (λb:UInt8=>Value.int .u8 (b.toNat:Int))=bG (s.data.toList.take n):=rfl;have r:(bG (s.data.toList.take n)).length<=n:=by simp[bG];omega
  have c:=run_storeCells_cells (P:=P) b o (bG (s.data.toList.take n)) 0 w (λj m=>by simpa using(f j o_).1) (λj m=>by simpa using(f j o_).2) (uG _);simp only[Nat.add_zero]at c;simp[W4,run_underlying p,Builtin.lenOf,l,sizeOf,typeInfo,g,Builtin.firstCells];rw[List.map_take]at h;rw[h,c];rfl
theorem eW.copied{L c:List UInt8}(h:eW w b KS L c n)(q:List UInt8)(g:L.length%64+q.length<=64):
 (w.setCells b (8+L.length%64) (bG q)).rangeAt b 8 (bG (ig c q (L.length%64)))/\
 (w.setCells b (8+L.length%64) (bG q)).rangeAt b 0 (aH (cY KS L (L.length/64)))/\
 (w.setCells b (8+L.length%64) (bG q)).cell? ⟨b,72,none⟩=some (.int .u64 (n:Int))/\
 (w.setCells b (8+L.length%64) (bG q)).there b 0 73:=by
 have f:(bG q).length=q.length:=cq q;refine⟨?_, ?_, ?_,Vm h.there _ _ _⟩
 ·intro j v d;have e:w.there b (8+L.length%64) (bG q).length:=lj h.there o_ o_;have k:j<64:=by
   have:=(qw.1 d).1
   rwa [cq,i1 _ _ _ h.len g]at this
  rw[bG,IS,By]at d;obtain⟨x,a,rfl⟩:=d;by_cases i:j<L.length%64
  ·rw[W6 b _ _ _ _ (λ_ _=>Yb (by show 8+j<8+L.length%64;omega))];refine h.block j _ ?_;rw[ig,ML,G7 (by simp[h.len];omega),List.getElem?_take_of_lt i]at a;rw[bG,IS,a];rfl
  ·by_cases l:j<L.length%64+q.length
   ·have:=J3 w b (8+L.length%64) (bG q) e (j- L.length%64) (.int .u8 (x.toNat:Int)) (by rw[ig,ML,BP (by simp;omega),G7 (by simp[h.len];omega)]at a;simp only[Yi,h.len]at a;rw[show min (L.length%64) 64=L.length%64 from o_]at a;rw[bG,IS,a];rfl)
    rwa [show 8+L.length%64+(j- L.length%64)=8+j from o_]at this
   ·rw[W6 b _ _ _ _ (λ_ _=>Z2 (by show 8+L.length%64+(bG q).length<=8+j;omega))];refine h.block j _ ?_;rw[ig,BP (by simp[h.len];omega),List.getElem?_drop]at a;simp only[List.length_append,Yi,h.len]at a;rw[show L.length%64+q.length+(j-(min (L.length%64) 64+q.length))=j from o_]at a;rw[bG,IS,a];rfl
 ·exact MK h.words _ _ _ (Z2 (Yb (by rw[bB,dC];omega)))
 ·rw[W6 b _ _ _ _ (λ_ _=>Z2 (by show 8+L.length%64+(bG q).length<=72;omega))];exact h.length
theorem eW.setLen{L a:List UInt8}(h:eW w b KS L a n)(m:Nat):eW (w.setCell ⟨b,72,none⟩ (.int .u64 (m:Int))) b KS L a m:=by
 have e:w.setCell ⟨b,72,none⟩ (.int .u64 (m:Int))=w.setCells b 72 [.int .u64 (m:Int)]:=rfl;rw[e];exact⟨h.len,MK h.words _ _ _ (Z2 (Yb (by rw[bB,dC];omega))),MK h.block _ _ _ (Z2 (Yb (by rw[cq,h.len];omega))),
  by have:=J3 w b 72 [.int .u64 (m:Int)] (lj h.there o_ s_) 0 _ rfl;exact this,h.tail,Vm h.there _ _ _⟩
theorem eJ{a b c:World}{row:Option Nat}(h:a.grownBy b row)(k:b.grownBy c row):a.grownBy c row:=
 ⟨k.os.trans h.os,k.tape.trans h.tape,k.output.trans h.output,z9 h.size k.size,λi e d=>(k.block i (gK e h.size) d).trans (h.block i e d)⟩
theorem sr{row:Option Nat}(h:Bw w w'):w.grownBy w' row:=⟨h.os,h.tape,h.output,h.size,λk a _=>h.block k a⟩
theorem oG(w:World)(b o:Nat)(v:Value):w.grownBy (w.setCell ⟨b,o,none⟩ v) (some b):=
 ⟨rfl,rfl,rfl,by simp[BO],λk _ a=>Below.heap_setCell _ _ _ _ (λe=>a (by rw[e]))⟩
theorem eG(b:Nat):∀(a:List Value) (o:Nat) (w:World),w.grownBy (w.setCells b o a) (some b)
 |[],_,w=>World.grownBy.refl w _
 |v::r,o,w=>eJ (oG w b o v) (eG b r (o+1) _)
theorem eW.more{L a:List UInt8}(h:eW w b KS L a n)(q:List UInt8)(e:L.length%64+q.length<64):
 eW (w.setCells b (8+L.length%64) (bG q)) b KS (L++q) (ig a q (L.length%64)) n:=by obtain⟨j,i,g,f⟩:=h.copied q o_;obtain⟨d,k,c⟩:=F5 a L q h.len h.tail e;exact⟨i1 _ _ _ h.len o_,by rw[d,kP _ _ _ _ o_];exact i,j,g,c,f⟩
theorem eW.full{e:World}{L a:List UInt8}(h:eW w b KS L a n)(q:List UInt8)(k:L.length%64+q.length=64)
 (d:Below w.heap.size (w.setCells b (8+L.length%64) (bG q)) e) (c:b<w.heap.size):
 eW (e.setCells b 0 (aH (rh KS (cY KS L (L.length/64)) (ig a q (L.length%64))))) b KS (L++q) (ig a q (L.length%64)) n:=by
 obtain⟨r,u,o,m⟩:=h.copied q o_;obtain⟨s,j,i,g⟩:=F6 KS a L q h.len h.tail k;have t:(aH (rh KS (cY KS L (L.length/64)) (ig a q (L.length%64)))).length=8:=by rw[bB,nv]
 have l:=aS d c r;have f:=fC d c m;refine⟨i1 _ _ _ h.len o_, ?_,MK l _ _ _ (Z2 (Z2 o_)), ?_, ?_,Vm f _ _ _⟩
 ·rw[g];exact J3 _ _ _ _ (lj f o_ o_)
 ·rw[W6 b _ _ _ _ (λ_ _=>Z2 (by show 0+_<=72;omega)),d.cell (p:=⟨b,72,none⟩) c];exact o
 ·rw[j,i];rfl
theorem kF(b:Nat):∀(a:List Value) (o:Nat) (w:World),(w.setCells b o a).heap.size=w.heap.size
 |[],_,_=>rfl
 |v::r,o,w=>by rw[ZR,kF b r (o+1)];simp[BO]
theorem zF{row:Option Nat}{o:Nat}{L:List Value}(h:w.grownBy w' row)(d:w.rangeAt b o L)(a:some b≠row):w'.rangeAt b o L:=λj v c=>h.cell (d j v c) a
theorem JX{K:Act->World->Prop}{Q:Exit->Act->World->Prop}(f:FuncId)(args:Array Value)(c:(execOp a.eval o).run P w= .ok (.enter f args) w)(v:Value)(R:World->Prop)
 (g:Calls P f args w λe b=>e= .returned v/\R b) (h:∀b,R b->K (a.put o.dst v) b):o.wp P a w K Q:=by unfold Oper.wp;rw[c,Oper.upon_enter];refine g.mono λe b d=> ?_;obtain⟨rfl,i⟩:=d;exact h _ i
theorem mi{o:Nat}{L:List Value}(h:w.rangeAt b o L):(World.drew w).rangeAt b o L:=(World.rangeAt_drew w b o L).2 h
theorem yV{Q:Exit->Act->World->Prop}{K:Act->World->Prop}(b:ops[i]?=some o)(c:o.guard=none)(h:o.wp P a w K Q):wpOp P ops Q i K a w:=by unfold wpOp;simp only[b];rw[if_pos (by simp[jd,c])];exact .inl h
theorem vI{Q:Exit->Act->World->Prop}{K:Act->World->Prop}(d:ops[i]?=some o)(g:o.guard=none)(f:FuncId)(args:Array Value)(c:(execOp a.eval o).run P w= .ok (.enter f args) w)(v:Value)(R:World->Prop)
 (j:Calls P f args w λe b=>e= .returned v/\R b) (h:∀b,R b->K (a.put o.dst v) b):wpOp P ops Q i K a w:=yV d g (JX f args c v R j h)
theorem wT{md:Region.Mode}{Q:Exit->Act->World->Prop}{d:Oper}{b:Nat}(i:Nat)(v:Value)
 (h:wpAny P md ops Q b (listed.setIfInBounds i true) (a.put d.dst v) w) (j:ops[i]?=some d:=by rfl) (f:Region.noSelect ops=true:=by kernel_rfl) (k:Region.free md ops listed i=true:=by kernel_rfl) (g:(Region.ready md ops listed).contains i=true:=by kernel_rfl)
 (l:∀c a w,Q (.panic c) (a.put d.dst v) w->Q (.panic c) a w:=by exact λ_ _ _ h=>h) (e:Yields P ops d v a:=by exact Or.inl ⟨by rfl,by intro w;go_simp⟩):wpAny P md ops Q (b+1) listed a w:=wpAny_take j f k g l e h
theorem Ma{p:Nat->Prop}{x y:Nat}(c:p x)(b:p y):∀i∈[x,y],p i:=by
 intro i a;rcases AI.1 a with rfl|a
 ·exact c
 ·rw[NQ]at a;subst a;exact b
theorem ov{p:Nat->Prop}{x:Nat}(b:p x):∀i∈[x],p i:=by intro i a;rw[NQ]at a;subst a;exact b
end
section
open Go Go.Conc
open Go.ConcN (sumTo upd sumTo_upd upd_ne upd_same)
def dK(P:Program)(Post:Value->World->Prop)(m:Machine)(t:Trace):Prop:=
 ∃N last o w' t',runNT P (N+1) m t=(.ended o w',t')/\runN P N m= .next last/\step P last= .ended o w'/\a06 P Post last o w' t'
section
variable{Stop:Goroutine->World->Prop}
theorem dK.next{m b:Machine}{t ops:Trace}(h:stepT P m=(.next b,ops))(j:dK P Post b (t++ops)):dK P Post m t:=by obtain⟨N,a,o,c,d,i,g,f,e⟩:=j;exact⟨N+1,a,o,c,d,by rw[runNT];simp only[h];exact i,by rw[runN];simp only[step,h];exact g,f,e⟩
theorem dK.now{m:Machine}{t ops:Trace}{o:Outcome}(h:stepT P m=(.ended o w,ops))(a:a06 P Post m o w (t++ops)):dK P Post m t:=
 ⟨0,m,o,w,t++ops,by simp[runNT,h],rfl,by simp[step,h],a⟩
def MY(PL:Program)(g:Goroutine)(w:World)(g2:Goroutine)(w2:World):Prop:=
 ∃τ d g1 w1 es,stepG PL true g (lx w τ d)= .go g1 w1 es/\StepsIn (λ_=>True) PL (solo g1 w1) (solo g2 w2)
theorem yZ{C:Goroutine->World->Prop}(i:∀g w,Stop g w->∀k d,∃o s es,stepG PL true g (lx w k d)= .ended o s es)
 (h:∀g w,gE PL Stop g w->gQ g->(∀f c,MY PL g w f c->C f c)->C g w)   (y:gE PL Stop g w) (p:gQ g):C g w:=by
 have v:∀g w,gE PL Stop g w->gQ g->∀f c,StepsIn (λ_=>True) PL (solo g w) (solo f c)->C f c:=by
  intro g w y;induction y with
  | @stop g w z=>
    intro p f c b;have B:C g w:=h g w (.stop z) p λf c ⟨k,d,G,s,es,e,_⟩=>by obtain⟨_,_,_,r⟩:=i g w z k d;rw[r]at e;cases e
    generalize t:solo g w=m at b;generalize j:solo f c=E at b;cases b with
    |refl=>
     obtain⟨rfl,rfl⟩:=iW (t.trans j.symm);exact B
    |head _ a _=>
     exfalso;subst t;obtain⟨o,s,es,e⟩:=i g w z w.tape w.drawn;have r:stepG PL true g w= .ended o s es:=e;rw[step,stepT_solo p.1]at a;simp[runT,solo,WO,Yr,r]at a
  | @go g w n A l x D=>
    intro p f c b;have B:C g w:=h g w (.go n A l x) p λf c ⟨k,d,G,s,es,e,F⟩=>by obtain⟨u,r⟩:=A k d;rw[r]at e;cases e;exact D k d (l k d) f c F
    generalize t:solo g w=m at b;generalize j:solo f c=E at b;cases b with
    |refl=>
     obtain⟨rfl,rfl⟩:=iW (t.trans j.symm);exact B
    | @head _ I _ _ a q=>
      subst t j;obtain⟨u,r⟩:=A w.tape w.drawn;have H:stepG PL true g w= .go (n w.tape w.drawn).1 (n w.tape w.drawn).2 u:=r;rw[step,stepT_solo p.1,runT_solo_go H]at a;simp only[Yq.injEq]at a;subst a;exact D w.tape w.drawn (l _ _) f c q
 exact v g w y p g w (.refl _)
end
def ee(S:Nat->Prop):Loc->Prop
 | .cell a=>S a.block
 | .obj r=>S r
 |_=>False
def eZ(S:Nat->Prop)(l:Loc):Prop:=ee S l\/l.isMemory=false
section
variable{Stop:Goroutine->World->Prop}{G T:Nat}
theorem J0{o:Nat->Nat}{wL p:World}{S:Nat->Prop}(t:cR G T D o wL p)(C:eP<G)(w:∀b,D b->¬S (o b))(u:∀r,S r->G<=r)(g:iL D o e\/uW e):EvL (eZ S) p.heap.size e:=by
 rcases g with g|⟨a,B,rfl⟩
 ·obtain⟨q,v,A⟩:=e;cases q with
  |cell a=>
   obtain⟨rfl,b,n,l⟩:=g;have s:¬eZ S (.cell a):=by
    rintro(h|h)
    ·have y:S a.block:=h;rw[←l]at y;exact w b n y
    ·cases h
   have d:a.block<p.heap.size:=(by rw[←l];exact t.ltM n);exact evL_cell a v s d
  |obj r=>
   obtain⟨rfl,b,n,rfl⟩:=g;have d:=t.ltM n;refine⟨λx k c=> ?_,s_,s_, ?_⟩
   ·have j:(Gg ⟨.obj (o b),v,false⟩).touch?=some x:=k;simp only[Gg,KL,Option.some.injEq]at j;subst j;exact c.elim (λh=>absurd h (w b n)) λh=>by cases h
   ·simp only[Gg,a22,Loc.low];exact d
  |mark m=>
   have z:fH m=true:=g;cases m with
   |extern f=>exact⟨λx k=>(by cases k),(by intro i;cases i),(by intro i;cases i),trivial⟩
   |noRoom=>exact⟨λx k=>(by cases k),(by intro i;cases i),(by intro i;cases i),trivial⟩
   |_=>simp[fH]at z
  |output=>exact g.elim
  |goroutines=>exact g.elim
 ·refine evL_cell a false (λc=> ?_) (by have:=t.far;omega);rcases c with c|c
  ·have:S a.block:=c;have:=u _ this;omega
  ·cases c
end
section
variable{Stop:Goroutine->World->Prop}{G T:Nat}
theorem cA{g:Nat}{fn:FuncId}{pos:String}:∀op∈IR g fn pos es,op.g=g:=λop a=>by obtain⟨e,_,rfl⟩:=F8 a;rfl
theorem qc{t:Trace}{gs:Array Goroutine}{q:Nat->Nat}(h:Leavers P t gs q)(a a':Goroutine)(w':World)(fn:FuncId)(pos:String)(es:Array Event)(d:0<gs.size):
 Leavers P (t++IR 0 fn pos es) ((gs.map (woken P a a' w')).setIfInBounds 0 a') q:=by
 refine⟨λi g l e=> ?_,λj k=> ?_⟩
 ·rw[sN o_,wZ]at e;obtain⟨y,f,rfl⟩:=By.1 e;have c:=h.old i y l f;rw[woken_quitsD c,Deaf_other t (g':=0) o_ _ cA];exact c
 ·have b:gs.size<=j:=by simpa using k
  rw[Deaf_other t (g':=0) o_ _ cA];exact h.above j b
theorem Im{t:Trace}{gs:Array Goroutine}{q:Nat->Nat}(h:Leavers P t gs q){g':Goroutine}(d:i<gs.size)(w':World)(es:Array Event)(m:QuitsD P k (deafBehind (Deaf t i) es) g'):
 Leavers P (t++IR i g.frame.fn g.frame.place es) ((gs.map (woken P g g' w')).setIfInBounds i g') (upd q i k):=by
 refine⟨λj x f c=> ?_,λj f=> ?_⟩
 ·by_cases a:i=j
  ·subst a;rw[kg (by simpa using d)]at c;cases c;rw[upd_same,Deaf_own];exact m
  ·rw[sN a,wZ]at c;obtain⟨y,l,rfl⟩:=By.1 c;have b:=h.old j y f l;rw[woken_quitsD b,upd_ne q k (LZ a),Deaf_other t a _ cA];exact b
 ·have e:gs.size<=j:=by simpa using f
  rw[Deaf_other t (g':=i) o_ _ cA];exact h.above j e
theorem A0{t:Trace}{gs:Array Goroutine}{q:Nat->Nat}(h:Leavers P t gs q){a:Goroutine}(c:gs[0]?=some a)(d:a.status= .running):∀g∈gs,Conc.awake g:=by
 intro g e;obtain⟨i,b,rfl⟩:=Array.mem_iff_getElem.1 e;by_cases f:i=0
 ·subst f;rw[jm b]at c;cases c;exact awake_of (.inl d)
 ·exact awake_of ((h.old i _ o_ (jm b)).status.elim .inl λx=> .inr (.inr x))
theorem C5{c:Loc->Prop}{t:Trace}(h:Quiet c t){g:Nat}{fn:FuncId}{pos:String}(d:∀e∈es,e.mute=true):Quiet c (t++IR g fn pos es):=
 h.app λi b x a _=>by obtain⟨e,f,rfl⟩:=F8 b;have:=touch_mute (d e f);simp only at a;rw[this]at a;cases a
theorem Kb{S:Nat->Prop}{B:Nat}{a:Goroutine}(z:a.status= .running)(w:World):
 ∀(M:Nat) (gs:Array Goroutine) (h:Nat) (sl:Option (Nat×Nat)) (t:Trace) (q:Nat->Nat),sumTo gs.size q<=M->gs[0]?=some a->Leavers P t gs q->Past (eZ S) B t->Quiet (eZ S) t->(∀op∈t,op.g<gs.size)->
  (∀c h v d b u K,c[0]?=some a->Leavers P u c K->Past (eZ S) B u->Quiet (eZ S) u->(∀op∈u,op.g<c.size)->stepT P (crowd c (w.at h) v)=runT P (crowd c (w.at d) b) 0->dK P Post (crowd c (w.at h) v) u)->
  dK P Post (crowd gs (w.at h) sl) t:=by
 intro M;induction M with
 |zero=>
  intro gs h sl t q O o n F E D C;obtain⟨i,g,d,b,s,r,j⟩:=crowd_pick (P:=P) (w:=w.at h) (sl:=sl) (A0 n o z) ⟨0,a,o,z⟩;by_cases m:i=0
  ·subst m;exact C gs h sl d b t q o n F E D j
  ·exfalso;have p:=n.old i g o_ s;have f:i<gs.size:=(gA s).1;have l:q i=0:=by have Q:sumTo gs.size (upd q i 0)+q i=sumTo gs.size q+0:=sumTo_upd q 0 id f;omega
   rw[l]at p;rw[p.1]at r;cases r
 |succ M L=>
  intro gs h sl t q O o n F E D C;obtain⟨i,g,d,b,s,r,j⟩:=crowd_pick (P:=P) (w:=w.at h) (sl:=sl) (A0 n o z) ⟨0,a,o,z⟩;by_cases m:i=0
  ·subst m;exact C gs h sl d b t q o n F E D j
  ·have A:0<i:=o_;have p:=n.old i g A s;have f:i<gs.size:=(gA s).1;have H:(i==0)=false:=(by simpa using m);cases l:q i with
   |zero=>rw[l]at p;rw[p.1]at r;cases r
   |succ k=>
    rw[l]at p;rcases p with⟨N,_⟩|⟨_,T,R,J,x,G⟩
    ·rw[N]at r;cases r
    ·have y:=runT_crowd_go (P:=P) (sl:=b) (i:=i) s (by rw[H];exact x ((w.at h).at d));have I:sumTo gs.size (upd q i k)+(k+1)=sumTo gs.size q+k:=by have Q:sumTo gs.size (upd q i k)+q i=sumTo gs.size q+k:=sumTo_upd q k id f;omega
     refine dK.next (j.trans y) ?_;refine L _ d b _ (upd q i k) (by simp only[MZ,M1];omega) ?_ (Im n f _ R G) (F.mute o_ J) (C5 E J) (λop e=> ?_) C
     ·rw[sN o_,wZ,o];simp[woken_run z]
     ·rw[MZ,M1];rcases Hh.1 e with e|e
      ·exact D op e
      ·rw[cA op e];exact f
end
structure Rx (B:List Frame) (P:Program) (G:Nat) (D0:Nat->Prop) (W:World) (gL:Goroutine) (wL:World) (gs:Array Goroutine) (wM:World) (t:Trace) (D:Nat->Prop) (ρ:Nat->Nat) (S:Nat->Prop) (gM:Goroutine) (q:Nat->Nat):Prop where
 rel:cR G 0 D ρ wL wM
 grel:ew G D ρ B gL gM
 nopan:Bj B
 at0:gs[0]?=some gM
 first:∀b,D0 b->D b/\ρ b=b
 shun:∀b,D b->¬S (ρ b)
 shunLow:∀r,S r->G<=r/\r<wM.heap.size
 past:Past (eZ S) wM.heap.size t
 quiet:Quiet (eZ S) t
 who:∀op∈t,op.g<gs.size
 tab:ji wL wM
 calm:bE wL
 leave:Leavers P t gs q
 same:wM.os=W.os/\wM.output=W.output/\wM.tape=W.tape
 tabW:wM.heap[eP]?=W.heap[eP]?
end
section
open Go Go.Conc
open Go.ConcN (sumTo upd sumTo_upd upd_ne upd_same CT Apart PermW WgLive)
section
variable{α:Type}{r:α->α->Prop}
def E0(r:α->α->Prop)(n:Nat)(f' f:Nat->α):Prop:=∃i x,i<n/\r x (f i)/\f'=upd f i x
theorem rH:∀(n:Nat) (f:Nat->α),(∀i,i<n->Acc r (f i))->Acc (E0 r n) f
 |0,f,_=>⟨_,λf' ⟨i,_,g,_⟩=>absurd g (M0 _)⟩
 |n+1,f,h=>by
  have j:∀x,Acc r x->∀f,Acc (E0 r n) f->f n=x->(∀i,i<n->Acc r (f i))->Acc (E0 r (n+1)) f:=by
   intro x s;induction s with
   |intro x _ l=>
    intro f u;induction u with
    |intro f t m=>
     intro q p;refine⟨_,λf' ⟨i,y,g,c,e⟩=> ?_⟩;subst e;by_cases v:i=n
     ·subst v;rw[q]at c;have b:∀k,k<i->Acc r (upd f i y k):=λk d=>by rw[upd_ne f y o_];exact p k d
      exact l y c (upd f i y) (rH i _ b) (upd_same f i y) b
     ·have o:i<n:=o_;refine m (upd f i y) ⟨i,y,o,c,rfl⟩ (by rw[upd_ne f y o_];exact q) λk d=> ?_;by_cases a:k=i
      ·subst a;rw[upd_same];exact(p k d).inv c
      ·rw[upd_ne f y a];exact p k d
  exact j (f n) (h n (Nat.lt_succ_self n)) f (rH n f λi g=>h i o_) rfl λi g=>h i o_
end
def gv(V RO:Nat->Prop)(e:Event):Prop:=
 match e.loc with
 | .cell a=>e.sync=false/\(V a.block\/(RO a.block/\e.write=false))
 | .obj b=>e.sync=false/\V b
 | .mark m=>fH m=true
 |_=>False
def ck(V:Nat->Prop)(w w':World)(b:Nat):Prop:=V b\/(w.heap.size<=b/\b<w'.heap.size)
structure cB (V RO:Nat->Prop) (w w':World) (es:Array Event):Prop where
 keep:∀b,b<w.heap.size->¬V b->w'.heap[b]?=w.heap[b]?
 size:w.heap.size<=w'.heap.size
 os:w'.os=w.os
 output:w'.output=w.output
 tape:w'.tape=w.tape
 ev:∀e∈es,gv (ck V w w') RO e
structure eo (V:Nat->Prop) (w w₁:World):Prop where
 keep:∀b,V b->w₁.heap[b]?=w.heap[b]?
 size:w.heap.size<=w₁.heap.size
 os:w₁.os=w.os
 output:w₁.output=w.output
 tape:w₁.tape=w.tape
theorem eo.refl(V:Nat->Prop)(w:World):eo V w w:=⟨λ_ _=>rfl,d8 _,rfl,rfl,rfl⟩
theorem eo.trans{c a:World}(h:eo V w c)(d:eo V c a):eo V w a:=
 ⟨λb e=>(d.keep b e).trans (h.keep b e),z9 h.size d.size,d.os.trans h.os,d.output.trans h.output,d.tape.trans h.tape⟩
theorem eo.at(V:Nat->Prop)(w:World)(d:Nat):eo V w (w.at d):=⟨λ_ _=>rfl,d8 _,rfl,rfl,rfl⟩
theorem eo.mono{c:Nat->Prop}{a:World}(h:eo V w a)(hv:∀b,c b->V b):eo c w a:=⟨λb d=>h.keep b (hv b d),h.size,h.os,h.output,h.tape⟩
section
variable{G T:Nat}
def oF(D:Nat->Prop)(ρ:Nat->Nat)(r:Nat):Prop:=∃b,D b/\ρ b=r
theorem C7{D':Nat->Prop}{c:Nat->Nat}{wL' wM':World}(h:ia G T D ρ wL wM D' c wL' wM')(j:RO eP)(s:∀e∈es,iL D' c e\/uW e):
 cB (oF D ρ) RO wM wM' es/\∀r,oF D' c r->ck (oF D ρ) wM wM' r:=by
 have k:∀r,oF D' c r->ck (oF D ρ) wM wM' r:=λr ⟨b,f,e⟩=>by
  rcases h.new b f with d|⟨_,g⟩
  ·exact .inl ⟨b,d,(h.ext b d).2.symm.trans e⟩
  ·exact .inr ⟨o_,by rw[←e];exact h.rel.ltM f⟩
 refine⟨⟨λb f p=>h.keep b f λx o e=>p ⟨x,o,e⟩,h.size,h.os,h.output,h.tape,λe q=> ?_⟩,k⟩;rcases s e q with d|⟨a,t,rfl⟩
 ·obtain⟨i,u,v⟩:=e;cases i with
  |cell a=>
   obtain⟨g,b,n,l⟩:=d;exact⟨g, .inl (k _ ⟨b,n,l⟩)⟩
  |obj r=>
   obtain⟨g,b,n,l⟩:=d;exact⟨g,k _ ⟨b,n,l⟩⟩
  |mark m=>exact d
  |output=>exact d.elim
  |goroutines=>exact d.elim
 ·exact⟨rfl, .inr ⟨by rw[t];exact j,rfl⟩⟩
theorem cR.kept(h:cR G T D ρ wL wM){wM':World}(c:eo (oF D ρ) wM wM'):cR G 0 D ρ wL wM':=
 ⟨h.inj,λb d=>let ⟨o,h1,h2,h3⟩:=h.obj b d;⟨o,h1,h2,λa e=>by rw[c.keep _ ⟨b,d,rfl⟩];exact h3 a e⟩,λi f=>o_,h.glob,⟨h.far.1,h.far.2.1,z9 h.far.2.2 c.size⟩,h.out⟩
end
section
variable{Sh:Loc->Prop}{Own Own' Rd Rd':Nat->Loc->Prop}{t:Trace}
theorem LI(h:CT Sh Own Rd t j)(n:∀i a,touchAt t i=some a->∀k,Own' k a.loc↔Own k a.loc)(o:∀i a,touchAt t i=some a->∀k,Rd' k a.loc↔Rd k a.loc):CT Sh Own' Rd' t j:=
 {quiet:=h.quiet
  own:=λk d c l f i a b e=>h.own k d c l (by rw[←e];exact(n i a b k).1 (by rw[e];exact f)) i a b e
  rd:=λk d c l f i a b e g=>h.rd k d c l (by rw[←e];exact(o i a b k).1 (by rw[e];exact f)) i a b e g
  free:=λl m f i a b e=>h.free l m (λk d c=>⟨λx=>(f k d c).1 (by rw[←e];exact(n i a b k).2 (by rw[e];exact x)),λx=>(f k d c).2 (by rw[←e];exact(o i a b k).2 (by rw[e];exact x))⟩) i a b e
  mine:=λl m f i a b e g=>h.mine l m (λk d c x=>f k d c (by rw[←e];exact(n i a b k).2 (by rw[e];exact x))) i a b e g
  nr:=h.nr
  gs:=h.gs}
end
end
section
open Go Go.Conc
open Go.ConcN (sumTo upd sumTo_upd upd_ne upd_same CT Apart PermW WgLive)
open Go.ConcR (KK WgAt stA smA rd wr mk DC0)
abbrev ed:Wc:=⟨0⟩
def Qd(P:Program)(ty:TypeId)(Wg:Nat):Goroutine->World->Prop:= @Go.ConcN.AtK1 ed P ty Wg 0 0 0 1
def xq(ty:TypeId)(Wg:Nat):World->World->Prop:= @a11 ed ty Wg 0 0 0 0
structure bS where
 P:Program
 ty:TypeId
 /-- the group's block;the list's;the type of the list's cells;how many there are;what each is to hold-/
 Wg:Nat
 C:Nat
 ety:TypeId
 n:Nat
 val:Nat->Value
 /-- what nobody writes-/
 RO:Nat->Prop
 /-- whose cell is whose-/
 mine:Nat->Nat->Prop
def bS.list(X:bS)(w:World):Prop:=∃cs,w.heap[X.C]?=some (.cells cs X.ety)/\cs.size=X.n
def bS.at(X:bS)(c:Nat):Addr:=⟨X.C,c,none⟩
structure bT (X:bS) (i:Nat) (V:Nat->Prop) (w w₁:World):Prop where
 own:eo (λb=>V b\/X.RO b) w w₁
 live:WgLive X.ty X.Wg w->WgLive X.ty X.Wg w₁
 list:X.list w->X.list w₁
 cells:∀c,X.mine i c->w₁.cell? (X.at c)=w.cell? (X.at c)
theorem bT.refl(X:bS)(i:Nat)(V:Nat->Prop)(w:World):bT X i V w w:=⟨eo.refl _ w,id,id,λ_ _=>rfl⟩
theorem bT.trans{X:bS}{b a:World}(h:bT X i V w b)(d:bT X i V b a):bT X i V w a:=
 ⟨h.own.trans d.own,d.live∘h.live,d.list∘h.list,λc e=>(d.cells c e).trans (h.cells c e)⟩
structure fh where
 V:Nat->Prop
 g:Goroutine
 w:World
def xv(X:bS)(i:Nat)(x:fh):Prop:=
 x.g.status= .running/\∀w₁,bT X i x.V x.w w₁->(∀c,X.mine i c->w₁.cell? (X.at c)=some (X.val c))/\
  ∃g',stepG X.P false x.g w₁= .go g' w₁ #[mk (.releaseMerge (stA X.Wg))]/\∃m,Goes X.P false (xq X.ty X.Wg) DC0 (Qd X.P X.ty X.Wg) m g' w₁
def jZ(X:bS)(i:Nat)(V:Nat->Prop)(w w':World)(es:Array Event):Prop:=
 cB V X.RO w w' es\/∃c v,X.mine i c/\w'=w.setCell (X.at c) v/\es=#[⟨.cell (X.at c),true,false⟩]
def fh.next(x:fh)(w₁:World)(g':Goroutine)(w':World):fh:=⟨ck x.V w₁ w',g',w'⟩
def bA(X:bS)(i:Nat)(x:fh):Prop:=
 ∀Q:fh->Prop,(∀x,xv X i x->Q x)->
  (∀x:fh,x.g.status= .running->(∀w₁,bT X i x.V x.w w₁->∃g' w' es,stepG X.P false x.g w₁= .go g' w' es/\jZ X i x.V w₁ w' es/\Q (x.next w₁ g' w'))->Q x)->Q x
section
variable{X:bS}{x:fh}
theorem bA.stop(h:xv X i x):bA X i x:=λ_ a _=>a x h
theorem bA.step(e:x.g.status= .running)(h:∀a,bT X i x.V x.w a->∃g' w' es,stepG X.P false x.g a= .go g' w' es/\jZ X i x.V a w' es/\bA X i (x.next a g' w')):bA X i x:=
 λQ d c=>c x e λa b=>let ⟨g',w',es,h1,h2,h3⟩:=h a b;⟨g',w',es,h1,h2,h3 Q d c⟩
theorem bA.cases(h:bA X i x):xv X i x\/(x.g.status= .running/\∀a,bT X i x.V x.w a->∃g' w' es,stepG X.P false x.g a= .go g' w' es/\jZ X i x.V a w' es/\bA X i (x.next a g' w')):=by
 have c:=h (λx=>bA X i x/\(xv X i x\/(x.g.status= .running/\∀a,bT X i x.V x.w a->∃g' w' es,stepG X.P false x.g a= .go g' w' es/\jZ X i x.V a w' es/\bA X i (x.next a g' w'))))
  (λx d=>⟨bA.stop d, .inl d⟩) (λx e g=> ?_)
 ·exact c.2
 ·have f:∀a,bT X i x.V x.w a->∃g' w' es,stepG X.P false x.g a= .go g' w' es/\jZ X i x.V a w' es/\bA X i (x.next a g' w'):=λa b=>
   let ⟨g',w',es,h1,h2,h3⟩:=g a b
   ⟨g',w',es,h1,h2,h3.1⟩
  exact⟨bA.step e f, .inr ⟨e,f⟩⟩
theorem bA.running(h:bA X i x):x.g.status= .running:=by
 rcases h.cases with h|h
 ·exact h.1
 ·exact h.1
def kX(X:bS)(i:Nat)(y x:fh):Prop:=¬xv X i x/\∃w₁ g' w' es,bT X i x.V x.w w₁/\stepG X.P false x.g w₁= .go g' w' es/\y=x.next w₁ g' w'
theorem bA.acc(h:bA X i x):Acc (kX X i) x:=by refine h (λx=>Acc (kX X i) x) (λx d=>⟨_,λy b=>absurd d b.1⟩) λx _ e=>⟨_,λy b=> ?_⟩;obtain⟨_,a,o,m,p,j,c,rfl⟩:=b;obtain⟨n,l,k,g,_,f⟩:=e a j;rw[g]at c;cases c;exact f
end
structure bV (X:bS) (V:Nat->Prop) (w w₁:World):Prop where
 own:eo (λb=>V b\/X.RO b) w w₁
 live:WgLive X.ty X.Wg w->WgLive X.ty X.Wg w₁
theorem bV.refl(X:bS)(V:Nat->Prop)(w:World):bV X V w w:=⟨eo.refl _ w,id⟩
theorem bV.trans{X:bS}{b a:World}(h:bV X V w b)(c:bV X V b a):bV X V w a:=⟨h.own.trans c.own,c.live∘h.live⟩
def cD(X:bS)(Next:(Nat->Prop)->Goroutine->World->Prop):Nat->(Nat->Prop)->Goroutine->World->Prop
 |0,V,g,w=>∀w₁,bV X V w w₁->Next V g w₁
 |m+1,V,g,w=>(∀w₁,bV X V w w₁->Next V g w₁)\/(g.status= .running/\∀w₁,bV X V w w₁->∃g' w' es,stepG X.P true g w₁= .go g' w' es/\cB V X.RO w₁ w' es/\cD X Next m (ck V w₁ w') g' w')
section
variable{X:bS}{Next Next':(Nat->Prop)->Goroutine->World->Prop}{w₁:World}
theorem cD.stop(h:∀a,bV X V w a->Next V g a):cD X Next m V g w:=by
 cases m with
 |zero=>exact h
 |succ m=>exact .inl h
theorem cD.step(b:g.status= .running)(h:∀a,bV X V w a->∃g' w' es,stepG X.P true g a= .go g' w' es/\cB V X.RO a w' es/\cD X Next m (ck V a w') g' w'):cD X Next (m+1) V g w:= .inr ⟨b,h⟩
theorem cD.rely:∀{m:Nat} {V:Nat->Prop} {g:Goroutine} {w c:World},cD X Next m V g w->bV X V w c->cD X Next m V g c
 |0,_,_,_,_,h,hr=>λa b=>h a (hr.trans b)
 |_+1,_,_,_,_,h,hr=>h.elim (λh=> .inl λa b=>h a (hr.trans b)) λ⟨d,h⟩=> .inr ⟨d,λa b=>h a (hr.trans b)⟩
theorem cD.mono(c:∀V g w,Next V g w->Next' V g w):∀{m:Nat} {V:Nat->Prop} {g:Goroutine} {w:World},cD X Next m V g w->cD X Next' m V g w
 |0,_,_,_,h=>λa b=>c _ _ _ (h a b)
 |_+1,_,_,_,h=>h.elim (λh=> .inl λa b=>c _ _ _ (h a b)) λ⟨d,h⟩=> .inr ⟨d,λa b=>let ⟨g',w',es,h1,h2,h3⟩:=h a b;⟨g',w',es,h1,h2,cD.mono c h3⟩⟩
theorem cD.running(a:∀V g w,Next V g w->g.status= .running)(h:cD X Next m V g w):g.status= .running:=by
 cases m with
 |zero=>exact a _ _ _ (h w (bV.refl X V w))
 |succ m=>exact h.elim (λh=>a _ _ _ (h w (bV.refl X V w))) λh=>h.1
theorem cD.trans{c:(Nat->Prop)->Goroutine->World->Prop}:∀{m:Nat} {V:Nat->Prop} {g:Goroutine} {w:World},cD X c m V g w->(∀V g w,c V g w->cD X Next k V g w)->cD X Next (m+k) V g w
 |0,V,g,w,h,hM=>by have f:=hM V g w (h w (bV.refl X V w));rw[qV];exact f
 |m+1,V,g,w,h,hM=>by
  rw[show m+1+k=(m+k)+1 from o_];rcases h with h|⟨d,h⟩
  ·have f:=hM V g w (h w (bV.refl X V w));have i:∀{k:Nat} {V:Nat->Prop} {g:Goroutine} {w:World},cD X Next k V g w->∀e,cD X Next (e+k) V g w:=by
    intro k;induction k with
    |zero=>exact λh e=>cD.stop h
    |succ k j=>
     intro V g w h e;rw[show e+(k+1)=(e+k)+1 from o_];exact h.elim .inl λ⟨d,h⟩=> .inr ⟨d,λa b=>let ⟨g',w',es,h1,h2,h3⟩:=h a b;⟨g',w',es,h1,h2,j h3 e⟩⟩
   rw[show m+k+1=(m+1)+k from o_];exact i f (m+1)
  ·exact .inr ⟨d,λa b=>let ⟨g',w',es,h1,h2,h3⟩:=h a b;⟨g',w',es,h1,h2,cD.trans h3 hM⟩⟩
theorem dO(V RO:Nat->Prop)(w:World):cB V RO w w #[]:=⟨λ_ _ _=>rfl,d8 _,rfl,rfl,rfl,λe a=>by simp at a⟩
theorem cF(V:Nat->Prop)(w:World):ck V w w=V:=by
 funext b
 apply propext;exact⟨λh=>h.elim id λh=>absurd h.2 (Nat.not_lt.2 h.1), .inl⟩
theorem cD.of_goes{c:Goroutine->World->Prop}:∀{m:Nat} {g:Goroutine} {w:World},Goes X.P true (bV X V) DC0 c m g w->cD X (λo g w=>o=V/\c g w) m V g w
 |0,_,_,h=>λa b=>⟨rfl,h a b⟩
 |m+1,g,w,h=>by
  rcases h with h|⟨i,h⟩
  ·exact .inl λa b=>⟨rfl,h a b⟩
  ·refine .inr ⟨i,λa b=> ?_⟩;have e:=h a b;cases d:stepG X.P true g a with
   |go n f p=>
    rw[d,goes_go]at e;obtain⟨⟨l,k⟩,j⟩:=e;subst l k;refine⟨n,f,#[],rfl,dO _ _ _, ?_⟩;rw[cF];exact cD.of_goes j
   |_=>rw[d]at e;exact e.elim
end
end
variable{X:bS}
section
open Go.Conc
section
variable{G:Nat}{Stop:Goroutine->World->Prop}{base:List Frame}
theorem gv.mono{d:Nat->Prop}(h:gv V RO e)(hv:∀b,V b->d b):gv d RO e:=by
 obtain⟨c,f,g⟩:=e;cases c with
 |cell a=>exact⟨h.1,h.2.imp (hv _) id⟩
 |obj b=>exact⟨h.1,hv _ h.2⟩
 |_=>exact h
theorem cB.mono{c:Nat->Prop}(h:cB V RO w w' es)(hv:∀b,V b->c b):cB c RO w w' es:=
 ⟨λb a d=>h.keep b a λx=>d (hv b x),h.size,h.os,h.output,h.tape,λe f=>(h.ev e f).mono λb a=>a.imp (hv b) id⟩
end
end
section
open Go Go.Conc
open Go.ConcR (DC0)
section
variable{Stop:Goroutine->World->Prop}
theorem pT(h:∀e∈es,gv V RO e):cB V RO w w es:=⟨λ_ _ _=>rfl,d8 _,rfl,rfl,rfl,λe a=>(h e a).mono λ_ b=> .inl b⟩
theorem oi(V RO:Nat->Prop)(w:World)(o:Obj):cB V RO w (w.alloc o) #[]:=
 ⟨λb c _=>by show(w.heap.push o)[b]?=_;rw[DY,if_neg (Nat.ne_of_lt c)],by show _<=(w.heap.push o).size;rw[Vs];omega,rfl,rfl,rfl,λe a=>by simp at a⟩
theorem DW{a:Addr}(d:V a.block)(v:Value):cB V RO w (w.setCell a v) #[⟨.cell a,true,false⟩]:=
 ⟨λb _ f=>by simp only[BO];exact kL λe=>f (e▸d),by simp[BO],rfl,rfl,rfl,λe c=>by simp only[MB,NQ]at c;subst c;exact⟨rfl, .inl (.inl d)⟩⟩
theorem bA.own(c:g.status= .running)(h:∀a,bT X i V w a->∃g' w' es,stepG X.P false g a= .go g' w' es/\cB V X.RO a w' es/\bA X i ⟨ck V a w',g',w'⟩):bA X i ⟨V,g,w⟩:=
 bA.step c λa b=>let ⟨g',w',es,h1,h2,h3⟩:=h a b;⟨g',w',es,h1, .inl h2,h3⟩
theorem bA.put(f:g.status= .running)(h:∀a,bT X i V w a->∃g' c v,X.mine i c/\stepG X.P false g a= .go g' (a.setCell (X.at c) v) #[⟨.cell (X.at c),true,false⟩]/\bA X i ⟨V,g',a.setCell (X.at c) v⟩):bA X i ⟨V,g,w⟩:=by
 refine bA.step f λa d=> ?_;obtain⟨g',c,v,l,k,j⟩:=h a d;refine⟨g',_,_,k, .inr ⟨c,v,l,rfl,rfl⟩, ?_⟩;have e:ck V a (a.setCell (X.at c) v)=V:=by
  funext b
  apply propext;exact⟨λh=>h.elim id λh=>absurd h.2 (by simpa[BO]using h.1), .inl⟩
 show bA X i ⟨ck V a (a.setCell (X.at c) v),g',_⟩;rw[e];exact j
end
end
section
open Go Go.Conc
open Go.ConcN (WgLive)
open Go.ConcR (KK WgAt stA smA rd wr DC0)
section
variable{R R':World->World->Prop}{D':World->World->Array Event->Prop}{Stop:Goroutine->World->Prop}{rel:Mark}
def N5(P:Program)(main:Bool)(g:Goroutine)(w:World):Prop:=∃g',stepG P main g w= .go g' w #[Go.ConcR.mk .disable]
def Ds(P:Program)(main:Bool)(R:World->World->Prop)(rel:Mark)(g:Goroutine)(w:World):Prop:=
 g.status= .running/\∃g',stepG P main g w= .go g' w #[Go.ConcR.mk rel]/\∃m,Goes P main R DC0 (N5 P main) m g' w
theorem Ih{a b:Mark}(h:(#[Go.ConcR.mk a]:Array Event)=#[Go.ConcR.mk b]):a=b:=by simpa[Go.ConcR.mk]using h
theorem L2(c:rel≠ .disable)(p:∀w,R w w)(i:∀w,R' w w)(u:∀g w,Stop g w->∃g',stepG P main g w= .go g' w #[Go.ConcR.mk rel])(s:∀w w',¬D' w w' #[Go.ConcR.mk .disable]):
 ∀(m n:Nat) (g:Goroutine) (w:World),Goes P main R DC0 (N5 P main) m g w->Goes P main R' D' Stop n g w->False:=by
 have a:∀n g w,Goes P main R' D' Stop n g w->∀g' k,stepG P main g w= .go g' w k->k≠#[Go.ConcR.mk rel]->D' w w k/\∃f,n=f+1/\Goes P main R' D' Stop f g' w:=by
  intro n g w h g' k b o;rcases WG h with d|⟨f,rfl,d⟩
  ·obtain⟨v,j⟩:=u g w (d w (i w));rw[b]at j;cases j;exact absurd rfl o
  ·obtain⟨v,y,x,j,r,q⟩:=d w (i w);rw[b]at j;cases j;exact⟨r,f,rfl,q⟩
 intro m;induction m with
 |zero=>
  intro n g w h l;obtain⟨g',b⟩:=h w (p w);exact s _ _ (a n g w l g' _ b λe=>c (Ih e).symm).1
 |succ m t=>
  intro n g w h l;rcases WG h with d|⟨z,e,d⟩
  ·obtain⟨g',b⟩:=d w (p w);exact s _ _ (a n g w l g' _ b λe=>c (Ih e).symm).1
  ·cases e;obtain⟨g',w',k,b,⟨rfl,rfl⟩,r⟩:=d w (p w);obtain⟨_,f,rfl,q⟩:=a n g w' l g' _ b s_;exact t f g' w' r q
theorem TD(p:rel≠ .disable)(G:∀w,R w w)(j:∀w,R' w w)(i:∀w w',R w w'->R' w w')(l:∀a b c,R' a b->R' b c->R' a c)(A:∀g w,Stop g w->∃g',stepG P main g w= .go g' w #[Go.ConcR.mk rel])(H:∀w w',¬D' w w' #[Go.ConcR.mk .disable]):
 ∀(m n:Nat) (g:Goroutine) (w:World),Goes P main R DC0 (Ds P main R rel) m g w->Goes P main R' D' Stop n g w->Goes P main R DC0 Stop m g w:=by
 have k:∀n g w,Ds P main R rel g w->Goes P main R' D' Stop n g w->Stop g w:=by
  intro n g w ⟨_,g',f,m,F⟩ h;rcases WG h with o|⟨u,rfl,o⟩
  ·exact o w (j w)
  ·exfalso;obtain⟨C,D,z,s,B,x⟩:=o w (j w);rw[f]at s;cases s;exact L2 p G j A H m u _ _ F x
 intro m;induction m with
 |zero=>exact λn g w h t d e=>k n g d (h d e) (a03 l t (i _ _ e))
 |succ m E=>
  intro n g w h t;rcases h with h|⟨o,h⟩
  ·exact .inl λd e=>k n g d (h d e) (a03 l t (i _ _ e))
  ·refine .inr ⟨o,λd e=> ?_⟩;have r:=h d e;cases f:stepG P main g d with
   |go g' w' J=>
    rw[f,goes_go]at r;rw[goes_go];obtain⟨⟨s,B⟩,x⟩:=r;subst s B;refine⟨⟨rfl,rfl⟩, ?_⟩;have y:=a03 l t (i _ _ e);rcases WG y with v|⟨u,rfl,v⟩
    ·obtain⟨C,q⟩:=A g _ (v _ (j _));rw[f]at q;simp at q
    ·obtain⟨C,D,z,q,_,I⟩:=v _ (j _);rw[f]at q;cases q;exact E u _ _ x I
   |_=>rw[f]at r;exact r.elim
end
end
section
open Go Go.Conc
open Go.ConcN (sumTo upd sumTo_upd upd_ne upd_same CT Apart PermW WgLive)
open Go.ConcR (KK WgAt stA smA rd wr mk DC0)
section
variable(X:bS)(Fin Anch:(Nat->Prop)->Goroutine->World->Prop)
def Do(m:Mark)(Next:(Nat->Prop)->Goroutine->World->Prop)(V:Nat->Prop)(g:Goroutine)(w:World):Prop:=
 g.status= .running/\∃g',stepG X.P true g w= .go g' w #[mk m]/\∃k,cD X Next k V g' w
def N7:=Do X (.acquire (stA X.Wg)) Fin
def Qe:=Do X .enable (N7 X Fin)
def RB(V:Nat->Prop)(g:Goroutine)(w:World):Prop:=
 g.status= .running/\(WgAt X.ty X.Wg w 0 0->∃g',stepG X.P true g w= .go g' w #[rd (stA X.Wg)]/\∃k,cD X (Qe X Fin) k V g' w)
def Qc(V:Nat->Prop)(g:Goroutine)(w:World):Prop:=
 g.status= .running/\g.offers=none/\((∃st,WgAt X.ty X.Wg w st 0)->stepG X.P true g w= .go {g with status:= .blocked} w #[])/\
  (WgAt X.ty X.Wg w 0 1->∃g',stepG X.P true g w= .go g' (w.setCell (smA X.Wg) (.int .u32 0)) (semEvents (smA X.Wg))/\∃k,cD X (RB X Fin) k V g' (w.setCell (smA X.Wg) (.int .u32 0)))
def RA:=Do X (.write (smA X.Wg)) (Qc X Fin)
def RD(vs:Nat)(V:Nat->Prop)(g:Goroutine)(w:World):Prop:=
 g.status= .running/\∀v:Nat,v<2147483648->WgAt X.ty X.Wg w (v*KK) 0->
  (v=vs->∃g',stepG X.P true g w= .go g' (w.setCell (stA X.Wg) (.int .u64 (v*KK+1))) #[rd (stA X.Wg),wr (stA X.Wg)]/\∃k,cD X (RA X Fin) k V g' (w.setCell (stA X.Wg) (.int .u64 (v*KK+1))))/\
  (v≠vs->∃g',stepG X.P true g w= .go g' w #[rd (stA X.Wg)]/\∃k,cD X Anch k V g' w)
def sY(V:Nat->Prop)(g:Goroutine)(w:World):Prop:=
 g.status= .running/\∀v:Nat,v<2147483648->WgAt X.ty X.Wg w (v*KK) 0->∃g',stepG X.P true g w= .go g' w #[rd (stA X.Wg)]/\
  (v=0->∃k,cD X (Qe X Fin) k V g' w)/\(v≠0->∃k,cD X (RD X Fin Anch v) k V g' w)
def JP:=Do X .disable Anch
def Qf(i:Nat)(Next:(Nat->Prop)->Goroutine->World->Prop)(V:Nat->Prop)(g:Goroutine)(w:World):Prop:=
 g.status= .running/\∃g' child Vc,stepG X.P true g w= .spawn g' child w #[]/\(∀b,Vc b->V b)/\(X.list w->(∀b,Vc b->b<w.heap.size)->bA X i ⟨Vc,child,w⟩)/\Next (λb=>V b/\¬Vc b) g' w
def JO(i:Nat)(Next:(Nat->Prop)->Goroutine->World->Prop):=Do X .enable (Qf X i Next)
def RE(i:Nat)(Next:(Nat->Prop)->Goroutine->World->Prop):=Do X (.read (smA X.Wg)) (JO X i Next)
def RF(i:Nat)(Next:(Nat->Prop)->Goroutine->World->Prop)(V:Nat->Prop)(g:Goroutine)(w:World):Prop:=
 g.status= .running/\∀v:Nat,v<2147483647->WgAt X.ty X.Wg w (v*KK) 0->
  ∃g',stepG X.P true g w= .go g' (w.setCell (stA X.Wg) (.int .u64 ((v+1)*KK))) #[rd (stA X.Wg),wr (stA X.Wg)]/\
   (v=0->∃k,cD X (RE X i Next) k V g' (w.setCell (stA X.Wg) (.int .u64 ((v+1)*KK))))/\(v≠0->∃k,cD X (JO X i Next) k V g' (w.setCell (stA X.Wg) (.int .u64 ((v+1)*KK))))
def Bn(i:Nat)(Next:(Nat->Prop)->Goroutine->World->Prop):=Do X .disable (RF X i Next)
def kV(n:Nat):Nat->(Nat->Prop)->Goroutine->World->Prop
 |0,V,g,w=>∃k,cD X (JP X Anch) k V g w
 |r+1,V,g,w=>∃k,cD X (Bn X (n-(r+1)) (kV n r)) k V g w
end
end
section
open Go Go.Conc
open Go.ConcN (sumTo upd sumTo_upd upd_ne upd_same CT Apart PermW WgLive RelBy WD ShN OkW Ok0)
open Go.ConcR (KK WgAt stA smA rd wr mk DC0)
abbrev Bl(X:bS):Nat->Nat->Nat->Goroutine->World->Prop:= @Go.ConcN.WSit ed X.P X.ty X.Wg 0 0 (λ_ _=>False) (λ_ _=>False) 0 1 .nilFunc
def ie(S:Nat->Prop)(Wg:Nat)(l:Loc):Prop:=eZ (λb=>S b\/b=Wg) l
def pU(X:bS)(m j:Nat)(Nd:Nat->fh)(k:Nat)(l:Loc):Prop:=∃i,i<j/\k=1+m+i/\(ee (Nd i).V l\/∃c,X.mine i c/\l= .cell (X.at c))
def xZ(X:bS)(m:Nat)(k:Nat)(l:Loc):Prop:=m<k/\ee X.RO l
structure jj (X:bS) (S:Nat->Prop) (j:Nat) (Nd:Nat->fh) (V0:Nat->Prop) (w:World):Prop where
 mine:∀i i' c,X.mine i c->X.mine i' c->i=i'
 wgc:X.Wg≠X.C
 wgl:X.Wg<w.heap.size/\X.C<w.heap.size
 ro:∀b,X.RO b->b<w.heap.size/\b≠X.Wg/\b≠X.C
 sh:∀b,S b->b<w.heap.size/\¬X.RO b/\b≠X.C
 v0:∀b,V0 b->b<w.heap.size/\¬X.RO b/\b≠X.Wg/\b≠X.C/\¬S b
 priv:∀i,i<j->∀b,(Nd i).V b->b<w.heap.size/\¬X.RO b/\b≠X.Wg/\b≠X.C/\¬S b/\¬V0 b
 two:∀i i',i<j->i'<j->∀b,(Nd i).V b->(Nd i').V b->i=i'
section
variable{S:Nat->Prop}{Nd:Nat->fh}
theorem fU{A B:Nat->Prop}{l:Loc}(c:ee A l)(d:ee B l):∃b,A b/\B b:=by
 cases l with
 |cell a=>exact⟨_,c,d⟩
 |obj r=>exact⟨_,c,d⟩
 |_=>exact c.elim
theorem xH{A B:Nat->Prop}{l:Loc}(d:ee A l)(c:eZ B l):∃b,A b/\B b:=by
 rcases c with c|c
 ·exact fU d c
 ·cases l with
  |cell a=>cases c
  |obj r=>cases c
  |_=>exact d.elim
theorem jj.apart(h:jj X S j Nd V0 w):Apart (ie S X.Wg) (pU X m j Nd) (xZ X m):=by
 refine⟨λk x l ⟨i,n,v,a⟩ ⟨q,p,y,d⟩=> ?_,λk x l ⟨i,n,v,a⟩ ⟨_,r⟩=> ?_,λk l ⟨i,n,v,a⟩ o=> ?_,λk l ⟨_,r⟩ o=> ?_⟩
 ·have:i=q:=by
   rcases a with a|⟨c,u,rfl⟩<;>rcases d with d|⟨z,t,e⟩
   ·obtain⟨b,g,f⟩:=fU a d;exact h.two i q n p b g f
   ·subst e;exact absurd rfl (h.priv i n _ a).2.2.2.1
   ·exact absurd rfl (h.priv q p _ d).2.2.2.1
   ·simp only[bS.at,Loc.cell.injEq,Addr.mk.injEq,true_and,and_true]at e;subst e;exact h.mine i q c u t
  omega
 ·rcases a with a|⟨c,u,rfl⟩
  ·obtain⟨b,g,f⟩:=fU a r;exact(h.priv i n b g).2.1 f
  ·exact absurd rfl (h.ro _ r).2.2
 ·rcases a with a|⟨c,u,rfl⟩
  ·obtain⟨b,g,f⟩:=xH a o;exact f.elim (h.priv i n b g).2.2.2.2.1 (h.priv i n b g).2.2.1
  ·have s:S X.C\/X.C=X.Wg:=o.elim id λh=>by cases h
   exact s.elim (λo=>absurd rfl (h.sh _ o).2.2) λe=>h.wgc e.symm
 ·obtain⟨b,g,f⟩:=xH r o;exact f.elim (λf=>(h.sh b f).2.1 g) (h.ro b g).2.1
theorem jj.grow(h:jj X S j Nd V0 w)(d:w.heap.size<=w'.heap.size):jj X S j Nd V0 w':=
 ⟨h.mine,h.wgc,⟨by have:=h.wgl.1;omega,by have:=h.wgl.2;omega⟩,λb a=>⟨by have:=(h.ro b a).1;omega,(h.ro b a).2⟩,λb a=>⟨by have:=(h.sh b a).1;omega,(h.sh b a).2⟩,λb a=>⟨by have:=(h.v0 b a).1;omega,(h.v0 b a).2⟩,λi c b a=>⟨by have:=(h.priv i c b a).1;omega,(h.priv i c b a).2⟩,h.two⟩
theorem jj.work(h:jj X S j Nd V0 w)(r:i<j){g':Goroutine}{p:World}(q:w.heap.size<=w'.heap.size):jj X S j (upd Nd i ⟨ck (Nd i).V w w',g',p⟩) V0 w':=by
 have f:=h.grow q;have n:∀b,w.heap.size<=b/\b<w'.heap.size->b<w'.heap.size/\¬X.RO b/\b≠X.Wg/\b≠X.C/\¬S b/\¬V0 b:=λb c=>
  ⟨c.2,λm=>by have:=(h.ro b m).1;omega,by have:=h.wgl.1;omega,by have:=h.wgl.2;omega,λm=>by have:=(h.sh b m).1;omega,λm=>by have:=(h.v0 b m).1;omega⟩
 refine⟨f.mine,f.wgc,f.wgl,f.ro,f.sh,f.v0,λk g b c=> ?_,λk l g d b c a=> ?_⟩
 ·by_cases e:k=i
  ·subst e;rw[upd_same]at c;rcases c with c|c
   ·exact f.priv k g b c
   ·exact n b c
  ·rw[upd_ne Nd _ e]at c;exact f.priv k g b c
 ·by_cases e:k=i<;>by_cases o:l=i
  ·omega
  ·subst e;rw[upd_same]at c;rw[upd_ne Nd _ o]at a;rcases c with c|c
   ·exact h.two k l g d b c a
   ·have:=(h.priv l d b a).1;omega
  ·subst o;rw[upd_same]at a;rw[upd_ne Nd _ e]at c;rcases a with a|a
   ·exact h.two k l g d b c a
   ·have:=(h.priv k g b c).1;omega
  ·rw[upd_ne Nd _ e]at c;rw[upd_ne Nd _ o]at a;exact h.two k l g d b c a
theorem jj.maiN(h:jj X S j Nd V0 w)(hs:w.heap.size<=w'.heap.size):jj X S j Nd (ck V0 w w') w':=by
 have hg:=h.grow hs;refine⟨hg.mine,hg.wgc,hg.wgl,hg.ro,hg.sh,λb hb=> ?_,λk hk b hb=> ?_,hg.two⟩
 ·rcases hb with hb|hb
  ·exact hg.v0 b hb
  ·exact⟨hb.2,λhr=>by have:=(h.ro b hr).1;omega,by have:=h.wgl.1;omega,by have:=h.wgl.2;omega,λhr=>by have:=(h.sh b hr).1;omega⟩
 ·obtain⟨h1,h2,h3,h4,h5,h6⟩:=hg.priv k hk b hb;refine⟨h1,h2,h3,h4,h5,λhv=>hv.elim h6 λhv=> ?_⟩;have:=(h.priv k hk b hb).1;omega
end
end
section
open Go Go.Conc
open Go.ConcN (sumTo upd sumTo_upd upd_ne upd_same CT Apart PermW WgLive RelBy WD ShN OkW Ok0 norel_of)
open Go.ConcR (KK WgAt stA smA rd wr mk DC0)
structure jk (X:bS) (S:Nat->Prop) (m j:Nat) (gs:Array Goroutine) (w:World) (t:Trace) (D:Nat->WD) (Nd:Nat->fh) (V0:Nat->Prop) (d0:Nat) (q:Nat->Nat):Prop where
 size:gs.size=1+m+j
 old:∀i,0<i->i<=m->∃g,gs[i]?=some g/\QuitsD X.P (q i) (Deaf t i) g
 wk:∀i,i<j->∃g,gs[1+m+i]?=some g/\(((D i).stage=7/\(D i).fuel=0/\(D i).deaf=0/\g=(Nd i).g/\bA X i (Nd i)/\bT X i (Nd i).V (Nd i).w w)\/((D i).stage<=6/\Bl X (D i).stage (D i).fuel (D i).deaf g w))
 lies:jj X S j Nd V0 w
 tabRO:X.RO 0
 ct:CT (ie S X.Wg) (pU X m j Nd) (xZ X m) t (m+j)
 norel:NoRelease (stA X.Wg) t
 deaf0:Deaf t 0=d0
 deafW:∀i,i<j->Deaf t (1+m+i)=(D i).deaf
 rel:∀i,i<j->(D i).stage<=6->∃r,RelBy (stA X.Wg) t (1+m+i) r
 has:∀i,i<j->(D i).stage<=6->∀c,X.mine i c->w.cell? (X.at c)=some (X.val c)
 list:X.list w
 seen:∀op∈t,op.act.low w.heap.size
 over:∀(i g:Nat),t.g? i=some g->g≠0->g<=m->t.counts i->∃k,t.g? k=some 0/\HappensBefore t i k
 known:∀(i:Nat) (a:Touch) (g:Nat),touchAt t i=some a->t.g? i=some g->g<=m->a.loc.isMemory=true->Knows t 0 i\/(ie S X.Wg a.loc/\a.kind= .atomic)
 atom:∀(i:Nat) (a:Touch) (g:Nat),touchAt t i=some a->t.g? i=some g->m<g->a.kind= .atomic->ie S X.Wg a.loc
section
variable{S:Nat->Prop}{gs:Array Goroutine}{t:Trace}{D:Nat->WD}{Nd:Nat->fh}{d0:Nat}{q:Nat->Nat}
theorem KY{q:Loc->Prop}{Own Rd:Nat->Loc->Prop}(hv:∀l,ee V l->Own k l)(n:∀l,ee RO l->Rd k l)(c:gv V RO e)(fn:FuncId)(pos:String):OkW q Own Rd k {g:=k,fn,pos,act:= .ofEvent e}:=by
 refine⟨rfl,λx d=> ?_⟩;obtain⟨i,j,s⟩:=e;cases i with
 |cell a=>
  obtain⟨rfl,h⟩:=c;have b:(W7 ⟨.cell a,j,false⟩).touch?=some x:=d;simp only[KL,Option.some.injEq]at b;subst b;rcases h with h|⟨h,p⟩
  ·exact .inr (.inl (hv (.cell a) h))
  ·exact .inr (.inr ⟨n (.cell a) h,p⟩)
 |obj r=>
  obtain⟨rfl,h⟩:=c;have b:(Gg ⟨.obj r,j,false⟩).touch?=some x:=d;simp only[Gg,KL,Option.some.injEq]at b;subst b;exact .inr (.inl (hv (.obj r) h))
 |mark m=>
  have o:fH m=true:=c;cases m with
  |extern f=>cases d
  |noRoom=>cases d
  |_=>simp[fH]at o
 |output=>exact c.elim
 |goroutines=>exact c.elim
theorem Fz(d:gv V RO e){x:Touch}(c:(Gg e).touch?=some x):x.kind= .plain:=by
 obtain⟨g,j,l⟩:=e;cases g with
 |cell a=>
  obtain⟨rfl,h⟩:=d;have b:(W7 ⟨.cell a,j,false⟩).touch?=some x:=c;simp only[KL,Option.some.injEq]at b;subst b;rfl
 |obj r=>
  obtain⟨rfl,h⟩:=d;simp only[Gg,KL,Option.some.injEq]at c;subst c;rfl
 |mark i=>
  have k:fH i=true:=d;cases i with
  |extern f=>cases c
  |noRoom=>cases c
  |_=>simp[fH]at k
 |output=>exact d.elim
 |goroutines=>exact d.elim
theorem y7{B:Nat}(hv:∀b,V b->b<B)(i:∀b,RO b->b<B)(c:gv V RO e):(Gg e).low B:=by
 obtain⟨d,k,l⟩:=e;cases d with
 |cell a=>
  obtain⟨rfl,h⟩:=c;show a.block<B;rcases h with h|⟨h,_⟩
  ·exact hv _ h
  ·exact i _ h
 |obj r=>
  obtain⟨rfl,h⟩:=c;simp only[Gg,a22,Loc.low];exact hv _ h
 |mark g=>
  have j:fH g=true:=c;cases g with
  |extern f=>trivial
  |noRoom=>trivial
  |_=>simp[fH]at j
 |output=>exact c.elim
 |goroutines=>exact c.elim
theorem jn(g:gv V RO e):e.loc≠ .mark .disable/\e.loc≠ .mark .enable/\∀a,e.loc≠ .mark (.release a):=by
 obtain⟨b,i,j⟩:=e;cases b with
 |mark c=>
  have d:fH c=true:=g;cases c with
  |extern f=>exact⟨(by intro h;cases h),(by intro h;cases h),λa h=>(by cases h)⟩
  |noRoom=>exact⟨(by intro h;cases h),(by intro h;cases h),λa h=>(by cases h)⟩
  |_=>simp[fH]at d
 |_=>exact⟨(by intro h;cases h),(by intro h;cases h),λa h=>(by cases h)⟩
theorem rR{B:Nat}(h:∀op∈t,op.act.low B){a:Touch}(j:touchAt t i=some a):a.loc.low B:=by
 obtain⟨x,g,b⟩:=touch_of j;have d:=h x (If g);cases c:x.act with
 |access e=>rw[c]at d b;simp only[KL,Option.some.injEq]at b;subst b;exact d
 |mark f=>
  rw[c]at d b;cases f<;>simp only[KL]at b<;>first|(cases b;done)|(simp only[Option.some.injEq]at b;subst b;exact d)
 |_=>rw[c]at b;simp[KL]at b
end
section
variable{S:Nat->Prop}{gs:Array Goroutine}{t:Trace}{D:Nat->WD}{Nd:Nat->fh}{d0:Nat}{q:Nat->Nat}
structure wx (A:Nat->Prop) (w w':World):Prop where
 keep:∀b,b<w.heap.size->¬A b->w'.heap[b]?=w.heap[b]?
 size:w.heap.size<=w'.heap.size
 os:w'.os=w.os
 output:w'.output=w.output
 tape:w'.tape=w.tape
theorem cB.turns(h:cB V RO w w' es):wx V w w':=⟨h.keep,h.size,h.os,h.output,h.tape⟩
theorem vQ(w:World)(a:Addr)(v:Value):wx (· =a.block) w (w.setCell a v):=
 ⟨λb _ c=>by simp only[BO];exact kL c,by simp[BO],rfl,rfl,rfl⟩
theorem wx.live{A:Nat->Prop}(h:wx A w w'){ty:TypeId}{Wg:Nat}(c:¬A Wg)(d:Wg<w.heap.size):WgLive ty Wg w->WgLive ty Wg w':=λ⟨a,b,e⟩=>⟨a,b,(h.keep Wg d c).trans e⟩
theorem wx.cell{A:Nat->Prop}(h:wx A w w'){a:Addr}(b:¬A a.block)(c:a.block<w.heap.size):w'.cell? a=w.cell? a:=by unfold AB;rw[h.keep _ c b]
theorem wx.list{A:Nat->Prop}(h:wx A w w')(a:¬A X.C)(b:X.C<w.heap.size):X.list w->X.list w':=λ⟨e,d,c⟩=>⟨e,(h.keep _ b a).trans d,c⟩
theorem wx.kept{A:Nat->Prop}(h:wx A w w')(hv:∀b,V b->¬A b/\b<w.heap.size):eo V w w':=⟨λb a=>h.keep b (hv b a).2 (hv b a).1,h.size,h.os,h.output,h.tape⟩
theorem lr(c:Nat)(v:Value)(h:X.list w):X.list (w.setCell (X.at c) v):=by obtain⟨d,b,a⟩:=h;refine⟨d.setIfInBounds c v, ?_,by simpa using a⟩;simp[BO,bS.at,IN,b]
theorem Fg{c c':Nat}(a:c'≠c)(v:Value)(h:X.list w):(w.setCell (X.at c) v).cell? (X.at c')=w.cell? (X.at c'):=by obtain⟨e,b,d⟩:=h;unfold AB;simp[BO,bS.at,IN,b,sN (LZ a)]
theorem tr(g:jj X S j Nd V0 w)(y:X.list w)(u:i<j)(h:jZ X i (Nd i).V w w' es):
 bV X V0 w w'/\(∀d,d<j->d≠i->bT X d (Nd d).V w w')/\(X.RO 0->xq X.ty X.Wg w w')/\X.list w'/\(∀d,d≠i->∀c,X.mine d c->w'.cell? (X.at c)=w.cell? (X.at c))/\w.heap.size<=w'.heap.size/\w'.heap[X.Wg]?=w.heap[X.Wg]?:=by
 have r:∀A:Nat->Prop,wx A w w'->(∀b,A b->((Nd i).V b\/b=X.C))->X.list w'->(∀d,d≠i->∀c,X.mine d c->w'.cell? (X.at c)=w.cell? (X.at c))->
  bV X V0 w w'/\(∀d,d<j->d≠i->bT X d (Nd d).V w w')/\(X.RO 0->xq X.ty X.Wg w w')/\X.list w'/\(∀d,d≠i->∀c,X.mine d c->w'.cell? (X.at c)=w.cell? (X.at c))/\w.heap.size<=w'.heap.size/\w'.heap[X.Wg]?=w.heap[X.Wg]?:=by
  intro A q l t m;have s:¬A X.Wg:=λh=>(l _ h).elim (λh=>(g.priv i u _ h).2.2.1 rfl) g.wgc;have n:∀b,X.RO b->¬A b/\b<w.heap.size:=λb f=>⟨λh=>(l b h).elim (λh=>(g.priv i u b h).2.1 f) (g.ro b f).2.2,(g.ro b f).1⟩;have k:=q.live (ty:=X.ty) s g.wgl.1;refine⟨⟨q.kept λb f=> ?_,k⟩,λd p o=>⟨q.kept λb f=> ?_,k,λ_=>t,m d o⟩,λx=> @Go.ConcN.RW.mk ed _ _ _ _ _ _ _ _ (λb f=>absurd f (M0 _)) k (λ⟨F,E,D⟩=>⟨F,(q.keep 0 (n 0 x).2 (n 0 x).1).trans E,D⟩) (q.cell (n 0 x).1 (n 0 x).2),t,m,q.size,q.keep _ g.wgl.1 s⟩
  ·rcases f with f|f
   ·exact⟨λh=>(l b h).elim (λh=>(g.priv i u b h).2.2.2.2.2 f) (g.v0 b f).2.2.2.1,(g.v0 b f).1⟩
   ·exact n b f
  ·rcases f with f|f
   ·exact⟨λh=>(l b h).elim (λh=>o (g.two d i p u b f h)) (g.priv d p b f).2.2.2.1,(g.priv d p b f).1⟩
   ·exact n b f
 rcases h with h|⟨c,v,C,rfl,_⟩
 ·have B:¬(Nd i).V X.C:=λh=>(g.priv i u _ h).2.2.2.1 rfl;exact r _ h.turns (λb f=> .inl f) (h.turns.list B g.wgl.2 y) λd _ c _=>h.turns.cell (a:=X.at c) B g.wgl.2
 ·exact r _ (vQ w (X.at c) v) (λb f=> .inr f) (lr c v y) λd o G z=>Fg (λe=>o (g.mine d i G z (by rw[e];exact C))) v y
end
end
section
open Go.Conc
section
variable{G T:Nat}{base:List Frame}
def cd(P:Program)(f:FuncId)(args:Array Value)(cs:List Frame):Goroutine:={frame:=t4 P f args .normal,callers:=cs,status:= .running,dying:=none}
theorem qF(I:∀w a b,Pn PM w a b=Pn PL w a b)(K:∀w a v b,NE PM w a v b=NE PL w a v b)(B:cR G T D ρ wL wM)
 {fr':Frame} (cs':List Frame) (y:∀c,aR G D ρ c->fr'=bF c fr) (ok:j3 fr)
 {s s':Sem Next} (F:∀c,aR G D ρ c->aF c PL PM (fy c) s s')   {wL':World} (n:s.run PL wL= .ok (.enter f args) wL') (J:wL'.drawn<=T):
 ∃D' c g wM' q,stepG.apply PM true fr' cs' none s' wM= .go (cd PM f g (fr'::cs')) wM' q/\(∀h,aR G D' c h->g=args.map (aE h))/\ia G T D ρ wL wM D' c wL' wM'/\∀e∈q,iL D' c e:=by
 obtain⟨D',j,Q,wM',M,P,O,C,N⟩:=dN I K fy s s' D ρ wL wM B F #[] _ wL' n rfl J;cases O with
 | @ok _ E _ _ o=>
   have p:=y ρ B.self;have z:ek fr':=by
    intro d w r s k e;rw[p]at e;have:=ok.noCall;cases u:fr.todo with
    |nil=>simp[bF,u]at e
    |cons i t=>
     simp only[bF,u,rn,List.cons.injEq]at e;cases i<;>simp[cV]at e;exact this _ _ _ _ _ u
   have l:=o j C.rel.self;have x:zT E=true:=(by rw[l,E3];rfl);have m:=dD (cs:=cs') z P x;rw[l]at m;refine⟨D',j,args.map (aE j),wM',_,m,λh L=> ?_,C,λe H=> ?_⟩
   ·have:=l.symm.trans (o h L);simp only[fy,Next.enter.injEq,true_and]at this;exact this
   ·have A:=dp _ _ _ e H;split at A
    ·simp at A
    ·exact N e (by simpa using A)
theorem py(cs:List Frame)(d:j3 fr){s:Sem Next}(a:s.run P w= .ok (.enter f args) w'):∃es,stepG.apply P true fr cs none s w= .go (cd P f args (fr::cs)) w' es:=by
 cases c:s.runT P w #[]with
 |mk r es=>
  have:=IJ P s w #[];rw[c,a]at this;have b:r= .ok (.enter f args) w':=this;rw[b]at c;exact⟨_,dD (cs:=cs) d.noCall c rfl⟩
theorem yv(B:j3 fr){k:List Item}(y:fr.todo= .inRegion ops (n::rest)::k)(l:ops[n]?=some o)(i:mN (dt fr.fn) o.op=true){z:World}(g:(execOp fr.eval o).run P w= .ok (.enter f args) z):rc fr:=λx j p D e=>by
 rw[y]at e;simp only[List.cons.injEq,Item.inRegion.injEq]at e;obtain⟨⟨rfl,rfl,_⟩,_⟩:=e;have r:=B.todo;rw[y]at r;simp only[kt,kJ,d7,Bool.or_eq_true]at r;rcases r.1 with h|⟨h,_⟩
 ·exact h
 ·exfalso;obtain⟨E,C,A,rfl,_,_,_,d,_,m⟩:=iz h;have q:o=C\/o=A:=by
   match n,l with
   |0,l=>exact .inl (by simpa using l.symm)
   |1,l=>exact .inr (by simpa using l.symm)
   |n+2,l=>simp at l
  rcases m with⟨t,s,v,u⟩|⟨_,a,b,c,v,_,_,u,_⟩<;>rcases q with rfl|rfl
  ·unfold execOp at g;rw[v]at g;exact kK _ _ _ _ _ g
  ·rw[u]at i;cases i
  ·unfold execOp at g;rw[v]at g;exact kK _ _ _ _ _ g
  ·rw[u]at i;cases i
theorem rS(E:kh PL PM G)(hW:cR G T D ρ wL wM){gL gM:Goroutine}(hg:ew G D ρ base gL gM){w1:World}(M:j4 PL gL.frame wL f args w1)(hT:w1.drawn<=T)(mL mM:Bool):
 ∃a3 af,stepG PL mL gL wL= .go (cd PL f args a3) w1 af/\∃D' c m a8 wM' L,stepG PM mM gM wM= .go (cd PM f m a8) wM' L/\(∀p,aR G D' c p->m=args.map (aE p))/\
  (∀p,aR G D' c p->a8=a3.map (bF p)++base)/\kW .normal a3/\ia G T D ρ wL wM D' c w1 wM'/\∀e∈L,iL D' c e:=by
 obtain⟨w,a0,⟨ok,_⟩,W,h1,h2,h3,h4⟩:=hg;obtain⟨g,cs,st,dy,a9⟩:=gL;obtain⟨i,C,ah,aj,a5⟩:=gM;simp only at w a0 ok W h1 h2 h3 h4 M;subst h1 h2 h3 h4;have K:=w ρ hW.self;obtain⟨hm,M⟩:=M;have Y:i.mode=g.mode:=by rw[K];rfl
 have hL:stepG PL mL {frame:=g,callers:=cs,status:= .running,dying:=none,offers:=a9} wL=stepG.exec PL mL true g cs none wL:=by unfold stepG;simp only[hm]
 have hM:stepG PM mM {frame:=i,callers:=C,status:= .running,dying:=none,offers:=a5} wM=stepG.exec PM mM true i C none wM:=by unfold stepG;simp only[Y,hm]
 rw[hL,hM];rcases M with⟨F,n,a4,k,o,V,ho,hw,N,v,s⟩|⟨x,U,a,b,k,l,h,w0,V,A,s⟩
 ·have H:i.todo= .inRegion F (n::a4)::k.map (cV ρ):=by rw[K];show g.todo.map (cV ρ)=_;rw[V];rfl
  have ab:jd o (yielded F i.tmps)=true:=by rw[K];have:yielded F (bF ρ g).tmps=yielded F g.tmps:=funext λj=>eH ρ g.fn F g.tmps j;rw[this];exact hw
  have a1:∀c,aR G D ρ c->aF c PL PM (fy c) (execOp g.eval o) (execOp i.eval o):=λc hA=>
   yK (z:=dt g.fn) E.same (E.toEnv.far hA) (E.fn c) (λx hx=>by rw[w c hA];exact fc g x hx) o N
  have X:g.oper?=some o:=by simp only[Frame.oper?,V,ho]
  have R:dT g:=And.intro (λo' d e1 e2=>by rw[X]at e1;cases e1;rw[e2]at v;simpa using v) (yv ok V ho N s)
  obtain⟨es,e1⟩:=py cs ok s;obtain⟨D',c,m,wM',L,q1,q2,q3,q4⟩:=qF E.load E.store hW C w ok a1 s hT;refine⟨g::cs,es,by rw[jr V ho hw N];exact e1,D',c,m,i::C,wM',L,by rw[jr H ho ab N];exact q1,q2,λp h2=> ?_,⟨ok, .inl R,W⟩,q3,q4⟩
  ·have hA:=aR.of_ran q3 h2;rw[w p hA,a0 p hA];rfl
 ·have hi:=ok.todo;rw[V]at hi;simp only[kt,d7,kJ,jb]at hi;obtain⟨⟨⟨⟨hz,hx⟩,ha⟩,hb⟩,hk⟩:=hi;have Q:dt g.fn=0:=by simpa using hz
  rw[Q]at ha hb hx;have a1:∀c,aR G D ρ c->aF c PL PM (λy=>(c y.1,y.2.map (kb c))) (Am g.fn g.tmps U a b g.roundOf) (Am i.fn i.tmps U a b i.roundOf):=λc hA=>by rw[w c hA];show aF c PL PM _ _ (Am g.fn (ka c g.fn g.tmps) U a b (g.roundOf.map c));rw[mf c Q];exact mA g.fn g.tmps U a b g.roundOf ha hb Q
  have O:dx h=true:=sC A;have J:j3 (bW g k l h):=by
   refine⟨⟨?_,ok.mode,ok.kind,ok.round⟩, ?_⟩
   ·show dx (h++g.defers)=true;simp only[dx,List.all_append,d7];exact⟨O,ok.defers⟩
   ·show kt (dt g.fn) (Item.inRangeFunc l::k)=true;simp only[kt,d7,kJ];exact⟨hz,hk⟩
  have v:dT (bW g k l h):=rv λ_ _ _ _ e=>by cases e
  have ae:w0.drawn<=T:=by have:=vX PL (cJ (bW g k l h) x l) w0;rw[s]at this;exact z9 this hT
  obtain⟨D1,t,r',ag,ai,e1,e2,e3,e4⟩:=dN E.load E.store (λc y=>(c y.1,y.2.map (kb c))) _ _ D ρ wL wM hW a1 #[] _ w0 A rfl ae;cases e2 with
  | @ok _ y' _ _ aa=>
    obtain⟨l1,u⟩:=y';have a2:=λc (B:aR G D1 t c)=>aR.of_ran e3 B;have Z:∀c,aR G D1 t c->l1=c l/\u=h.map (kb c):=λc B=>by have:=aa c B;simpa using this
    have H:∀c,aR G D1 t c->i.todo= .code (.rangeFunc x U a b)::k.map (cV c):=λc B=>by rw[w c (a2 c B)];show g.todo.map (cV c)=_;rw[V];rfl
    have I:∀c,aR G D1 t c->bW i (k.map (cV t)) l1 u=bF c (bW g k l h):=λc B=>by have q:=(H t e3.rel.self).symm.trans (H c B);simp only[List.cons.injEq,true_and]at q;rw[q,(Z c B).1,(Z c B).2,w c (a2 c B)];simp only[bW,bF,rn,cV,Vt]
    have a6:∀c,aR G D1 t c->aF c PL PM (fy c) (cJ (bW g k l h) x l) (cJ (bW i (k.map (cV t)) l1 u) x l1):=λc B=>by rw[I c B,(Z c B).1];exact kC E.same (E.fn c) (fc (bW g k l h) x (by show lV (dt g.fn) x=true;rw[Q];exact hx)) l
    obtain⟨es,f0⟩:=py cs J s;obtain⟨D',c,m,wM',L,q1,q2,q3,q4⟩:=qF E.load E.store e3.rel C I J a6 s hT;have P:∃S,(Am g.fn g.tmps U a b g.roundOf).runT PL wL #[]=(.ok (l,h) w0,S):=by
     cases hr:(Am g.fn g.tmps U a b g.roundOf).runT PL wL #[]with
     |mk r S=>
      have:=IJ PL (Am g.fn g.tmps U a b g.roundOf) wL #[];rw[hr,A]at this;have ac:r= .ok (l,h) w0:=this;exact⟨S,by rw[ac]⟩
    obtain⟨S,ad⟩:=P;refine⟨bW g k l h::cs,_,by rw[fL V ad,f0];rfl,D',c,m,bW i (k.map (cV t)) l1 u::C,wM',_,by rw[fL (H t e3.rel.self) e1,q1];rfl,q2,λp h2=> ?_,⟨J, .inl v,W⟩,e3.trans q3,λe M=> ?_⟩
    ·have a7:=aR.of_ran q3 h2;rw[I p a7,a0 p (a2 p a7)];rfl
    ·rcases Hh.1 M with M|M
     ·exact(e4 e (by simpa using dp _ _ _ e M)).mono q3.ext
     ·exact q4 e M
end
section
variable{G T:Nat}{base:List Frame}
theorem cR.join(h:cR G T D ρ wL wM){wL2 wM2:World}{bL C:Nat}{o:Obj}(t:∀b,D b->wL2.heap[b]?=wL.heap[b]?)(s:∀b,D b->wM2.heap[ρ b]?=wM.heap[ρ b]?)(B:wL.heap.size<=wL2.heap.size)(A:wM.heap.size<=wM2.heap.size)
 (r:wL.heap.size<=bL) (F:wM.heap.size<=C) (q:wL2.heap[bL]?=some o) (p:cO o=true) (j:∀d,wM2.heap[C]?=some (eC d o)):
 ∃f,cR G 0 (λb=>D b\/b=bL) f wL2 wM2/\(∀b,D b->f b=ρ b)/\f bL=C:=by
 have g:=h.far;have k:=h.glob bL;have a:∀b,D b->lm (ρ bL) C (ρ b)=ρ b:=λb c=>mW (λe=>by have:=h.inj _ _ e;have:=h.ltL c;omega) (by have:=h.ltM c;omega);refine⟨λz=>lm (ρ bL) C (ρ z),⟨λx y e=>h.inj _ _ (qN e),λb c=> ?_,λi E=>o_,λb=>(h.glob b).trans (tD o_ _),⟨g.1,o_,o_⟩,λb c=> ?_⟩,a,lY _ _⟩
 ·rcases c with c|rfl
  ·obtain⟨n,w,v,u⟩:=h.obj b c;refine⟨n,(t b c).trans w,v,λd m=> ?_⟩;rw[a b c,s b c];exact u d ⟨m.1,λx l=>(m.2 x (.inl l)).trans (a x l)⟩
  ·refine⟨o,q,p,λd _=> ?_⟩;rw[lY];exact j d
 ·rcases c with c|rfl
  ·exact h.out b c
  ·omega
theorem TE{c c':Frame}{cs':List Frame}{v':Value}(h:∀a,aR G D ρ a->c'::cs'=(c::cs).map (bF a)++base)(f:kW .normal (c::cs))(hv:∀a,aR G D ρ a->v'=aE a v):
 ew G D ρ base {frame:=c.finish v,callers:=cs,status:= .running,dying:=none} {frame:=c'.finish v',callers:=cs',status:= .running,dying:=none}:=by
 have d:dT c:=f.2.1.resolve_right λe=>by cases e.1
 have b:∀a,aR G D ρ a->c'=bF a c/\cs'=cs.map (bF a)++base:=λa g=>by have:=h a g;simp only[rn,Iv,List.cons.injEq]at this;exact this
 refine⟨λa g=> ?_,λa g=>(b a g).2,SR f.1 d v,by show kW (c.finish v).kind cs;rw[dm];exact f.2.2,rfl,rfl,rfl,rfl⟩;show c'.finish v'=bF a (c.finish v);rw[(b a g).1,hv a g,fK c v f.1 d]
theorem aR.less{f:Nat->Prop}{a c:Nat->Nat}(h:aR G f a c)(d:∀b,D b->f b/\a b=ρ b):aR G D ρ c:=⟨h.1,λb e=>(h.2 b (d b e).1).trans (d b e).2⟩
end
end
section
open Go Go.Conc
open Go.ConcN (WgLive)
section
variable{G:Nat}
theorem iZ{c:Frame}(d:fr.kind= .normal)(h:fr.defers=[])(b:fr.mode= .returning)(e:P.funcs[fr.fn]?=some fn)(a:(results fn fr.tmps).run P w= .ok v w)(f:(results fn fr.tmps).events P w #[]=#[])
 (main:Bool)  (j:g.frame=fr/\g.callers=c::cs/\g.status= .running/\g.dying=none):stepG P main g w= .go {frame:=c.finish v,callers:=cs,status:= .running,dying:=none} w:=by obtain⟨k,l,m,n,i⟩:=g;obtain⟨rfl,rfl,rfl,rfl⟩:=j;simp only at d h b e a f;simp[stepG,unwind,doReturn,d,h,b,e,a,f,seen,mX]
def nX(f:FuncId)(r:Nat)(Val:Value->Prop)(g:Goroutine)(_:World):Prop:=
 g.frame.fn=f/\g.frame.mode= .returning/\g.frame.defers=[]/\g.callers=[]/\g.frame.kind= .normal/\∃v,g.frame.tmps[r]?=some v/\Val v
structure JD (X:bS) (i:Nat) (G:Nat) (base:List Frame) (V0:Nat->Prop) (w0:World) (gL:Goroutine) (wL:World) (x:fh):Prop where
 rel:∃D ρ,cR G 0 D ρ wL x.w/\ew G D ρ base gL x.g/\∀b,D b->x.V (ρ b)/\w0.heap.size<=ρ b
 tab:ji wL x.w
 calm:bE wL
 since:bT X i V0 w0 x.w
 more:∀b,V0 b->x.V b
theorem Br(E:kh PL X.P G)(S:X.RO eP)(a9:∀f (fn:Func),PL.funcs[f]?=some fn->fn.body.isSome=true->jc PL X.P f){r:Nat}(hf:X.P.funcs[f]?=some fn)(a7:dt f=0)
 (H:∀(tmps:Array Value) v w,tmps[r]?=some v->(results fn tmps).run X.P w= .ok v w/\(results fn tmps).events X.P w #[]=#[]) {Val:Value->Prop} (B:∀v,Val v->bO v=true) {c:Frame}
 (a6:Bj (c::cs)) (k:(∀b,V0 b\/X.RO b->b<w0.heap.size)/\X.Wg<w0.heap.size/\X.C<w0.heap.size)
 (Q:∀v V w,Val v->(∀b,V0 b->V b)->bT X i V0 w0 w->bA X i ⟨V,{frame:=c.finish v,callers:=cs,status:= .running,dying:=none},w⟩)
 {K:Goroutine}  (ht:gE PL (nX f r Val) K wL):∀x,JD X i G (c::cs) V0 w0 K wL x->bA X i x:=by
 induction ht with
 | @stop K wL hs=>
   intro x hx;obtain⟨⟨D,t,h1,J,h3⟩,C,A,m,l⟩:=hx;obtain⟨s1,s2,s3,s4,sk,v,s5,s6⟩:=hs;have z:=J.frame t h1.self;have a0:=J.callers t h1.self;rw[s4]at a0;have hv:x.g.frame.tmps[r]?=some v:=by rw[z];show(ka t K.frame.fn K.frame.tmps)[r]?=_;rw[fF t _ _ r (by rw[s1,a7];rfl),s5];simp[dG t v (B v s6)]
   refine bA.step J.run.2.1 λj y=> ?_;have a5:=iZ (P:=X.P) (fr:=x.g.frame) (c:=c) (cs:=cs) (by rw[z];exact sk) (by rw[z];show K.frame.defers.map _=[];rw[s3];rfl) (by rw[z];exact s2) (by rw[z];show X.P.funcs[K.frame.fn]?=_;rw[s1];exact hf) (H _ v j hv).1 (H _ v j hv).2 false
    (g:=x.g) ⟨rfl,by simpa using a0,J.run.2.1,J.run.2.2.2⟩
   refine⟨_,j,_,a5, .inl (dO _ _ _), ?_⟩;show bA X i ⟨ck x.V j j,_,j⟩;rw[cF];exact Q v x.V j s6 l (m.trans ⟨y.own.mono λb s=>s.imp (l b) id,y.live,y.list,y.cells⟩)
 | @go K wL n hn a3 _ ih=>
   intro x hx;obtain⟨⟨D,t,h1,J,h3⟩,C,A,m,l⟩:=hx;refine bA.step J.run.2.1 λj y=> ?_;have hk:eo (oF D t) x.w j:=y.own.mono λb ⟨d,hd,e⟩=> .inl (e▸(h3 d hd).1);have a8:=h1.kept hk;obtain⟨ad,hl⟩:=hn j.tape j.drawn;generalize Z:(n j.tape j.drawn).1=g1 at hl;generalize a4:(n j.tape j.drawn).2=a2 at hl;have N:gQ g1:=(by rw[←Z];exact a3 _ _);have hW:cR G a2.drawn D t (lx wL j.tape j.drawn) j:=cR.re (wL':=lx wL j.tape j.drawn) (wM':=j) a8 rfl rfl λi _=>rfl;have q:bE (lx wL j.tape j.drawn):=λb o ho=>A b o ho;have u:ji (lx wL j.tape j.drawn) j:=by obtain⟨c,e,f,q1,q2,R⟩:=C;exact⟨c,e,f,q1,q2,(y.own.keep _ (.inr S)).trans R⟩
   obtain⟨D1,L,a1,M,aa,q1,q2,R,q4⟩:=oX (mM:=false) E a6 hW q u J hl (d8 _) N λf ab w2 he=>by obtain⟨fn,hf,s⟩:=mw (E.fn t) he;exact a9 f fn hf s
   obtain⟨U,W⟩:=C7 R S q4;have F:∀b,oF D t b->x.V b:=λb ⟨d,hd,e⟩=>e▸(h3 d hd).1;have I:∀b,oF D t b->w0.heap.size<=b:=λb ⟨d,hd,e⟩=>e▸(h3 d hd).2;have T:bT X i V0 w0 j:=m.trans ⟨y.own.mono λb s=>s.imp (l b) id,y.live,y.list,y.cells⟩;have ac:w0.heap.size<=j.heap.size:=T.own.size;have hT:=U.turns;have p:∀b,b<w0.heap.size->¬oF D t b:=λb s hi=>by have:=I b hi;omega
   have O:bT X i V0 j M:=
    ⟨hT.kept λb s=>⟨p b (k.1 b s),by have:=k.1 b s;omega⟩,hT.live (p _ k.2.1) (by have:=k.2.1;omega),hT.list (p _ k.2.2) (by have:=k.2.2;omega),λc _=>hT.cell (a:=X.at c) (p _ k.2.2) (by show X.C<_;have:=k.2.2;omega)⟩
   refine⟨a1,M,aa,q1, .inl (U.mono F), ?_⟩;have Y:=ih j.tape j.drawn (x.next j a1 M);rw[Z,a4]at Y;refine Y ⟨⟨D1,L,R.rel.re rfl rfl λi hi=>o_,q2,λb s=>⟨(W (L b) ⟨b,s,rfl⟩).imp (F _) id, ?_⟩⟩,u.ran E.tab hW R,R.quiet q,T.trans O,λb s=> .inl (l b s)⟩;rcases W (L b) ⟨b,s,rfl⟩with h|h
   ·exact I _ h
   ·omega
theorem zI(h:bO v=true):jL v=false:=by
 cases v with
 |pointer p=>
  cases p with
  |none=>rfl
  |some a=>simp[bO]at h
 |_=>rfl
theorem pG(t:∃fn d,PL.funcs[f]?=some fn/\X.P.funcs[f]?=some d/\fn.ntmps=d.ntmps/\fn.body=d.body/\∃c,fn.body=some c/\pE f c=true)(n:∀v∈args,bO v=true){base:List Frame}
 (u:2<=G/\G<=wL.heap.size/\G<=w.heap.size) (j:ji wL w) (g:bE wL):JD X i G base V w (cd PL f args []) wL ⟨V,cd X.P f args base,w⟩:=by
 obtain⟨fn,d,m,r,q,p,c,o,l⟩:=t;refine⟨⟨λ_=>False,id,⟨λ_ _ e=>e,λb h=>h.elim,λi y=>o_,λb=>Iff.rfl,u,λb h=>h.elim⟩,⟨λa _=> ?_,λa _=>rfl, ?_,trivial,rfl,rfl,rfl,rfl⟩,λb h=>h.elim⟩,j,g,bT.refl X i V w,λb h=>h⟩
 ·have e:args=args.map (aE a):=by
   apply Wq
   ·simp
   ·intro k x z;simp[dG a _ (n _ (Ww x))]
  show t4 X.P f args .normal=bF a (t4 PL f args .normal);have:=ou (ρ:=a) (PL:=PL) (PM:=X.P) (f:=f) ⟨fn,d,m,r,q,p⟩ args (λv s=>zI (n v s)) (E5 l) .normal;rw[←e]at this;exact this
 ·refine⟨⟨⟨rfl,rfl, .inl rfl,λ_=>rfl⟩, ?_⟩,gH λ_ _ e=>by cases e⟩;simp only[cd,t4,m,Option.bind_some,o,y9,kt,List.all_nil,Bool.and_true];exact E6 l
end
end
section
open Go.Conc
theorem ln(a:fr.mode= .run)(main:Bool)(cs:List Frame)(w:World):stepG P main {frame:=fr,callers:=cs,status:= .running,dying:=none} w=stepG.exec P main true fr cs none w:=by unfold stepG;simp only[a]
theorem bA.exec(c:fr.mode= .run)(h:∀a,bT X i V w a->∃g' w' es,stepG.exec X.P false true fr cs none a= .go g' w' es/\cB V X.RO a w' es/\bA X i ⟨ck V a w',g',w'⟩):
 bA X i ⟨V,{frame:=fr,callers:=cs,status:= .running,dying:=none},w⟩:=
 bA.own rfl λa b=>let ⟨g',w',es,h1,h2,h3⟩:=h a b;⟨g',w',es,(ln c false cs a).trans h1,h2,h3⟩
theorem bA.plain{t:List Item}(d:fr.mode= .run)(c:bZ fr=some t)(h:∀a,bT X i V w a->bA X i ⟨V,{frame:={fr with todo:=t},callers:=cs,status:= .running,dying:=none},a⟩):
 bA X i ⟨V,{frame:=fr,callers:=cs,status:= .running,dying:=none},w⟩:=by refine bA.exec d λa b=>⟨_,a,#[],jF c,dO _ _ _, ?_⟩;rw[cF];exact h a b
theorem cB.sub{a:Array Event}(h:cB V RO w w' es)(b:∀e∈a,e∈es):cB V RO w w' a:=⟨h.keep,h.size,h.os,h.output,h.tape,λe c=>h.ev e (b e c)⟩
theorem mr(P:Program)(fr:Frame)(es:Array Event):∀e∈seen P fr.fn (if fr.kind== .early then #[]else es),e∈es:=λe b=>by
 have a:=dp _ _ _ e b;split at a
 ·simp at a
 ·exact a
theorem bA.oper{k:List Item}(p:fr.mode= .run)(j:fr.todo= .inRegion ops (n::rest)::k)(m:ops[n]?=some o)(l:jd o (yielded ops fr.tmps)=true)(g:∀c,o.op≠ .defer c)
 (h:∀a,bT X i V w a->∃f w' es,(execOp fr.eval o).runT X.P a #[]=(.ok f w',es)/\zT f=true/\cB V X.RO a w' es/\bA X i ⟨ck V a w',iJ X.P fr cs f,w'⟩):
 bA X i ⟨V,{frame:=fr,callers:=cs,status:= .running,dying:=none},w⟩:=by
 refine bA.exec p λa b=> ?_;obtain⟨f,w',es,x,v,u,t⟩:=h a b;have q:ek fr:=λd w r s k e=>by rw[j]at e;cases e
 exact⟨_,w',_,(da j m l g).trans (dD (cs:=cs) q x v),u.sub (mr _ _ _),t⟩
section
variable{c:Frame}{k:List Item}
theorem bA.range{f:Operand}{q:Array Tmp}{a b:Code}(u:fr.mode= .run)(t:fr.todo= .code (.rangeFunc f q a b)::k)
 (h:∀g,bT X i V w g->∃l c p j o w' es1,(Am fr.fn fr.tmps q a b fr.roundOf).runT X.P g #[]=(.ok (l,c) p,j)/\(cJ (bW fr k l c) f l).runT X.P p #[]=(.ok o w',es1)/\zT o=true/\
   cB V X.RO g w' (j++es1)/\bA X i ⟨ck V g w',iJ X.P (bW fr k l c) cs o,w'⟩):
 bA X i ⟨V,{frame:=fr,callers:=cs,status:= .running,dying:=none},w⟩:=by
 refine bA.exec u λg m=> ?_;obtain⟨l,c,p,j,o,w',es1,B,A,z,y,x⟩:=h g m;have v:ek (bW fr k l c):=λd w r s k e=>by cases e
 refine⟨_,w',seen X.P fr.fn j++seen X.P (bW fr k l c).fn (if (bW fr k l c).kind== .early then #[]else es1), ?_,y.sub λe n=> ?_,x⟩
 ·rw[fL t B,dD (cs:=cs) v A z];rfl
 ·rcases Hh.1 n with n|n
  ·exact Hh.2 (.inl (dp _ _ _ e n))
  ·exact Hh.2 (.inr (mr _ _ _ e n))
theorem bA.round(g:fr.mode= .run)(f:fr.todo= .beginRound::k)
 (h:∀a,bT X i V w a->∃c w' es,(gC fr).runT X.P a #[]=(.ok c w',es)/\zT c=true/\cB V X.RO a w' es/\bA X i ⟨ck V a w',iJ X.P fr cs c,w'⟩):
 bA X i ⟨V,{frame:=fr,callers:=cs,status:= .running,dying:=none},w⟩:=by
 refine bA.exec g λa b=> ?_;obtain⟨c,w',es,o,n,m,l⟩:=h a b;have j:ek fr:=λd w r s k e=>by rw[f]at e;cases e
 exact⟨_,w',_,(jQ f).trans (dD (cs:=cs) j o n),m.sub (mr _ _ _),l⟩
theorem bA.roundEnds{j:Option Code}(d:fr.mode= .run)(g:gk fr j)(e:fr.roundOf=some l)(f:fr.kind= .normal)
 (h:∀a,bT X i V w a->∃v w' es,(IQ l j).runT X.P a #[]=(.ok v w',es)/\cB V X.RO a w' es/\bA X i ⟨ck V a w',{frame:=c.finish v,callers:=cs,status:= .running,dying:=none},w'⟩):
 bA X i ⟨V,{frame:=fr,callers:=c::cs,status:= .running,dying:=none},w⟩:=by refine bA.exec d λa b=> ?_;obtain⟨v,w',es,n,m,k⟩:=h a b;exact⟨_,w',_,po g e f n,m.sub (dp _ _ _),k⟩
theorem bA.rangeEnds(e:fr.mode= .run)(d:fr.todo= .endRangeFunc l::k)
 (h:∀a,bT X i V w a->∃b w' es,(Iz l).runT X.P a #[]=(.ok b w',es)/\cB V X.RO a w' es/\bA X i ⟨ck V a w',{frame:={fr with todo:=(b.map Ws).toList++k},callers:=cs,status:= .running,dying:=none},w'⟩):
 bA X i ⟨V,{frame:=fr,callers:=cs,status:= .running,dying:=none},w⟩:=by refine bA.exec e λa c=> ?_;obtain⟨b,w',es,j,g,f⟩:=h a c;exact⟨_,w',_,jh d j,g.sub (dp _ _ _),f⟩
theorem bA.store(t:fr.mode= .run)(l:fr.todo= .inRegion ops (n::rest)::k)(q:ops[n]?=some o)(m:jd o (yielded ops fr.tmps)=true)(g:∀c,o.op≠ .defer c)(u:fr.kind= .normal)
 (p:∀e:Event,(∃a,e.loc= .cell a)->seen X.P fr.fn #[e]=#[e])
 (h:∀b,bT X i V w b->∃c v,X.mine i c/\(execOp fr.eval o).runT X.P b #[]=(.ok .skip (b.setCell (X.at c) v),#[⟨.cell (X.at c),true,false⟩])/\bA X i ⟨V,{frame:=fr.finish undef,callers:=cs,status:= .running,dying:=none},b.setCell (X.at c) v⟩):
 bA X i ⟨V,{frame:=fr,callers:=cs,status:= .running,dying:=none},w⟩:=by
 refine bA.put rfl λb f=> ?_;obtain⟨c,v,A,z,y⟩:=h b f;have x:ek fr:=λd w r s k e=>by rw[l]at e;cases e
 refine⟨{frame:=fr.finish undef,callers:=cs,status:= .running,dying:=none},c,v,A, ?_,y⟩;rw[ln t,da l q m g,dD (cs:=cs) x z rfl];have j:(fr.kind==CallKind.early)=false:=by rw[u];rfl
 simp only[j,qD,↓reduceIte];rw[p _ ⟨_,rfl⟩];rfl
end
section
variable(P:Program){r:Loop}
theorem vW(h:w.heap[l]?=some (.loop r))(b:args.size=r.params.size):
 (Vi l args).runT P w #[]=(.ok (.round l r.fn ((r.params.zip args).foldl (λtmps (t,a)=>tmps.setIfInBounds t a) r.tmps) r.assign r.body) w,#[⟨.obj l,false,false⟩]):=by simp[-AT,Vi,Rm,getObj,bind,BW,G4,pure,Xv,h,b]
theorem mb(h:w.heap[l]?=some (.loop r))(j:Option Code):
 (IQ l j).runT P w #[]=(.ok (.bool j.isNone) {w with heap:=w.heap.setIfInBounds l (.loop {r with state:=if j.isNone then .ready else .done,pending:=j})},#[⟨.obj l,false,false⟩,⟨.obj l,true,false⟩]):=by simp[-AT,IQ,Rm,getObj,setObj,bind,BW,G4,pure,Xv,h]
theorem rX(h:w.heap[l]?=some (.loop r))(a:r.state= .ready):
 (Iz l).runT P w #[]=(.ok r.pending {w with heap:=w.heap.setIfInBounds l (.loop {r with state:= .exhausted})},#[⟨.obj l,false,false⟩,⟨.obj l,true,false⟩]):=by simp[-AT,Iz,Rm,getObj,setObj,bind,BW,G4,pure,Xv,h,a]
end
section
variable(P:Program)
theorem oC(fn:FuncId)(tmps:Array Value)(c:Array Tmp)(a b:Code):
 (Am fn tmps c a b none).runT P w #[]=(.ok (w.heap.size+1,[{target:= .collected w.heap.size,args:=#[]}])
   ((w.alloc (.deferred (some []))).alloc (.loop {state:= .ready,pending:=none,fn,tmps,params:=c,assign:=a,body:=b,defers:=w.heap.size})),#[]):=by simp[-AT,Am,newObj,bind,BW,G4,pure];rfl
theorem zu(h:w.heap[l]?=some (.deferred (some ds))):
 (Jd l).runT P w #[]=(.ok ds {w with heap:=w.heap.setIfInBounds l (.deferred none)},#[⟨.obj l,false,false⟩,⟨.obj l,true,false⟩]):=by simp[-AT,Jd,getObj,setObj,bind,BW,G4,pure,Xv,h]
end
theorem bA.take{a:Array Value}{rest:List Deferred}(m:fr.mode= .returning)(o:fr.defers={target:= .collected l,args:=a}::rest)(j:V l)(n:w.heap[l]?=some (.deferred (some ds)))
 (h:∀c,bT X i V w c->bA X i ⟨V,{frame:={fr with defers:=ds++rest},callers:=cs,status:= .running,dying:=none},{c with heap:=c.heap.setIfInBounds l (.deferred none)}⟩):
 bA X i ⟨V,{frame:=fr,callers:=cs,status:= .running,dying:=none},w⟩:=by
 refine bA.own rfl λc d=> ?_;have g:c.heap[l]?=some (.deferred (some ds)):=(d.own.keep l (.inl j)).trans n;refine⟨{frame:={fr with defers:=ds++rest},callers:=cs,status:= .running,dying:=none},{c with heap:=c.heap.setIfInBounds l (.deferred none)},seen X.P fr.fn #[⟨.obj l,false,false⟩,⟨.obj l,true,false⟩], ?_, ?_, ?_⟩
 ·unfold stepG;simp only[m,unwind,o,zu X.P g,mX,Array.append_empty]
 ·refine cB.sub (es:=#[⟨.obj l,false,false⟩,⟨.obj l,true,false⟩]) ⟨λb _ p=> ?_,s_,rfl,rfl,rfl,λe k=> ?_⟩ (dp _ _ _)
  ·have f:l≠b:=λe=>p (e▸j);exact sN f
  ·simp only[MB,AI,Af,or_false]at k;rcases k with rfl|rfl<;>exact⟨rfl, .inl j⟩
 ·have e:ck V c {c with heap:=c.heap.setIfInBounds l (.deferred none)}=V:=by
   funext b
   apply propext;exact⟨λh=>h.elim id λh=>absurd h.2 (by simpa using h.1), .inl⟩
  rw[e];exact h c d
section
theorem CI{a:Nat->Prop}(h:∀b,V b->a b)(w w':World)(b:Nat):ck V w w' b->ck a w w' b:=λc=>c.imp (h b) id
theorem bT.less{c:Nat->Prop}(h:∀b,V b->c b){a:World}(r:bT X i c w a):bT X i V w a:=⟨r.own.mono λb d=>d.imp (h b) id,r.live,r.list,r.cells⟩
theorem bA.more{x:fh}(j:bA X i x):∀d,(∀b,x.V b->d b)->bA X i ⟨d,x.g,x.w⟩:=by
 refine j (λx=>∀d,(∀b,x.V b->d b)->bA X i ⟨d,x.g,x.w⟩) (λx f d e=> ?_) λx k l d e=> ?_
 ·exact bA.stop ⟨f.1,λa c=>f.2 a (c.less e)⟩
 ·refine bA.step k λa c=> ?_;obtain⟨p,g,q,o,n,m⟩:=l a (c.less e);exact⟨p,g,q,o,n.imp (λh=>h.mono e) id,m _ (CI e _ _)⟩
abbrev gB(fr:Frame)(cs:List Frame):Goroutine:={frame:=fr,callers:=cs,status:= .running,dying:=none}
def Wk(X:bS)(i:Nat)(V:Nat->Prop)(fr:Frame)(cs:List Frame)(w0:World):Prop:=∀w,bT X i V w0 w->bA X i ⟨V,gB fr cs,w⟩
theorem Wk.now(h:Wk X i V fr cs w):bA X i ⟨V,gB fr cs,w⟩:=h w (bT.refl X i V w)
variable{b:Frame}{k:List Item}
theorem Wk.plain{t:List Item}(f:bZ (b.atR a k)=some t)(h:Wk X i V (b.atR a t) cs w0):Wk X i V (b.atR a k) cs w0:=λ_ e=>bA.plain rfl f λc d=>h c (e.trans d)
theorem Wk.value(v:Value)(l:ops[n]?=some o)(m:jd o (yielded ops a.tmps)=true)(j:∀c,o.op≠ .defer c)
 (p:∀w,bT X i V w0 w->(execOp a.eval o).run X.P w= .ok (.value v) w/\∀e∈(execOp a.eval o).events X.P w #[],gv V X.RO e)
 (h:Wk X i V (b.atR (a.put o.dst v) (.inRegion ops rest::k)) cs w0):Wk X i V (b.atR a (.inRegion ops (n::rest)::k)) cs w0:=λw g=>by
 refine bA.oper rfl rfl l m j λd f=> ?_;obtain⟨r,q⟩:=p d (g.trans f);refine⟨.value v,d,(execOp a.eval o).events X.P d #[], ?_,rfl,pT q, ?_⟩
 ·rw[Iu,AT,r]
 ·rw[cF];show bA X i ⟨V,gB ((b.atR a (.inRegion ops (n::rest)::k)).finish v) cs,d⟩;rw[BR,l];exact h d (g.trans f)
theorem Wk.make(h:ops[n]?=some o)(j:jd o (yielded ops a.tmps)=true)(g:∀c,o.op≠ .defer c)
 (l:∀w,bT X i V w0 w->∃v w',(execOp a.eval o).run X.P w= .ok (.value v) w'/\cB V X.RO w w' ((execOp a.eval o).events X.P w #[])/\
   Wk X i (ck V w w') (b.atR (a.put o.dst v) (.inRegion ops rest::k)) cs w'):Wk X i V (b.atR a (.inRegion ops (n::rest)::k)) cs w0:=λw f=>by
 refine bA.oper rfl rfl h j g λd e=> ?_;obtain⟨v,w',q,p,m⟩:=l d (f.trans e);refine⟨.value v,w',(execOp a.eval o).events X.P d #[], ?_,rfl,p, ?_⟩
 ·rw[Iu,AT,q]
 ·show bA X i ⟨ck V d w',gB ((b.atR a (.inRegion ops (n::rest)::k)).finish v) cs,w'⟩;rw[BR,h];exact m.now
theorem Wk.enter(q:ops[n]?=some o)(m:jd o (yielded ops a.tmps)=true)(l:∀c,o.op≠ .defer c)
 (p:∀w,bT X i V w0 w->(execOp a.eval o).run X.P w= .ok (.enter f args) w/\∀e∈(execOp a.eval o).events X.P w #[],gv V X.RO e)
 (h:Wk X i V (t4 X.P f args .normal) (b.atR a (.inRegion ops (n::rest)::k)::cs) w0):Wk X i V (b.atR a (.inRegion ops (n::rest)::k)) cs w0:=λw j=>by
 refine bA.oper rfl rfl q m l λd g=> ?_;obtain⟨s,r⟩:=p d (j.trans g);refine⟨.enter f args,d,(execOp a.eval o).events X.P d #[], ?_,rfl,pT r, ?_⟩
 ·rw[Iu,AT,s]
 ·rw[cF];exact h d (j.trans g)
theorem Wk.yields{r:Loop}(x:ops[n]?=some o)(s:jd o (yielded ops a.tmps)=true)(j:∀c,o.op≠ .defer c)(q:V l)(y:w0.heap[l]?=some (.loop r))(u:args.size=r.params.size)
 (v:∀w,(execOp a.eval o).runT X.P w #[]=(Vi l args).runT X.P w #[])
 (h:Wk X i V (Frame.round l r.fn ((r.params.zip args).foldl (λtmps (t,a)=>tmps.setIfInBounds t a) r.tmps) r.assign r.body .normal) (b.atR a (.inRegion ops (n::rest)::k)::cs) w0):Wk X i V (b.atR a (.inRegion ops (n::rest)::k)) cs w0:=λw g=>by
 refine bA.oper rfl rfl x s j λd f=> ?_;have m:d.heap[l]?=some (.loop r):=((g.trans f).own.keep l (.inl q)).trans y;refine⟨.round l r.fn ((r.params.zip args).foldl (λtmps (t,a)=>tmps.setIfInBounds t a) r.tmps) r.assign r.body,d,_, ?_,rfl,pT (es:=#[⟨.obj l,false,false⟩]) ?_, ?_⟩
 ·rw[Iu,v,vW X.P m u]
 ·intro e p;simp only[MB,NQ]at p;subst p;exact⟨rfl,q⟩
 ·rw[cF];exact h d (g.trans f)
end
theorem dq(c:P.funcs[f]?=some fn)(a:(fn.name== "runtime.NumGoroutine")=false)(b:fn.body.isNone=false)(args:Array Value):(callFunc f args).runT P w #[]=(.ok (.enter f args) w,#[]):=by
 have g:¬fn.name= "runtime.NumGoroutine" :=by simpa using a
 have d:¬fn.body=none:=λe=>by rw[e]at b;simp at b
 simp[-AT,callFunc,bind,BW,G4,pure,program,c,g,d]
theorem pM(d:P.funcs[f]?=some fn)(a:(fn.name== "runtime.NumGoroutine")=false)(g:fn.body.isNone=false){first b:Array Value}(c:fr.eval x= .func (.func f) first b)(l:Nat):
 (cJ fr x l).runT P w #[]=(.ok (.enter f (first++#[.func (.yield l) #[] #[]]++b)) w,#[]):=by
 have e:cJ fr x l=callFunc f (first++#[.func (.yield l) #[] #[]]++b):=by unfold cJ resolve og Deferred.ofValue;simp only[c];simp[invoke,bind,BW,pure,Frame.eval]
 rw[e,dq d a g]
section
variable{b:Frame}{k:List Item}
theorem Wk.draw{id:Nat}(h:∀t,Wk X i V (b.atR a (.inRegion ops (Region.schedule (X.P.follows .mixedOrders) ops t)::k)) cs w0):Wk X i V (b.atR a (.code (.region id ops true)::k)) cs w0:=λw f=>by
 refine bA.exec rfl λc d=> ?_;have g:(choose (.order (b.atR a (.code (.region id ops true)::k)).fn id)).run X.P c= .ok (c.tape c.drawn (.order b.fn id)) {c with drawn:=c.drawn+1}:=by simp[choose,Sem.run,Question.forced,Question.cut,Yj]
 have j:bT X i V c {c with drawn:=c.drawn+1}:=⟨⟨λ_ _=>rfl,d8 _,rfl,rfl,rfl⟩,λh=>h,λh=>h,λ_ _=>rfl⟩;refine⟨_,_,#[],lH rfl g,⟨λ_ _ _=>rfl,d8 _,rfl,rfl,rfl,λe l=>by simp at l⟩, ?_⟩;have e:ck V c {c with drawn:=c.drawn+1}=V:=cF V c;rw[e];exact h _ _ ((f.trans d).trans j)
theorem Wk.order{md:Y7}(e:Nat->Array Bool->Act->World->Prop)
 (g:∀c a w,e 0 c a w->Wk X i V (b.atR a (.inRegion ops []::k)) cs w)
 (l:∀d c a w,e (d+1) c a w->CL md ops c=[]->Wk X i V (b.atR a (.inRegion ops []::k)) cs w)
 (f:∀d c a w n rest,e (d+1) c a w->n∈CL md ops c->(∀a' w',e d (c.setIfInBounds n true) a' w'->Wk X i V (b.atR a' (.inRegion ops rest::k)) cs w')->
   Wk X i V (b.atR a (.inRegion ops (n::rest)::k)) cs w):
 ∀(d t:Nat) (c:Array Bool) (a:Act) (w:World),e d c a w->Wk X i V (b.atR a (.inRegion ops (Bt.go md ops d t c [])::k)) cs w:=by
 intro d;induction d with
 |zero=>intro t c a w h;simpa[Bt.go]using g c a w h
 |succ d r=>
  intro t c a w h;have p:Bt.go md ops (d+1) t c []=(match (CL md ops c)[t%(CL md ops c).length]? with
   |some i=>Bt.go md ops d (t/(CL md ops c).length) (c.setIfInBounds i true) [i]
   |none=>[].reverse):=by simp only[Bt.go];rfl
  rw[p];cases o:(CL md ops c)[t%(CL md ops c).length]? with
  |none=>
   have j:CL md ops c=[]:=by
    cases s:CL md ops c with
    |nil=>rfl
    |cons x q=>
     rw[s]at o;have m:t%(x::q).length<(x::q).length:=Nat.mod_lt _ s_;simp at o;simp at m;omega
   exact l d c a w h j
  |some n=>
   show Wk X i V (b.atR a (.inRegion ops (Bt.go md ops d (t/(CL md ops c).length) (c.setIfInBounds n true) [n])::k)) cs w;rw[linearise_go_acc,List.reverse_singleton,List.singleton_append];exact f d c a w n _ h (mG o) λa' w' u=>r _ _ a' w' u
def kI(V:Nat->Prop)(w:World)(b:Nat):Prop:=V b\/b=w.heap.size\/b=w.heap.size+1
def cT(w:World)(r:Loop):World:=(w.alloc (.deferred (some []))).alloc (.loop r)
theorem bK(w:World)(r:Loop){b:Nat}(a:b<w.heap.size):(cT w r).heap[b]?=w.heap[b]?:=by show((w.heap.push _).push _)[b]?=_;rw[DY,if_neg (by rw[Vs];omega),DY,if_neg o_]
theorem eN(w:World)(r:Loop):(cT w r).heap[w.heap.size]?=some (.deferred (some [])):=by show((w.heap.push _).push _)[w.heap.size]?=_;rw[DY,if_neg (by rw[Vs];omega),DY,if_pos rfl]
theorem eM(w:World)(r:Loop):(cT w r).heap[w.heap.size+1]?=some (.loop r):=by show((w.heap.push _).push _)[w.heap.size+1]?=_;rw[DY,if_pos (by rw[Vs])]
theorem gZ(w:World)(r:Loop):(cT w r).heap.size=w.heap.size+2:=by show((w.heap.push _).push _).size=_;rw[Vs,Vs]
theorem Wk.range{d:Array Tmp}{j g:Code}{first m:Array Value}(y:b.roundOf=none)(u:X.P.funcs[f]?=some fn)(l:(fn.name== "runtime.NumGoroutine")=false)(q:fn.body.isNone=false)(r:a.eval x= .func (.func f) first m)
 (h:∀w,bT X i V w0 w->Wk X i (kI V w) (t4 X.P f (first++#[.func (.yield (w.heap.size+1)) #[] #[]]++m) .normal)
   (b.atR ⟨a.tmps,{target:= .collected w.heap.size,args:=#[]}::a.defers⟩ (.inRangeFunc (w.heap.size+1)::k)::cs)
   (cT w {state:= .ready,pending:=none,fn:=b.fn,tmps:=a.tmps,params:=d,assign:=j,body:=g,defers:=w.heap.size})):
 Wk X i V (b.atR a (.code (.rangeFunc x d j g)::k)) cs w0:=λw s=>by
 refine bA.range rfl rfl λc o=> ?_;have A:(Am (b.atR a (.code (.rangeFunc x d j g)::k)).fn (b.atR a (.code (.rangeFunc x d j g)::k)).tmps d j g (b.atR a (.code (.rangeFunc x d j g)::k)).roundOf).runT X.P c #[]=(.ok (c.heap.size+1,[{target:= .collected c.heap.size,args:=#[]}])
  (cT c {state:= .ready,pending:=none,fn:=b.fn,tmps:=a.tmps,params:=d,assign:=j,body:=g,defers:=c.heap.size}),#[]):=by rw[show(b.atR a (.code (.rangeFunc x d j g)::k)).roundOf=none from y];exact oC X.P _ _ _ _ _
 have p:(bW (b.atR a (.code (.rangeFunc x d j g)::k)) k (c.heap.size+1) [{target:= .collected c.heap.size,args:=#[]}]).eval x= .func (.func f) first m:=by rw[←r,←Iu b a (.code (.rangeFunc x d j g)::k)];cases x<;>rfl
 refine⟨_,_,_,_,_,_,#[],A,pM u l q p _,rfl, ?_, ?_⟩
 ·refine⟨λn t _=>bK c _ t, ?_,rfl,rfl,rfl,λe v=>by simp at v⟩;show _<=(cT c _).heap.size;rw[gZ];omega
 ·have z:ck V c (cT c {state:= .ready,pending:=none,fn:=b.fn,tmps:=a.tmps,params:=d,assign:=j,body:=g,defers:=c.heap.size})=kI V c:=by
   funext n
   apply propext;unfold ck kI;rw[gZ];constructor
   ·rintro(h|h)
    ·exact .inl h
    ·exact .inr o_
   ·rintro(h|h)
    ·exact .inl h
    ·exact .inr o_
  show bA X i ⟨ck V c (cT c _),_,cT c _⟩;rw[z];exact(h c (s.trans o)).now
def bP(w:World)(l:Nat)(r:Loop):World:={w with heap:=w.heap.setIfInBounds l (.loop r)}
theorem il(r:Loop)(c:V l):cB V RO w (bP w l r) #[⟨.obj l,false,false⟩,⟨.obj l,true,false⟩]:=by
 refine⟨λn _ d=> ?_,by simp[bP],rfl,rfl,rfl,λe b=> ?_⟩
 ·have a:l≠n:=λe=>d (e▸c);exact sN a
 ·simp only[MB,AI,Af,or_false]at b;rcases b with rfl|rfl<;>exact⟨rfl, .inl c⟩
theorem fQ(V:Nat->Prop)(w:World)(l:Nat)(r:Loop):ck V w (bP w l r)=V:=by
 funext n
 apply propext;exact⟨λh=>h.elim id λh=>absurd h.2 (by simpa[bP]using h.1), .inl⟩
theorem Wk.rounds{r:Loop}(o:b.roundOf=some l)(m:V l)(p:w0.heap[l]?=some (.loop r))(n:r.state= .ready)(h:∀w,bT X i V w0 w->Wk X i V (b.atR a k) cs (bP w l {r with state:= .busy})):Wk X i V (b.atR a (.beginRound::k)) cs w0:=λw j=>by
 refine bA.round rfl rfl λc d=> ?_;have g:c.heap[l]?=some (.loop r):=((j.trans d).own.keep l (.inl m)).trans p;have e:(gC (b.atR a (.beginRound::k))).runT X.P c #[]=(.ok .skip (bP c l {r with state:= .busy}),#[⟨.obj l,false,false⟩,⟨.obj l,true,false⟩]):=by have f:(b.atR a (.beginRound::k)).roundOf=some l:=o;simp[-AT,gC,f,Instr.beginRound,Rm,getObj,setObj,bind,BW,G4,pure,Xv,g,n,bP]
 refine⟨_,_,_,e,rfl,il _ m, ?_⟩;rw[fQ];exact(h c (j.trans d)).now
theorem Wk.through{r:Loop}{c:Frame}(m:b.roundOf=some l)(n:b.kind= .normal)(k:V l)(o:w0.heap[l]?=some (.loop r))(h:∀w,bT X i V w0 w->Wk X i V (c.finish (.bool true)) cs (bP w l {r with state:= .ready,pending:=none})):Wk X i V (b.atR a []) (c::cs) w0:=λw g=>by refine bA.roundEnds (j:=none) rfl (.done rfl) m n λd e=> ?_;have f:d.heap[l]?=some (.loop r):=((g.trans e).own.keep l (.inl k)).trans o;refine⟨_,_,_,mb X.P f none,il _ k, ?_⟩;have p:=fQ V d l {r with state:= .ready,pending:=none};show bA X i ⟨ck V d (bP d l {r with state:= .ready,pending:=none}),_,bP d l {r with state:= .ready,pending:=none}⟩;rw[p];exact(h d (g.trans e)).now
theorem Wk.rangeOver{r:Loop}(g:V l)(n:w0.heap[l]?=some (.loop r))(j:r.state= .ready)(m:r.pending=none)(h:∀w,bT X i V w0 w->Wk X i V (b.atR a k) cs (bP w l {r with state:= .exhausted})):Wk X i V (b.atR a (.endRangeFunc l::k)) cs w0:=λw f=>by
 refine bA.rangeEnds rfl rfl λc d=> ?_;have e:c.heap[l]?=some (.loop r):=((f.trans d).own.keep l (.inl g)).trans n;refine⟨_,_,_,rX X.P e j,il _ g, ?_⟩;have p:=fQ V c l {r with state:= .exhausted};show bA X i ⟨ck V c (bP c l {r with state:= .exhausted}),_,bP c l {r with state:= .exhausted}⟩;have o:(r.pending.map Ws).toList++k=k:=by rw[m];rfl
 rw[p,o];exact(h c (f.trans d)).now
theorem Wk.ends(j:b.roundOf=none)(g:k=[]\/∃e,k= .code .ret::e)(h:Wk X i V {b.atR a k with mode:= .returning} cs w0):Wk X i V (b.atR a k) cs w0:=λw f=>by refine bA.exec rfl λc d=>⟨_,c,#[],lG ⟨j,g⟩,dO _ _ _, ?_⟩;rw[cF];exact h c (f.trans d)
theorem Wk.leave{c:Frame}(v:Value)(j:b.kind= .normal)(m:a.defers=[])(l:X.P.funcs[b.fn]?=some fn)(f:∀w,(results fn a.tmps).run X.P w= .ok v w/\(results fn a.tmps).events X.P w #[]=#[])
 (h:Wk X i V (c.finish v) cs w0):Wk X i V {b.atR a k with mode:= .returning} (c::cs) w0:=λw g=>by refine bA.own rfl λd e=>⟨_,d,#[],iZ (fr:={b.atR a k with mode:= .returning}) (c:=c) (cs:=cs) j m rfl l (f d).1 (f d).2 false ⟨rfl,rfl,rfl,rfl⟩,dO _ _ _, ?_⟩;rw[cF];exact h d (g.trans e)
end
end
section
open Go Go.Conc
open Go.ConcN (WgLive)
open Go.ConcR (KK WgAt stA smA rd wr mk DC0)
open Go.ConcN.Gen Go.RowKit Go.Conc.Lib Go.ConcR.Gen
section
variable{L:WgLink}
theorem fO{a:World}(h:WgLive X.ty X.Wg w)(r:bT X i V w a):WgLive X.ty X.Wg a:=r.live h
theorem J4(X:bS)(H:WgLib X.P L){c:Frame}(w:World)(a:WgLive X.ty X.Wg w):
 Goes X.P false (bT X i V) DC0 (Ds X.P false (bT X i V) (.releaseMerge (stA X.Wg))) 30 (G ((baseD L.done).at ⟨#[.pk X.Wg 0,undef,undef,undef],[]⟩ [.code (body_done L)]) (c::cs)) w:=by
 lib_facts
 simp only[body_done,doneFn,y9]
 u_reg fO a
 u_op fO a
 u_call H.f_add (nm_add L) addFn fO a
 iterate 11 (first
  |u_c stepG_seq fO a
  |u_c stepG_region_end fO a
  |u_reg fO a
  |u_cond true fO a
  |u_op fO a)
 u_in fO a
 refine goes_oper_k rfl rfl (by k_ne) (λk d=> ?_);have g:=run_convert_to_unsafe (P:=X.P) H.underlying_tWgP H.underlying_tUP H.room_tWg (R0 a).choose_spec;have b:=λj=>events_convert_to_unsafe (P:=X.P) H.underlying_tWgP H.underlying_tUP H.room_tWg (R0 a).choose_spec j
 go_simp
 refine d _ _ ⟨?_, ?_⟩
 ·u_none
  intro o f;have e:=mem_listed f;simp[go_sem,b]at e
 clear d k g b;refine OT (λm h=> ?_)
 replace a:=fO a h
 clear h;refine⟨rfl,_,stepG_markAt .releaseMerge s_ rfl rfl (by k_ne) rfl H.f_relMerge (x_relMerge_n L) (x_relMerge_b L) (x_relMerge_x L) (x_relMerge_f L) (by simp[Act.eval,stA]),10, ?_⟩
 walk_nrm
 u_c stepG_region_end fO a
 u_c stepG_seq fO a
 u_reg fO a
 refine OT (λl n=> ?_);exact⟨_,stepG_mark0 .disable s_ rfl rfl (by k_ne) rfl H.f_disable (x_disable_n L) (x_disable_b L) (x_disable_x L) (x_disable_f L)⟩
theorem bA.of_stop{c:Goroutine->World->Prop}{I:World->Prop}(k:∀w a,I w->bT X i V w a->I a)(j:∀g w,I w->(∀a,bT X i V w a->c g a)->bA X i ⟨V,g,w⟩):
 ∀{m:Nat} {g:Goroutine} {w:World},I w->Goes X.P false (bT X i V) DC0 c m g w->bA X i ⟨V,g,w⟩
 |0,g,w,hw,h=>j g w hw h
 |m+1,g,w,hw,h=>by
  rcases h with h|⟨n,h⟩
  ·exact j g w hw h
  ·refine bA.step n λa b=> ?_;have f:=h a b;cases d:stepG X.P false g a with
   |go l e r=>
    rw[d,goes_go]at f;obtain⟨⟨q,p⟩,o⟩:=f;subst q p;refine⟨l,e,_,rfl, .inl (dO _ _ _), ?_⟩;have:=bA.of_stop k j (k _ _ hw b) o;show bA X i ⟨ck V e e,l,e⟩;rw[cF];exact this
   |_=>rw[d]at f;exact f.elim
theorem CU(X:bS)(H:WgLib X.P L)(l:L.tWg=X.ty)(n:X.RO 0){c:Frame}{v:Nat}(t:c.mode= .returning)(B:QuitsD X.P v 0 (G c cs))(x:WgLive X.ty X.Wg w){v0:Value}(C:w.cell? ⟨0,0,none⟩=some v0)
 (d:∀c,X.mine i c->w.cell? (X.at c)=some (X.val c)):bA X i ⟨V,G ((baseD L.done).at ⟨#[.pk X.Wg 0,undef,undef,undef],[]⟩ [.code (body_done L)]) (c::cs),w⟩:=by
 letI:Wc:=ed
 have k:= @a23 ed L X.P H (λ_ _=>False) (λ_ _=>False) X.Wg 0 0 0 1 v0 c cs v t B w ⟨by rw[l];exact x,C⟩;rw[l]at k;have j:=J4 (i:=i) (V:=V) X H (c:=c) (cs:=cs) w x;have m:∀a b,bT X i V a b-> @a11 ed X.ty X.Wg 0 0 0 (1- 1) a b:=λa b r=>
  @Go.ConcN.RW.mk ed _ _ _ _ _ _ _ _ (λb A=>absurd A (M0 _)) r.live (λ⟨cs,p,u⟩=>⟨cs,(r.own.keep 0 (.inr n)).trans p,u⟩) (by unfold AB;rw[show(⟨0,1- 1,none⟩:Addr).block=0 from rfl,r.own.keep 0 (.inr n)])
 have q:=TD (rel:= .releaseMerge (stA X.Wg)) s_ (λw=>bT.refl X i V w) (λw=> @Om ed _ _ _ _ _ _ w) m (λ_ _ _ p u=> @a27 ed _ _ _ _ _ _ _ _ _ p u)
  (λg w s=>let ⟨g',p,_⟩:=s.2.2;⟨g',p⟩) (λa b z=>(z.2 (Go.ConcR.mk .disable) s_).2.1 rfl) _ _ _ _ j k
 refine bA.of_stop (I:=λw=>∀c,X.mine i c->w.cell? (X.at c)=some (X.val c)) (λa b h r c o=>(r.cells c o).trans (h c o)) (λg w y s=> ?_) d q;refine bA.stop ⟨(s w (bT.refl X i V w)).1,λf e=>⟨λc o=>(e.cells c o).trans (y c o), ?_⟩⟩;exact(s f e).2.2
end
end
section
open Go Go.Conc
open Go.ConcN (WgLive)
section
variable{b:Frame}{k:List Item}
theorem Wk.store{c:Nat}(q:ops[n]?=some o)(t:jd o (yielded ops a.tmps)=true)(p:∀c,o.op≠ .defer c)(z:b.kind= .normal)(y:(X.P.funcs[b.fn]?).any (·.norace)=false)(j:X.mine i c)
 (u:∀w,bT X i V w0 w->(execOp a.eval o).run X.P w= .ok .skip (w.setCell (X.at c) v)/\(execOp a.eval o).events X.P w #[]=#[⟨.cell (X.at c),true,false⟩])
 (h:∀w,bT X i V w0 w->Wk X i V (b.atR (a.put o.dst undef) (.inRegion ops rest::k)) cs (w.setCell (X.at c) v)):Wk X i V (b.atR a (.inRegion ops (n::rest)::k)) cs w0:=λw l=>by
 refine bA.store rfl rfl q t p z (λe ⟨x,s⟩=>seen_eq y λC m f r=> ?_) λd g=> ?_
 ·simp only[MB,NQ]at m;subst m;rw[s]at r;cases r
 ·obtain⟨B,A⟩:=u d (l.trans g);refine⟨c,v,j, ?_, ?_⟩
  ·rw[Iu,AT,B,A]
  ·rw[BR,q];exact(h d (l.trans g)).now
theorem Wk.call{G r:Nat}{Val:Value->Prop}(E:kh PL X.P G)(t:X.RO eP)(A:∀f (fn:Func),PL.funcs[f]?=some fn->fn.body.isSome=true->jc PL X.P f)
 (K:X.P.funcs[f]?=some fn) (x:dt f=0) (s:∀(tmps:Array Value) v w,tmps[r]?=some v->(results fn tmps).run X.P w= .ok v w/\(results fn tmps).events X.P w #[]=#[]) (j:∀v,Val v->bO v=true)
 (N:∃fn p,PL.funcs[f]?=some fn/\X.P.funcs[f]?=some p/\fn.ntmps=p.ntmps/\fn.body=p.body/\∃c,fn.body=some c/\pE f c=true) (M:∀v∈args,bO v=true)
  (m:bE wL) (J:gE PL (nX f r Val) (cd PL f args []) wL)
 (O:∀w,bT X i V w0 w->2<=G/\G<=wL.heap.size/\G<=w.heap.size) (q:∀w,bT X i V w0 w->ji wL w) (d:(∀b,V b\/X.RO b->b<w0.heap.size)/\X.Wg<w0.heap.size/\X.C<w0.heap.size)
 (C:ops[n]?=some o) (H:jd o (yielded ops a.tmps)=true) (y:∀c,o.op≠ .defer c) (B:∀w,(execOp a.eval o).run X.P w= .ok (.enter f args) w/\(execOp a.eval o).events X.P w #[]=#[])
 (h:∀v,Val v->Wk X i V (b.atR (a.put o.dst v) (.inRegion ops rest::k)) cs w0):Wk X i V (b.atR a (.inRegion ops (n::rest)::k)) cs w0:=by
 refine Wk.enter C H y (λw _=>⟨(B w).1,λe D=>by rw[(B w).2]at D;simp at D⟩) λw g=> ?_;have l:=g.own.size;refine Br (V0:=V) (w0:=w) E t A K x s j (λc r e Q=>by cases e;intro h;cases h) ⟨λb L=>gK (d.1 b L) l,gK d.2.1 l,gK d.2.2 l⟩ (λv P F I z u=> ?_) J _
  (pG (base:=b.atR a (.inRegion ops (n::rest)::k)::cs) N M (O w g) (q w g) m)
 rw[BR,C];exact(h v I F (g.trans u)).more P z
def uZ(P:Program):Frame:={(default:Frame)with fn:=P.funcs.size,defers:=[],mode:= .panicking [goexitEntry]}
theorem Gy{b:Array Value}(d:P.funcs[f]?=some fn)(a:(fn.name== "runtime.NumGoroutine")=false)(c:fn.body.isNone=false)(w:World):
 stepG P false (born P {target:= .fn (.func f) b,args:=args}) w= .go (gB (t4 P f (args++b) .deferred) [uZ P]) w #[]:=by
 have h:¬fn.name= "runtime.NumGoroutine" :=by simpa using a
 have g:¬fn.body=none:=λe=>by rw[e]at c;simp at c
 simp[born,stepG,unwind,callDeferred,invoke,callFunc,d,h,g,mX,seen_none,uZ]
theorem Wk.born{d:Array Value}(e:X.P.funcs[f]?=some fn)(b:(fn.name== "runtime.NumGoroutine")=false)(g:fn.body.isNone=false)(h:Wk X i V (t4 X.P f (args++d) .deferred) [uZ X.P] w):bA X i ⟨V,Go.Conc.born X.P {target:= .fn (.func f) d,args:=args},w⟩:=by refine bA.own rfl λa c=>⟨_,a,#[],Gy e b g a,dO _ _ _, ?_⟩;rw[cF];exact h a c
theorem Wk.defer{l:Array Operand}{ats:Array TypeId}(p:ops[n]?=some o)(m:jd o (yielded ops a.tmps)=true)(q:b.kind≠ .early)(j:b.roundOf=none)(g:o.op= .defer {callee:= .value (.func f),args:=l,argTypes:=ats})
 (h:Wk X i V (b.atR (Rf ⟨a.tmps,dcall f (l.map a.eval)::a.defers⟩ o.dst undef) (.inRegion ops rest::k)) cs w0):Wk X i V (b.atR a (.inRegion ops (n::rest)::k)) cs w0:=λw e=>by rw[Zg j];rw[Zg j]at h;refine bA.own rfl λc d=>⟨_,c,#[],stepG_defer p m q g,dO _ _ _, ?_⟩;rw[cF];exact h c (e.trans d)
theorem Wk.take(j:a.defers={target:= .collected l,args:=#[]}::ds)(f:V l)(g:w0.heap[l]?=some (.deferred (some [])))
 (h:∀w,bT X i V w0 w->Wk X i V {b.atR ⟨a.tmps,ds⟩ k with mode:= .returning} cs {w with heap:=w.heap.setIfInBounds l (.deferred none)}):Wk X i V {b.atR a k with mode:= .returning} cs w0:=λw e=>by refine bA.take (fr:={b.atR a k with mode:= .returning}) rfl j f ((e.own.keep l (.inl f)).trans g) λc d=> ?_;exact(h c (e.trans d)).now
theorem BH(b:P.funcs[f]?=some fn)(a:fn.results=#[])(T:Array Value)(k:List Item):QuitsD P 2 0 (G {(baseD f).at ⟨T,[]⟩ k with mode:= .returning} [uZ P]):=by
 refine a24 (g':=G (uZ P) []) rfl (λw=> ?_) ?_
 ·simp[G,stepG,unwind,doReturn,results,Frame.at,baseD,uZ,b,a,seen,mX,goexitEntry]
 refine a24 (g':={G (uZ P) []with status:= .finished}) rfl (λw=> ?_) ⟨rfl,rfl⟩;simp[G,stepG,unwind,uZ,goexitEntry,Frame.catches];rfl
theorem Wk.done{L:Z3}(H:Zh X.P L)(l:L.tWg=X.ty)(h:X.RO 0)(q:X.P.funcs[f]?=some fn)(p:fn.results=#[]){T:Array Value}
 {v0:Value} (s:w0.cell? ⟨0,0,none⟩=some v0) (r:WgLive X.ty X.Wg w0) (d:∀c,X.mine i c->w0.cell? (X.at c)=some (X.val c)):
 Wk X i V {(baseD f).atR ⟨T,[dcall L.done #[.pk X.Wg 0]]⟩ k with mode:= .returning} [uZ X.P] w0:=λw j=>by
 refine bA.own rfl λe g=> ?_;have m:=j.trans g;refine⟨_,e,#[],stepG_unwind_enter (b:=baseD f) (a:=⟨T,[dcall L.done #[.pk X.Wg 0]]⟩) (todo:=k) (ds:=[]) rfl H.f_done (a12 L) rfl,dO _ _ _, ?_⟩;rw[cF];have n:e.cell? ⟨0,0,none⟩=some v0:=by rw[←s];unfold AB;rw[m.own.keep 0 (.inr h)]
 exact CU X H l h rfl (BH q p T k) (m.live r) n λc o=>(m.cells c o).trans (d c o)
end
end
section
open Go.Conc
section
def j5(listed:Array Bool):Nat:=listed.toList.count false
theorem oT(h:j5 listed=0)(k:Nat)(a:k<listed.size):listed[k]?=some true:=by
 have b:false∉listed.toList:=List.count_eq_zero.1 h;rw[jm a];cases e:listed[k]with
 |true=>rfl
 |false=>exact absurd (by rw[←e];exact YK.2 (Ww a)) b
theorem mV{f:Nat}(h:j5 listed=f+1):∃k,k<listed.size/\listed[k]?=some false/\∀j,j<k->listed[j]?=some true:=by
 have o:false∈listed.toList:=by apply List.count_pos_iff.1;unfold j5 at h;omega
 have n:∃k:Nat,listed[k]?=some false:=by obtain⟨k,a,e⟩:=Array.getElem_of_mem (YK.1 o);exact⟨k,by rw[jm a,e]⟩
 obtain⟨k,a⟩:=n;induction k using Nat.strongRecOn with
 |ind k i=>
  have c:k<listed.size:=(gA a).1;by_cases g:∃j:Nat,j<k/\listed[j]?=some false
  ·obtain⟨j,m,l⟩:=g;exact i j m l
  ·refine⟨k,c,a,λj d=> ?_⟩;have b:¬listed[j]?=some false:=λe=>g ⟨j,d,e⟩;rw[jm o_]at b⊢;cases e:listed[j]' o_ with
   |true=>rfl
   |false=>rw[e]at b;exact absurd rfl b
theorem oR{f:Nat}(h:j5 listed=f+1)(d:listed[n]?=some false):j5 (listed.setIfInBounds n true)=f:=by
 obtain⟨c,e⟩:=gA d;unfold j5 at h⊢;rw[Array.toList_setIfInBounds];have g:n<listed.toList.length:=by simpa using c
 have:=List.count_set (l:=listed.toList) (i:=n) (a:=true) (b:=false) g;have j:listed.toList[n]=false:=by simpa using e
 rw[this,j,h];rfl
variable{b:Frame}{k:List Item}
theorem Wk.ordered{md:Y7}(s:∀(n:Nat) (o:Oper),ops[n]?=some o->∀e∈o.after,e.on<n)(g:Array Bool->Act->World->Prop)
 (r:∀c a w,(∀n,n<ops.size->c[n]?=some true)->g c a w->Wk X i V (b.atR a (.inRegion ops []::k)) cs w)
 (l:∀c a w n o rest,c.size=ops.size->ops[n]?=some o->c[n]?=some false->(∀e∈o.after,QZ md e=true->c[e.on]?=some true)->g c a w->
   (∀a' w',g (c.setIfInBounds n true) a' w'->Wk X i V (b.atR a' (.inRegion ops rest::k)) cs w')->Wk X i V (b.atR a (.inRegion ops (n::rest)::k)) cs w)
 (t:Nat) (a:Act) (w:World) (G:g (kx ops.size false) a w):Wk X i V (b.atR a (.inRegion ops (Bt md ops t)::k)) cs w:=by
 unfold Bt;refine Wk.order (md:=md) (λf c a w=>c.size=ops.size/\j5 c=f/\g c a w) (λc a w h=> ?_) (λf c a w h B=> ?_) (λf c a w n rest h p m=> ?_) ops.size t _ a w ⟨s_, ?_,G⟩
 ·exact r c a w (λn p=>oT h.2.1 n (by rw[h.1];exact p)) h.2.2
 ·exfalso;obtain⟨n,F,E,D⟩:=mV h.2.1;have d:n<ops.size:=by rw[←h.1];exact F
  have x:n∈CL md ops c:=by unfold CL;rw[Wp];refine⟨Pi.2 d, ?_⟩;rw[jm d];have I:c.getD n true=false:=(by simp[pg,E]);rw[I];simp only[Bool.not_false,d9,y9,Bool.true_and];rw[ET];intro e v;have:=s n _ (jm d) e v;simp[pg,D _ this]
  rw[B]at x;simp at x
 ·unfold CL at p;rw[Wp]at p;obtain⟨u,j⟩:=p;have d:=Pi.1 u;rw[jm d]at j;simp only[d9,y9,d7,Bool.not_eq_true']at j;have y:n<c.size:=by rw[h.1];exact d
  have z:c[n]?=some false:=by have:=j.1;rw[pg,jm y]at this;rw[jm y];simpa using this
  refine l c a w n _ rest h.1 (jm d) z (λe v C=> ?_) h.2.2 λa' w' H=>m a' w' ⟨by simp[h.1],oR h.2.1 z,H⟩;have:=ET.1 j.2 e v;rw[C]at this;simp only[Bool.not_true,Bool.false_or]at this;rw[pg]at this;cases A:c[e.on]? with
  |none=>rw[A]at this;simp at this
  |some q=>rw[A]at this;simp at this;rw[this]
 ·simp[j5]
end
end
section
open Go Go.Conc
open Go.ConcN (WgLive)
def EL(X:bS)(Pap:World->Prop):Prop:=∀w w':World,(∀b,X.RO b->w'.heap[b]?=w.heap[b]?)->w.heap.size<=w'.heap.size->Pap w->Pap w'
structure uX (X:bS) (i:Nat) (Pap:World->Prop) (V:Nat->Prop) (done:Nat->Prop) (w:World):Prop where
 pap:Pap w
 live:WgLive X.ty X.Wg w
 list:X.list w
 cells:∀c,X.mine i c->done c->w.cell? (X.at c)=some (X.val c)
 low:(∀b,V b\/X.RO b->b<w.heap.size)/\X.Wg<w.heap.size/\X.C<w.heap.size
 sep:(∀b,V b->¬X.RO b/\b≠X.C/\b≠X.Wg)/\¬X.RO X.C/\X.C≠X.Wg
section
variable{Pap:World->Prop}{done:Nat->Prop}
theorem uX.rely(f:EL X Pap)(h:uX X i Pap V done w)(r:bT X i V w w'):uX X i Pap V done w':=
 ⟨f w w' (λb a=>r.own.keep b (.inr a)) r.own.size h.pap,r.live h.live,r.list h.list,λc d e=>(r.cells c d).trans (h.cells c d e),
  ⟨λb a=>gK (h.low.1 b a) r.own.size,gK h.low.2.1 r.own.size,gK h.low.2.2 r.own.size⟩,h.sep⟩
theorem uX.own(n:EL X Pap)(h:uX X i Pap V done w)(o:cB V X.RO w w' es):uX X i Pap (ck V w w') done w':=by
 have g:=o.turns;have p:¬V X.Wg:=λf=>(h.sep.1 _ f).2.2 rfl;have j:¬V X.C:=λf=>(h.sep.1 _ f).2.1 rfl;refine⟨n w w' (λb d=>o.keep b (h.low.1 b (.inr d)) λf=>(h.sep.1 b f).1 d) o.size h.pap,g.live p h.low.2.1 h.live,g.list j h.low.2.2 h.list,
  λc m l=>(g.cell (a:=X.at c) j h.low.2.2).trans (h.cells c m l),⟨λb d=> ?_,gK h.low.2.1 o.size,gK h.low.2.2 o.size⟩,⟨λb d=> ?_,h.sep.2⟩⟩
 ·rcases d with(d|d)|d
  ·exact gK (h.low.1 b (.inl d)) o.size
  ·exact d.2
  ·exact gK (h.low.1 b (.inr d)) o.size
 ·rcases d with d|d
  ·exact h.sep.1 b d
  ·refine⟨λk=> ?_,λe=> ?_,λe=> ?_⟩
   ·have:=h.low.1 b (.inr k);omega
   ·have:=h.low.2.2;omega
   ·have:=h.low.2.1;omega
theorem uX.put(q:EL X Pap)(h:uX X i Pap V done w){c:Nat}(t:c<X.n):uX X i Pap V (λd=>done d\/d=c) (w.setCell (X.at c) (X.val c)):=by
 have f:=vQ w (X.at c) (X.val c);refine⟨q w _ (λb g=> ?_) f.size h.pap,f.live (λe=>h.sep.2.2 (show X.Wg=X.C from e).symm) h.low.2.1 h.live,lr c _ h.list,λd p j=> ?_,⟨λb g=>gK (h.low.1 b g) f.size,gK h.low.2.1 f.size,gK h.low.2.2 f.size⟩,h.sep⟩
 ·exact f.keep b (h.low.1 b (.inr g)) λe=>h.sep.2.1 (by have r:b=X.C:=e;rw[←r];exact g)
 ·obtain⟨n,l,u⟩:=h.list;have m:(w.setCell (X.at c) (X.val c)).heap[X.C]?=some (.cells (n.setIfInBounds c (X.val c)) X.ety):=by obtain⟨o,s⟩:=gA l;simp only[BO,bS.at];rw[IN,l];simp
  have k:(w.setCell (X.at c) (X.val c)).cell? (X.at d)=(n.setIfInBounds c (X.val c))[d]?:=by unfold bS.at at m;unfold AB bS.at;simp[m]
  rw[k];by_cases a:d=c
  ·subst a;rw[kg o_]
  ·rw[sN (LZ a)];have:=h.cells d p (j.resolve_right a);rw[←this];unfold AB bS.at;simp[l]
theorem uX.mono{a:Nat->Prop}(h:uX X i Pap V done w)(e:∀c,X.mine i c->a c->done c):uX X i Pap V a w:=⟨h.pap,h.live,h.list,λc d b=>h.cells c d (e c d b),h.low,h.sep⟩
end
end
section
open Go.Conc
def Ev(ops:Array Oper):Bool:=(Ak ops.size).all λn=>((ops[n]?).map λo=>o.after.all λe=>decide (e.on<n)).getD true
theorem CY(h:Ev ops=true)(n:Nat)(o:Oper)(a:ops[n]?=some o):∀e∈o.after,e.on<n:=by intro e c;have b:n<ops.size:=(gA a).1;have:=List.all_eq_true.1 h n (Pi.2 b);rw[a]at this;simpa using ET.1 this e c
def ii(ops:Array Oper)(n k:Nat):Bool:=((ops[n]?).map λo=>o.after.any λe=>e.on==k&&QZ .any e).getD false
theorem p5(h:ii ops n k=true)(b:ops[n]?=some o)(d:∀e∈o.after,QZ .any e=true->listed[e.on]?=some true):listed[k]?=some true:=by unfold ii at h;rw[b]at h;simp only[d9,y9]at h;obtain⟨j,c,a⟩:=Array.any_eq_true.1 h;simp only[d7,beq_iff_eq]at a;rw[←a.1];exact d _ (Ww c) a.2
theorem cC{d:Option Tmp}{p:Op}(a:ops[n]?=some o)(h:(ops[n]?).map (λo=>(o.dst,o.op,o.guard))=some (d,p,none)):o.dst=d/\o.op=p/\∀y,jd o y=true:=by rw[a]at h;simp only[d9,Option.some.injEq,Prod.mk.injEq]at h;refine⟨h.1,h.2.1,λy=> ?_⟩;unfold jd;rw[h.2.2]
structure gu (fx:List (Nat×Value)) (tb:List (Nat×Nat×Value)) (N:Nat) (listed:Array Bool) (a:Act):Prop where
 defers:a.defers=[]
 size:N<=a.tmps.size
 fixed:∀p∈fx,a.tmps[p.1]?=some p.2
 come:∀p∈tb,listed[p.1]?=some true->a.tmps[p.2.1]?=some p.2.2
theorem oQ{d:Option Tmp}{p:Op}(a:ops[n]?=some o)(h:(ops[n]?).map (λo=>(o.dst,o.op,o.guard))=some (d,p,none):=by rfl):o.dst=d/\o.op=p/\∀y,Region.wanted o y=true:=cC a h
theorem oS{d:Option Tmp}{p:Op}(a:ops[n]?=some o)(h:(ops[n]?).map (λo=>(o.dst,o.op,o.guard))=some (d,p,none):=by rfl):o.op=p:=(cC a h).2.1
theorem opS(a:ops[n]?=some o)(d:Tmp)(p:Op)(h:(ops[n]?).map (λo=>(o.dst,o.op,o.guard))=some (some d,p,none):=by kernel_rfl):o.op=p:=(cC a h).2.1
section
variable{fx:List (Nat×Value)}{tb:List (Nat×Nat×Value)}
theorem aD{d:Nat}(h:a.tmps[d]?=some v):a.eval (.tmp d)=v:=by show a.tmps.getD d undef=v;rw[pg,h];rfl
theorem gu.put(h:gu fx tb N listed a){d:Nat}(f:d<N)(i:∀p∈fx,p.1≠d)(g:∀p∈tb,p.2.1=d\/p.1=n->p=(n,d,v)):gu fx tb N (listed.setIfInBounds n true) (a.put (some d) v):=by
 refine⟨h.defers,by simpa[Rf]using h.size,λp b=> ?_,λp b c=> ?_⟩
 ·show(a.tmps.setIfInBounds d v)[p.1]?=_;rw[sN (LZ (i p b))];exact h.fixed p b
 ·show(a.tmps.setIfInBounds d v)[p.2.1]?=_;by_cases e:p.2.1=d\/p.1=n
  ·have:=g p b e;subst this;exact kg (gK f h.size)
  ·have k:d≠p.2.1:=λx=>e (.inl x.symm);have j:n≠p.1:=λx=>e (.inr x.symm);rw[sN k];rw[sN j]at c;exact h.come p b c
theorem gu.pass(h:gu fx tb N listed a)(d:∀p∈tb,p.1≠n)(v:Value):gu fx tb N (listed.setIfInBounds n true) (a.put none v):=by refine⟨h.defers,h.size,h.fixed,λp b c=> ?_⟩;rw[sN (LZ (d p b))]at c;exact h.come p b c
end
section
variable{Next:(Nat->Prop)->Goroutine->World->Prop}
def Ik(X:bS)(Next:(Nat->Prop)->Goroutine->World->Prop)(m:Nat)(V:Nat->Prop)(fr:Frame)(cs:List Frame)(w0:World):Prop:=∀w,bV X V w0 w->cD X Next m V (gB fr cs) w
theorem Ik.now(h:Ik X Next m V fr cs w):cD X Next m V (gB fr cs) w:=h w (bV.refl X V w)
theorem Ik.stop(h:∀a,bV X V w a->Next V (gB fr cs) a):Ik X Next m V fr cs w:=λ_ d=>cD.stop λb c=>h b (d.trans c)
variable{b:Frame}{k:List Item}
theorem Ik.exec(d:fr.mode= .run)(h:∀w,bV X V w0 w->∃g' w' es,stepG.exec X.P true true fr cs none w= .go g' w' es/\cB V X.RO w w' es/\cD X Next m (ck V w w') g' w'):Ik X Next (m+1) V fr cs w0:=λ_ c=>
 cD.step rfl λa b=>let ⟨g',w',es,h1,h2,h3⟩:=h a (c.trans b);⟨g',w',es,(ln d true cs a).trans h1,h2,h3⟩
theorem Ik.plain{t:List Item}(d:bZ (b.atR a k)=some t)(h:Ik X Next m V (b.atR a t) cs w0):Ik X Next (m+1) V (b.atR a k) cs w0:=
 Ik.exec rfl λw c=>⟨_,w,#[],jF d,dO _ _ _,by rw[cF];exact h w c⟩
theorem Ik.oper(p:ops[n]?=some o)(j:jd o (yielded ops a.tmps)=true)(i:∀c,o.op≠ .defer c)
 (h:∀w,bV X V w0 w->∃f w',(execOp a.eval o).run X.P w= .ok f w'/\zT f=true/\cB V X.RO w w' ((execOp a.eval o).events X.P w #[])/\cD X Next m (ck V w w') (iJ X.P (b.atR a (.inRegion ops (n::rest)::k)) cs f) w'):
 Ik X Next (m+1) V (b.atR a (.inRegion ops (n::rest)::k)) cs w0:=by
 refine Ik.exec rfl λw g=> ?_;obtain⟨f,w',x,v,u,t⟩:=h w g;have q:ek (b.atR a (.inRegion ops (n::rest)::k)):=λd w r s k e=>by cases e
 have l:(execOp (b.atR a (.inRegion ops (n::rest)::k)).eval o).runT X.P w #[]=(.ok f w',(execOp a.eval o).events X.P w #[]):=by rw[Iu,AT,x]
 exact⟨_,w',_,(da rfl p j i).trans (dD (cs:=cs) q l v),u.sub (mr _ _ _),t⟩
theorem Ik.value(v:Value)(i:ops[n]?=some o)(j:jd o (yielded ops a.tmps)=true)(f:∀c,o.op≠ .defer c)
 (g:∀w,bV X V w0 w->(execOp a.eval o).run X.P w= .ok (.value v) w/\∀e∈(execOp a.eval o).events X.P w #[],gv V X.RO e)
 (h:Ik X Next m V (b.atR (a.put o.dst v) (.inRegion ops rest::k)) cs w0):Ik X Next (m+1) V (b.atR a (.inRegion ops (n::rest)::k)) cs w0:=by refine Ik.oper i j f λw d=>⟨.value v,w,(g w d).1,rfl,pT (g w d).2, ?_⟩;rw[cF];show cD X Next m V (gB ((b.atR a (.inRegion ops (n::rest)::k)).finish v) cs) w;rw[BR,i];exact h w d
theorem Ik.make(f:ops[n]?=some o)(g:jd o (yielded ops a.tmps)=true)(e:∀c,o.op≠ .defer c)
 (h:∀w,bV X V w0 w->∃v w',(execOp a.eval o).run X.P w= .ok (.value v) w'/\cB V X.RO w w' ((execOp a.eval o).events X.P w #[])/\
   Ik X Next m (ck V w w') (b.atR (a.put o.dst v) (.inRegion ops rest::k)) cs w'):Ik X Next (m+1) V (b.atR a (.inRegion ops (n::rest)::k)) cs w0:=by refine Ik.oper f g e λw d=> ?_;obtain⟨v,w',l,j,i⟩:=h w d;refine⟨.value v,w',l,rfl,j, ?_⟩;show cD X Next m (ck V w w') (gB ((b.atR a (.inRegion ops (n::rest)::k)).finish v) cs) w';rw[BR,f];exact i.now
theorem Ik.makes(f:ops[n]?=some o)(g:jd o (yielded ops a.tmps)=true)(e:∀c,o.op≠ .defer c)
 (h:∀w,bV X V w0 w->∃w',(execOp a.eval o).run X.P w= .ok .skip w'/\cB V X.RO w w' ((execOp a.eval o).events X.P w #[])/\
   Ik X Next m (ck V w w') (b.atR (a.put o.dst undef) (.inRegion ops rest::k)) cs w'):Ik X Next (m+1) V (b.atR a (.inRegion ops (n::rest)::k)) cs w0:=by refine Ik.oper f g e λw d=> ?_;obtain⟨w',l,j,i⟩:=h w d;refine⟨.skip,w',l,rfl,j, ?_⟩;show cD X Next m (ck V w w') (gB ((b.atR a (.inRegion ops (n::rest)::k)).finish undef) cs) w';rw[BR,f];exact i.now
theorem Ik.enter(j:ops[n]?=some o)(i:jd o (yielded ops a.tmps)=true)(e:∀c,o.op≠ .defer c)
 (g:∀w,(execOp a.eval o).run X.P w= .ok (.enter f args) w/\(execOp a.eval o).events X.P w #[]=#[])
 (h:Ik X Next m V (t4 X.P f args .normal) (b.atR a (.inRegion ops (n::rest)::k)::cs) w0):Ik X Next (m+1) V (b.atR a (.inRegion ops (n::rest)::k)) cs w0:=by
 refine Ik.oper j i e λw d=>⟨.enter f args,w,(g w).1,rfl, ?_, ?_⟩
 ·rw[(g w).2];exact dO _ _ _
 ·rw[cF];exact h w d
theorem Ik.ends(f:b.roundOf=none)(e:k=[]\/∃c,k= .code .ret::c)(h:Ik X Next m V {b.atR a k with mode:= .returning} cs w0):Ik X Next (m+1) V (b.atR a k) cs w0:=
 Ik.exec rfl λw d=>⟨_,w,#[],lG ⟨f,e⟩,dO _ _ _,by rw[cF];exact h w d⟩
theorem Ik.leave{c:Frame}(v:Value)(i:b.kind= .normal)(l:a.defers=[])(j:X.P.funcs[b.fn]?=some fn)(f:∀w,(results fn a.tmps).run X.P w= .ok v w/\(results fn a.tmps).events X.P w #[]=#[])
 (h:Ik X Next m V (c.finish v) cs w0):Ik X Next (m+1) V {b.atR a k with mode:= .returning} (c::cs) w0:=λw g=>by refine cD.step rfl λd e=>⟨_,d,#[],iZ (fr:={b.atR a k with mode:= .returning}) (c:=c) (cs:=cs) i l rfl j (f d).1 (f d).2 true ⟨rfl,rfl,rfl,rfl⟩,dO _ _ _, ?_⟩;rw[cF];exact h d (g.trans e)
end
structure aW (F:List (Nat×Value)) (N:Nat) (ds:List Deferred) (a:Act):Prop where
 defers:a.defers=ds
 size:N<=a.tmps.size
 slot:∀d v,F.lookup d=some v->a.tmps[d]?=some v
theorem aW.get(h:aW F N ds a){d:Nat}(b:F.lookup d=some v):a.eval (.tmp d)=v:=aD (h.slot d v b)
theorem aW.put(h:aW F N ds a){d:Nat}(f:d<N)(v:Value):aW ((d,v)::F) N ds (a.put (some d) v):=by
 refine⟨h.defers,by simpa[Rf]using h.size,λe u c=> ?_⟩;show(a.tmps.setIfInBounds d v)[e]?=some u;by_cases b:e=d
 ·subst b;simp only[uT,beq_self_eq_true,Option.some.injEq]at c;subst c;exact kg (gK f h.size)
 ·rw[sN (LZ b)];have g:(e==d)=false:=by simpa using b
  simp only[uT,g]at c;exact h.slot e u c
theorem aW.sub{b:List (Nat×Value)}(h:aW F N ds a)(c:∀d v,b.lookup d=some v->F.lookup d=some v):aW b N ds a:=⟨h.defers,h.size,λd v e=>h.slot d v (c d v e)⟩
def jG(k:Nat):List Value->List (Nat×Value)
 |[]=>[]
 |v::L=>(k,v)::jG (k+1) L
theorem sa:∀(L:List Value) (k d:Nat) (v:Value),(jG k L).lookup d=some v->k<=d/\L[d- k]?=some v
 |[],_,_,_,h=>by simp[jG]at h
 |u::L,k,d,v,h=>by
  by_cases a:d=k
  ·subst a;simp only[jG,uT,beq_self_eq_true,Option.some.injEq]at h;subst h;simp
  ·have b:(d==k)=false:=(by simpa using a);simp only[jG,uT,b]at h;obtain⟨e,c⟩:=sa L (k+1) d v h;refine⟨o_, ?_⟩;rw[show d- k=(d-(k+1))+1 from o_];simpa using c
theorem aN(L:List Value)(N:Nat)(h:L.length<=N):aW (jG 0 L) N [] ⟨L.toArray++kx (N- L.toArray.size) undef,[]⟩:=by refine⟨rfl,by simp;omega,λd v c=> ?_⟩;obtain⟨_,b⟩:=sa L 0 d v c;rw[Nat.sub_zero]at b;have a:d<L.length:=(qw.1 b).1;show(L.toArray++_)[d]?=_;rw[Array.getElem?_append_left (by simpa using a)];simpa using b
section
variable{b:Frame}{k:List Item}
theorem Wk.region{id:Nat}{L:List Nat}(c:Ak ops.size=L)(h:Wk X i V (b.atR a (.inRegion ops L::k)) cs w0):Wk X i V (b.atR a (.code (.region id ops false)::k)) cs w0:=Wk.plain rfl (by rw[c];exact h)
theorem Wk.op(q:aW F N ds a)(d:Tmp)(p:Op)(v:Value)(n:d<N)(h:(ops[m]?).map (λo=>(o.dst,o.op,o.guard))=some (some d,p,none))(g:∀c,p≠ .defer c)
 (l:∀o:Oper,o.op=p->∀w,bT X i V w0 w->(execOp a.eval o).run X.P w= .ok (.value v) w/\∀e∈(execOp a.eval o).events X.P w #[],gv V X.RO e)
 (next:∀a',aW ((d,v)::F) N ds a'->Wk X i V (b.atR a' (.inRegion ops rest::k)) cs w0):Wk X i V (b.atR a (.inRegion ops (m::rest)::k)) cs w0:=by
 cases f:ops[m]? with
 |none=>rw[f]at h;simp at h
 |some o=>
  obtain⟨s,j,r⟩:=cC f h;refine Wk.value v f (r _) (λc=>by rw[j];exact g c) (l o j) ?_;rw[s];exact next _ (q.put n v)
theorem Wk.mk(q:aW F N ds a)(d:Tmp)(p:Op)(cells:Array Value)(t:TypeId)(n:d<N)(h:(ops[m]?).map (λo=>(o.dst,o.op,o.guard))=some (some d,p,none))(f:∀c,p≠ .defer c)
 (j:∀o:Oper,o.op=p->∀w,(execOp a.eval o).run X.P w= .ok (.value (.pk w.heap.size 0)) (w.alloc (.cells cells t))/\(execOp a.eval o).events X.P w #[]=#[])
 (next:∀a' w,bT X i V w0 w->aW ((d, .pk w.heap.size 0)::F) N ds a'->Wk X i (ck V w (w.alloc (.cells cells t))) (b.atR a' (.inRegion ops rest::k)) cs (w.alloc (.cells cells t))):Wk X i V (b.atR a (.inRegion ops (m::rest)::k)) cs w0:=by
 cases e:ops[m]? with
 |none=>rw[e]at h;simp at h
 |some o=>
  obtain⟨s,g,r⟩:=cC e h;refine Wk.make e (r _) (λc=>by rw[g];exact f c) λw l=>⟨_,_,(j o g w).1, ?_, ?_⟩
  ·rw[(j o g w).2];exact oi _ _ _ _
  ·rw[s];exact next _ w l (q.put n _)
theorem Ik.region{c:(Nat->Prop)->Goroutine->World->Prop}{id:Nat}{L:List Nat}(d:Ak ops.size=L)(h:Ik X c n V (b.atR a (.inRegion ops L::k)) cs w0):Ik X c (n+1) V (b.atR a (.code (.region id ops false)::k)) cs w0:=Ik.plain rfl (by rw[d];exact h)
theorem Ik.op{f:(Nat->Prop)->Goroutine->World->Prop}(r:aW F N ds a)(d:Tmp)(p:Op)(v:Value)(q:d<N)(h:(ops[m]?).map (λo=>(o.dst,o.op,o.guard))=some (some d,p,none))(i:∀c,p≠ .defer c)
 (l:∀o:Oper,o.op=p->∀w,bV X V w0 w->(execOp a.eval o).run X.P w= .ok (.value v) w/\∀e∈(execOp a.eval o).events X.P w #[],gv V X.RO e)
 (next:∀a',aW ((d,v)::F) N ds a'->Ik X f n V (b.atR a' (.inRegion ops rest::k)) cs w0):Ik X f (n+1) V (b.atR a (.inRegion ops (m::rest)::k)) cs w0:=by
 cases g:ops[m]? with
 |none=>rw[g]at h;simp at h
 |some o=>
  obtain⟨t,j,s⟩:=cC g h;refine Ik.value v g (s _) (λc=>by rw[j];exact i c) (l o j) ?_;rw[t];exact next _ (r.put q v)
theorem Ik.mk{f:(Nat->Prop)->Goroutine->World->Prop}(u:aW F N ds a)(d:Tmp)(p:Op)(v:World->Value)(g:World->Obj)(t:d<N)(h:(ops[m]?).map (λo=>(o.dst,o.op,o.guard))=some (some d,p,none))(l:∀c,p≠ .defer c)
 (s:∀o:Oper,o.op=p->∀w,bV X V w0 w->(execOp a.eval o).run X.P w= .ok (.value (v w)) (w.alloc (g w))/\∀e∈(execOp a.eval o).events X.P w #[],gv (ck V w (w.alloc (g w))) X.RO e)
 (next:∀a' w,bV X V w0 w->aW ((d,v w)::F) N ds a'->Ik X f n (ck V w (w.alloc (g w))) (b.atR a' (.inRegion ops rest::k)) cs (w.alloc (g w))):Ik X f (n+1) V (b.atR a (.inRegion ops (m::rest)::k)) cs w0:=by
 cases j:ops[m]? with
 |none=>rw[j]at h;simp at h
 |some o=>
  obtain⟨y,r,x⟩:=cC j h;refine Ik.make j (x _) (λc=>by rw[r];exact l c) λw i=>⟨_,_,(s o r w i).1, ?_, ?_⟩
  ·have q:=oi V X.RO w (g w);exact⟨q.keep,q.size,q.os,q.output,q.tape,(s o r w i).2⟩
  ·rw[y];exact next _ w i (u.put t _)
end
end
section
open Go
theorem aW.G{F:List (Nat×Value)}{N:Nat}{ds:List Deferred}{a:Act}(h:aW F N ds a)(d:Nat){v:Value}(e:F.lookup d=some v:=by rfl):a.eval (.tmp d)=v:=h.get e
end
section
open Go.Conc
section
variable{Stop:Goroutine->World->Prop}
theorem TV(i:∀g w,Stop g w->∀x d,∃o q es,stepG PL true g (lx w x d)= .ended o q es)(A:gE PL Stop g w):gQ g->∀f h,StepsIn (λ_=>True) PL (solo g w) (solo f h)->gE PL Stop f h/\gQ f:=by
 induction A with
 | @stop g w u=>
   intro l f h b;generalize p:solo g w=m at b;generalize c:solo f h=y at b;cases b with
   |refl=>
    obtain⟨rfl,rfl⟩:=iW (p.trans c.symm);exact⟨.stop u,l⟩
   |head _ a _=>
    exfalso;subst p;obtain⟨o,q,es,e⟩:=i g w u w.tape w.drawn;have t:stepG PL true g w= .ended o q es:=e;rw[step,stepT_solo l.1]at a;simp[runT,solo,WO,Yr,t]at a
 | @go g w n v k r z=>
   intro l f h b;generalize p:solo g w=m at b;generalize c:solo f h=y at b;cases b with
   |refl=>
    obtain⟨rfl,rfl⟩:=iW (p.trans c.symm);exact⟨.go n v k r,l⟩
   | @head _ C _ _ a j=>
     subst p c;obtain⟨s,t⟩:=v w.tape w.drawn;have B:stepG PL true g w= .go (n w.tape w.drawn).1 (n w.tape w.drawn).2 s:=t;rw[step,stepT_solo l.1,runT_solo_go B]at a;simp only[Yq.injEq]at a;subst a;exact z w.tape w.drawn (k _ _) f h j
theorem qP{g':Goroutine}(a:g.status= .running)(h:stepG PL true g w= .go g' w' es):StepsIn (λ_=>True) PL (solo g w) (solo g' w'):=
 ZC trivial (by rw[step,stepT_solo a,runT_solo_go h])
def Tk(PL:Program)(Stop:Goroutine->World->Prop)(Q:Prop)(g0:Goroutine)(w0:World)(fr:Frame)(cs:List Frame)(w:World):Prop:=
 gE PL Stop (gB fr cs) w->StepsIn (λ_=>True) PL (solo g0 w0) (solo (gB fr cs) w)->Q
variable{Q:Prop}{g0:Goroutine}{b:Frame}{k:List Item}
theorem vL(d:∀g w,Stop g w->g.frame.mode= .returning/\g.callers=[])(a:fr.mode= .run\/cs≠[])(b:gE PL Stop (gB fr cs) w):∃g' w' es,stepG PL true (gB fr cs) w= .go g' w' es/\gQ g'/\gE PL Stop g' w':=by
 cases b with
 |stop c=>
  exfalso;rcases a with a|a
  ·have:=(d _ _ c).1;rw[show(gB fr cs).frame.mode=fr.mode from rfl,a]at this;cases this
  ·exact a (d _ _ c).2
 |go n h f b=>
  obtain⟨es,e⟩:=h w.tape w.drawn;exact⟨_,_,es,e,f _ _,b _ _⟩
theorem Tk.exec(i:∀g w,Stop g w->g.frame.mode= .returning/\g.callers=[])(c:fr.mode= .run)(h:∀g' w' es,stepG.exec PL true true fr cs none w= .go g' w' es->gQ g'->gE PL Stop g' w'->StepsIn (λ_=>True) PL (solo g0 w0) (solo g' w')->Q):
 Tk PL Stop Q g0 w0 fr cs w:=λf b=>by obtain⟨g',w',es,e,d,a⟩:=vL i (.inl c) f;exact h g' w' es (by rw[←ln c true cs w];exact e) d a (b.trans (qP rfl e))
theorem Tk.plain(i:∀g w,Stop g w->g.frame.mode= .returning/\g.callers=[]){t:List Item}(f:bZ (b.atR a k)=some t)(h:Tk PL Stop Q g0 w0 (b.atR a t) cs w):Tk PL Stop Q g0 w0 (b.atR a k) cs w:=
 Tk.exec i rfl λl j m e _ d c=>by rw[jF f]at e;cases e;exact h d c
theorem Tk.ran(z:∀g w,Stop g w->g.frame.mode= .returning/\g.callers=[])(q:ops[n]?=some o)(t:jd o (yielded ops a.tmps)=true)(p:∀c,o.op≠ .defer c)(x:(execOp a.eval o).run PL w= .ok (.value v) w')
 (h:Tk PL Stop Q g0 w0 (b.atR (a.put o.dst v) (.inRegion ops rest::k)) cs w'):Tk PL Stop Q g0 w0 (b.atR a (.inRegion ops (n::rest)::k)) cs w:=
 Tk.exec z rfl λB A C e _ u l=>by
  have y:ek (b.atR a (.inRegion ops (n::rest)::k)):=λd w r s k e=>by cases e
  have m:(execOp (b.atR a (.inRegion ops (n::rest)::k)).eval o).runT PL w #[]=(.ok (.value v) w',(execOp a.eval o).events PL w #[]):=by rw[Iu,AT,x]
  rw[da rfl q t p,dD (cs:=cs) y m rfl]at e;cases e;have j:(b.atR a (.inRegion ops (n::rest)::k)).finish v=b.atR (a.put o.dst v) (.inRegion ops rest::k):=by rw[BR,q];rfl
  have i:gE PL Stop (gB ((b.atR a (.inRegion ops (n::rest)::k)).finish v) cs) w':=u;have f:StepsIn (λ_=>True) PL (solo g0 w0) (solo (gB ((b.atR a (.inRegion ops (n::rest)::k)).finish v) cs) w'):=l;rw[j]at i f;exact h i f
theorem Tk.did(y:∀g w,Stop g w->g.frame.mode= .returning/\g.callers=[])(q:ops[n]?=some o)(t:jd o (yielded ops a.tmps)=true)(p:∀c,o.op≠ .defer c)(v:(execOp a.eval o).run PL w= .ok .skip w')
 (h:Tk PL Stop Q g0 w0 (b.atR (a.put o.dst undef) (.inRegion ops rest::k)) cs w'):Tk PL Stop Q g0 w0 (b.atR a (.inRegion ops (n::rest)::k)) cs w:=
 Tk.exec y rfl λA z B e _ u l=>by
  have x:ek (b.atR a (.inRegion ops (n::rest)::k)):=λd w r s k e=>by cases e
  have m:(execOp (b.atR a (.inRegion ops (n::rest)::k)).eval o).runT PL w #[]=(.ok .skip w',(execOp a.eval o).events PL w #[]):=by rw[Iu,AT,v]
  rw[da rfl q t p,dD (cs:=cs) x m rfl]at e;cases e;have j:(b.atR a (.inRegion ops (n::rest)::k)).finish undef=b.atR (a.put o.dst undef) (.inRegion ops rest::k):=by rw[BR,q];rfl
  have i:gE PL Stop (gB ((b.atR a (.inRegion ops (n::rest)::k)).finish undef) cs) w':=u;have f:StepsIn (λ_=>True) PL (solo g0 w0) (solo (gB ((b.atR a (.inRegion ops (n::rest)::k)).finish undef) cs) w'):=l;rw[j]at i f;exact h i f
theorem Tk.stuck(l:∀g w,Stop g w->g.frame.mode= .returning/\g.callers=[])(j:ops[n]?=some o)(h:jd o (yielded ops a.tmps)=true)(d:∀c,o.op≠ .defer c){x:Halt}(i:(execOp a.eval o).run PL w= .halt x w')(f:(∃s,x= .stuck s)\/x= .unsupported .addressObserved):
 Tk PL Stop Q g0 w0 (b.atR a (.inRegion ops (n::rest)::k)) cs w:=
 Tk.exec l rfl λp m q e _ _ _=>by
  exfalso;rw[da rfl j h d]at e;unfold stepG.apply at e;rw[Iu,if_pos rfl,AT,i]at e;rcases f with⟨s,rfl⟩|rfl
  ·simp[mX]at e
  ·simp[mX]at e
theorem Tk.call(j:∀g w,Stop g w->∀C d,∃o A es,stepG PL true g (lx w C d)= .ended o A es)(H:∀g w,Stop g w->g.frame.mode= .returning/\g.callers=[])(B:ops[n]?=some o)(D:jd o (yielded ops a.tmps)=true)(x:∀c,o.op≠ .defer c)
 (F:(execOp a.eval o).run PL w= .ok (.enter f args) w) {R:Value->World->Prop} (J:Calls PL f args w λe w'=>∃v,e= .returned v/\R v w')
 (h:∀v w',R v w'->Tk PL Stop Q g0 w0 (b.atR (a.put o.dst v) (.inRegion ops rest::k)) cs w'):Tk PL Stop Q g0 w0 (b.atR a (.inRegion ops (n::rest)::k)) cs w:=
 Tk.exec H rfl λL A es e q E t=>by
  have G:ek (b.atR a (.inRegion ops (n::rest)::k)):=λd w r s k e=>by cases e
  have u:(execOp (b.atR a (.inRegion ops (n::rest)::k)).eval o).runT PL w #[]=(.ok (.enter f args) w,(execOp a.eval o).events PL w #[]):=by rw[Iu,AT,F]
  rw[da rfl B D x,dD (cs:=cs) G u rfl]at e;cases e;obtain⟨M,w',K,⟨v,rfl,I⟩,z,_,y⟩:=J (b.atR a (.inRegion ops (n::rest)::k)::cs);have p:Steps PL (lone (t4 PL f args .normal) (b.atR a (.inRegion ops (n::rest)::k)::cs) w) (lone K (b.atR a (.inRegion ops (n::rest)::k)::cs) w'):=z;have l:=step_leave_returned (c:=b.atR a (.inRegion ops (n::rest)::k)) (cs:=cs) y;have i:StepsIn (λ_=>True) PL (solo (iJ PL (b.atR a (.inRegion ops (n::rest)::k)) cs (.enter f args)) w) (solo (gB ((b.atR a (.inRegion ops (n::rest)::k)).finish v) cs) w'):=
   (StepsIn.of_steps p).trans (ZC trivial l)
  have m:(b.atR a (.inRegion ops (n::rest)::k)).finish v=b.atR (a.put o.dst v) (.inRegion ops rest::k):=by rw[BR,B];rfl
  rw[m]at i;exact h v w' I (TV j E q _ _ i).1 (t.trans i)
theorem Tk.refuse(c:∀g w,Stop g w->g.frame.mode= .returning/\g.callers=[]){s:String}:Tk PL Stop Q g0 w0 (b.atR a (.code (.refuse s)::k)) cs w:=
 Tk.exec c rfl λf d h e _ _ _=>by exfalso;unfold stepG.exec at e;simp[Yj]at e
theorem Tk.cond(d:∀g w,Stop g w->g.frame.mode= .returning/\g.callers=[]){A B:Code}(q:Bool)(c:a.eval x= .bool q)(h:Tk PL Stop Q g0 w0 (b.atR a (.code (if q then A else B)::k)) cs w):Tk PL Stop Q g0 w0 (b.atR a (.code (.cond x A B)::k)) cs w:=by
 refine Tk.plain d (t:= .code (if q then A else B)::k) ?_ h;have e:(b.atR a (.code (.cond x A B)::k)).eval x= .bool q:=by rw[Iu];exact c
 show(match (b.atR a (.code (.cond x A B)::k)).eval x with| .bool q=>some (Ws (if q then A else B)::k)|_=>none)=_;rw[e]
theorem Tk.region(c:∀g w,Stop g w->g.frame.mode= .returning/\g.callers=[]){id:Nat}{L:List Nat}(d:Ak ops.size=L)(h:Tk PL Stop Q g0 w0 (b.atR a (.inRegion ops L::k)) cs w):Tk PL Stop Q g0 w0 (b.atR a (.code (.region id ops false)::k)) cs w:=Tk.plain c rfl (by rw[d];exact h)
theorem Tk.ends(l:∀g w,Stop g w->g.frame.mode= .returning/\g.callers=[])(j:b.roundOf=none)(i:k=[]\/∃d,k= .code .ret::d)(h:Tk PL Stop Q g0 w0 {b.atR a k with mode:= .returning} cs w):Tk PL Stop Q g0 w0 (b.atR a k) cs w:=
 Tk.exec l rfl λn m o e _ f c=>by rw[lG (fr:=b.atR a k) ⟨j,i⟩]at e;cases e;exact h f c
theorem Tk.leave(q:∀g w,Stop g w->g.frame.mode= .returning/\g.callers=[]){c:Frame}(v:Value)(m:b.kind= .normal)(p:a.defers=[])(n:PL.funcs[b.fn]?=some fn)(l:(results fn a.tmps).run PL w= .ok v w)(o:(results fn a.tmps).events PL w #[]=#[])
 (h:Tk PL Stop Q g0 w0 (c.finish v) cs w):Tk PL Stop Q g0 w0 {b.atR a k with mode:= .returning} (c::cs) w:=λj f=>by obtain⟨t,r,u,e,s,d⟩:=vL q (.inr s_) j;have i:=iZ (fr:={b.atR a k with mode:= .returning}) (c:=c) (cs:=cs) m p rfl n l o true (g:=gB {b.atR a k with mode:= .returning} (c::cs)) ⟨rfl,rfl,rfl,rfl⟩;rw[i]at e;cases e;exact h d (f.trans (qP rfl i))
theorem Tk.op(n:∀g w,Stop g w->g.frame.mode= .returning/\g.callers=[])(q:aW F N ds a)(d:Tmp)(p:Op)(l:d<N)(h:(ops[m]?).map (λo=>(o.dst,o.op,o.guard))=some (some d,p,none))(f:∀c,p≠ .defer c)
 (j:∀o:Oper,o.op=p->(execOp a.eval o).run PL w= .ok (.value v) w')
 (next:∀a',aW ((d,v)::F) N ds a'->Tk PL Stop Q g0 w0 (b.atR a' (.inRegion ops rest::k)) cs w'):Tk PL Stop Q g0 w0 (b.atR a (.inRegion ops (m::rest)::k)) cs w:=by
 cases e:ops[m]? with
 |none=>rw[e]at h;simp at h
 |some o=>
  obtain⟨s,i,r⟩:=cC e h;refine Tk.ran n e (r _) (λc=>by rw[i];exact f c) (j o i) ?_;rw[s];exact next _ (q.put l v)
end
end
end Go.Proofs.YtkmoglhgkcnalabGreatDoor
