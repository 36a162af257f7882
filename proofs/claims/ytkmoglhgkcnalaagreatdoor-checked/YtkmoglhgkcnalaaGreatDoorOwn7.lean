/- A part of what the last text of the claim imports: texts laid together, and made small, by a program. -/
import Derived.Deep.RegionHeld3
import Derived.Great.BuildSlice
import Derived.Deep.OwnRows
import Derived.Laws.AppendOwn
import Derived.Shelf.Strings.OnBuilder
import Derived.Test.YtkmoglhgkcnalaaGreatDoorOwn6
set_option maxHeartbeats 16000000
set_option maxRecDepth 100000
open Array renaming replicate->Td,length_toList->QB
open BitVec renaming ofInt->RA
open Go.Act renaming put->Rq
open Go.Addr renaming add_mid->QV
open Go.Frame renaming enter->Qc
open Go.Instr renaming fieldAt->BY,sliceBounds->Qq,sliceBound->Qx,sliceAt->QG,slice->R0,index->S6
open Go.IntKind renaming wrap_i64->Q3,i64->Q4,u32->Qk,wrap_u32->Qn
open Go.World renaming rangeAt_setCells_same->AI,drew->No,setCell->Q6,frozen?->Qa,cell?->Qe,rangeAt_setCells_apart->Qi,rangeAt_alloc->Qr,there_setCells->QD,cell?_alloc_at->QE,there_alloc->Ro,cell?_alloc_past->RB,there_drew->RN,cell?_drewN->Sj
open Go.YieldsIf renaming wpOp->RI
open Int renaming natCast_pow->Q1,natCast_mul->QK,natCast_ediv->QU
open List renaming getElem?_eq_some_iff->Tf,cons_ne_nil->Ti,getD_eq_getElem?_getD->Cd,replicate->OF,getElem?_append_right->PY,getElem?_eq_getElem->Q0,size_toArray->Q5,range->Q8,getElem?_append_left->Q9,take_of_length_le->QQ,getElem?_replicate->QR,map_append->QW,take_succ_eq_append_getElem->R3,set_append_right->Ra,getElem?_eq_none->Rb,replicate_succ->Rz,range_succ->Sb
open Nat renaming le_refl->T6,lt_of_lt_of_le->T7,le_trans->By,zero_add->IS,pow_le_pow_right->Qp,zero_le->QH,pow_succ->RX
open Ne renaming symm->QF
open Or renaming inl->S8
open UInt8 renaming ofNat->RR
namespace Go.Proofs.YtkmoglhgkcnalaaGreatDoor
open Go
variable{n b i N l m k j b3 b4 b7 b9 Wg wd:Nat}{w w' w0 wL wM wE:World}{fr:Frame}{v:Value}{cs:List Frame}{args cv:Array Value}{V RO D V0:Nat->Prop}{q main listen ql:Bool}{g:Goroutine}{a:Act}{K:List Item}{P PL PM:Program}{x:Operand}{ops:Array Oper}{KS:List Int}{t u:TypeId}{o:Oper}{f:FuncId}{es:Array Event}{Goal:Goroutine->World->Prop}{fn:Func}{rest:List Nat}{ds:List Deferred}{X:aW}{F:List (Nat×Value)}{e:Event}{listed:Array Bool}{c:Int}{s msg key sig:ByteArray}{ρ:Nat->Nat}{ev:Operand->Value}{Post:Value->World->Prop}
section
open Go.Conc
section
variable{S:Nat->Prop}{b:Frame}{k:List Item}
theorem cK.exec(a:fr.mode= .run)(h:∀d,∃g' w' es,stepG.exec P true true fr cs none (w.at d)= .go g' w' es/\w.heap.size<=w'.heap.size/\(∀e∈es,EvL (dq S) w'.heap.size e)/\cK P Post S g' w'):cK P Post S (dN fr cs) w:=
 cK.step rfl λd=>let ⟨g',w',es,h1,h2,h3,h4⟩:=h d;⟨g',w',es,(js a true cs _).trans h1,h2,h3,h4⟩
theorem cK.plain{t:List Item}(c:ca (b.atR a k)=some t)(h:cK P Post S (dN (b.atR a t) cs) w):cK P Post S (dN (b.atR a k) cs) w:=
 cK.exec rfl λd=>⟨_,w.at d,#[],j0 c,T6 _,λe f=>by simp at f,h.at d⟩
theorem cK.region{id:Nat}{L:List Nat}(c:Q8 ops.size=L)(h:cK P Post S (dN (b.atR a (.inRegion ops L::k)) cs) w):cK P Post S (dN (b.atR a (.code (.region id ops false)::k)) cs) w:=cK.plain rfl (by rw[c];exact h)
theorem cK.ends(i:b.roundOf=none)(f:k=[]\/∃c,k= .code .ret::c)(h:cK P Post S (dN {b.atR a k with mode:= .returning} cs) w):cK P Post S (dN (b.atR a k) cs) w:=
 cK.exec rfl λd=>⟨_,w.at d,#[],jS ⟨i,f⟩,T6 _,λe g=>by simp at g,h.at d⟩
theorem Bz{c:Frame}(f:fr.kind= .normal)(i:fr.defers=[])(d:fr.mode= .returning)(h:P.funcs[fr.fn]?=some fn)(b:(results fn fr.tmps).run P w= .ok v w)
 (main:Bool)  (k:g.frame=fr/\g.callers=c::cs/\g.status= .running/\g.dying=none):∃es,stepG P main g w= .go {frame:=c.finish v,callers:=cs,status:= .running,dying:=none} w es/\∀e∈es,e∈(results fn fr.tmps).events P w #[]:=by obtain⟨a,m,n,o,j⟩:=g;obtain⟨rfl,rfl,rfl,rfl⟩:=k;simp only at f i d h b;refine⟨seen P a.fn ((results fn a.tmps).events P w #[]), ?_,λe l=>dZ _ _ _ e l⟩;simp[stepG,unwind,doReturn,f,i,d,h,b,GStep.after]
theorem cK.leaveE{c:Frame}(v:Value)(i:b.kind= .normal)(m:a.defers=[])(j:P.funcs[b.fn]?=some fn)(f:∀d,(results fn a.tmps).run P (w.at d)= .ok v (w.at d)/\∀e∈(results fn a.tmps).events P (w.at d) #[],EvL (dq S) w.heap.size e)
 (h:cK P Post S (dN (c.finish v) cs) w):cK P Post S (dN {b.atR a k with mode:= .returning} (c::cs)) w:=
 cK.step rfl λd=>by obtain⟨p,o,n⟩:=Bz (fr:={b.atR a k with mode:= .returning}) (c:=c) (cs:=cs) (w:=w.at d) i m rfl j (f d).1 true (g:=dN {b.atR a k with mode:= .returning} (c::cs)) ⟨rfl,rfl,rfl,rfl⟩;exact⟨_,w.at d,p,o,T6 _,λe l=>(f d).2 e (n e l),h.at d⟩
theorem cK.oper(l:ops[n]?=some o)(i:Region.wanted o (yielded ops a.tmps)=true)(g:∀c,o.op≠ .defer c)
 (h:∀d,∃f w',(execOp a.eval o).run P (w.at d)= .ok f w'/\xR f=true/\w.heap.size<=w'.heap.size/\(∀e∈(execOp a.eval o).events P (w.at d) #[],EvL (dq S) w'.heap.size e)/\cK P Post S (gB P (b.atR a (.inRegion ops (n::rest)::k)) cs f) w'):
 cK P Post S (dN (b.atR a (.inRegion ops (n::rest)::k)) cs) w:=by
 refine cK.exec rfl λd=> ?_;obtain⟨f,w',x,v,u,t,q⟩:=h d;have p:eJ (b.atR a (.inRegion ops (n::rest)::k)):=λd w r s k e=>by cases e
 have j:(execOp (b.atR a (.inRegion ops (n::rest)::k)).eval o).runT P (w.at d) #[]=(.ok f w',(execOp a.eval o).events P (w.at d) #[]):=by rw[Frame.eval_atR,Sem.runT_eq,x]
 exact⟨_,w',_,(dJ rfl l i g).trans (dF (cs:=cs) p j v),u,λe m=>t e (jR _ _ _ e m),q⟩
theorem cK.oO(t:Has F N ds a)(d:Tmp)(p:Op)(r:∀(o:Oper) (c:Nat),o.op=p->∃v w',(execOp a.eval o).run P (w.at c)= .ok (.value v) w'/\w.heap.size<=w'.heap.size/\(∀e∈(execOp a.eval o).events P (w.at c) #[],EvL (dq S) w'.heap.size e)/\∀a',Has ((d,v)::F) N ds a'->cK P Post S (dN (b.atR a' (.inRegion ops rest::k)) cs) w')
 (s:d<N:=by decide) (h:(ops[m]?).map (λo=>(o.dst,o.op,o.guard))=some (some d,p,none):=by kernel_rfl) (g:∀c,p≠ .defer c:=by simp):cK P Post S (dN (b.atR a (.inRegion ops (m::rest)::k)) cs) w:=by
 cases f:ops[m]? with
 |none=>rw[f]at h;simp at h
 |some o=>
  rw[f]at h;simp only[Option.map_some,Option.some.injEq,Prod.mk.injEq]at h;obtain⟨x,i,u⟩:=h;refine cK.oper f (by simp[Region.wanted,u]) (λc=>by rw[i];exact g c) λc=> ?_;obtain⟨v,w',q,n,l,j⟩:=r o c i;refine⟨.value v,w',q,rfl,n,l, ?_⟩;show cK P Post S (dN ((b.atR a (.inRegion ops (m::rest)::k)).finish v) cs) w';rw[Frame.finish_atR,f,Option.bind_some,x];exact j _ (t.put s v)
theorem cK.o0(r:Has F N ds a)(p:Op)(q:∀(o:Oper) (c:Nat),o.op=p->∃w',(execOp a.eval o).run P (w.at c)= .ok .skip w'/\w.heap.size<=w'.heap.size/\(∀e∈(execOp a.eval o).events P (w.at c) #[],EvL (dq S) w'.heap.size e)/\∀a',Has F N ds a'->cK P Post S (dN (b.atR a' (.inRegion ops rest::k)) cs) w')
 (h:(ops[m]?).map (λo=>(o.dst,o.op,o.guard))=some (none,p,none):=by kernel_rfl) (f:∀c,p≠ .defer c:=by simp):cK P Post S (dN (b.atR a (.inRegion ops (m::rest)::k)) cs) w:=by
 cases d:ops[m]? with
 |none=>rw[d]at h;simp at h
 |some o=>
  rw[d]at h;simp only[Option.map_some,Option.some.injEq,Prod.mk.injEq]at h;obtain⟨t,g,s⟩:=h;refine cK.oper d (by simp[Region.wanted,s]) (λc=>by rw[g];exact f c) λc=> ?_;obtain⟨w',n,l,j,i⟩:=q o c g;refine⟨.skip,w',n,rfl,l,j, ?_⟩;show cK P Post S (dN ((b.atR a (.inRegion ops (m::rest)::k)).finish undef) cs) w';rw[Frame.finish_atR,d,Option.bind_some,t];exact i _ r
theorem cK.enter(d:Tmp)(p:Op)(r:∀(o:Oper) (c:Nat),o.op=p->(execOp a.eval o).run P (w.at c)= .ok (.enter f args) (w.at c)/\(execOp a.eval o).events P (w.at c) #[]=#[])
 (next:cK P Post S (bS P f args (b.atR a (.inRegion ops (m::rest)::k)::cs)) w)
 (h:(ops[m]?).map (λo=>(o.dst,o.op,o.guard))=some (some d,p,none):=by kernel_rfl) (i:∀c,p≠ .defer c:=by simp):cK P Post S (dN (b.atR a (.inRegion ops (m::rest)::k)) cs) w:=by
 cases g:ops[m]? with
 |none=>rw[g]at h;simp at h
 |some o=>
  rw[g]at h;simp only[Option.map_some,Option.some.injEq,Prod.mk.injEq]at h;obtain⟨t,l,s⟩:=h;refine cK.oper g (by simp[Region.wanted,s]) (λc=>by rw[l];exact i c) λc=> ?_;obtain⟨q,n⟩:=r o c l;exact⟨.enter f args,w.at c,q,rfl,Nat.le_refl _,λe j=>by rw[n]at j;simp at j,next.at c⟩
end
end
section
open Go
@[simp] theorem Lf.func36:(aJ q tP).funcs[36]?=some Tryz.f36:=aO Tryz.func36 d_ rfl rfl k_
@[simp] theorem Lf.func69:(aJ q tP).funcs[69]?=some Tryz.f69:=aO Tryz.func69 d_ rfl rfl k_
@[simp] theorem Lf.func70:(aJ q tP).funcs[70]?=some Tryz.f70:=aO Tryz.func70 d_ rfl rfl k_
@[simp] theorem Lf.func71:(aJ q tP).funcs[71]?=some Tryz.f71:=aO Tryz.func71 d_ rfl rfl k_
@[simp] theorem Lf.func90:(aJ q tP).funcs[90]?=some Tryz.f90:=aO Tryz.func90 d_ rfl rfl k_
@[simp] theorem Lf.func107:(aJ q tP).funcs[107]?=some Tryz.f107:=aO Tryz.func107 d_ rfl rfl k_
@[simp] theorem Lf.func129:(aJ q tP).funcs[129]?=some Tryz.f129:=aO Tryz.func129 d_ rfl rfl k_
@[simp] theorem Lf.func109:(aJ q tP).funcs[109]?=some Tryz.f109:=aO Tryz.func109 d_ rfl rfl k_
@[simp] theorem Lf.func130:(aJ q tP).funcs[130]?=some Tryz.f130:=aO Tryz.func130 d_ rfl rfl k_
@[simp] theorem Lf.func93:(aJ q tP).funcs[93]?=some Tryz.f93:=aO Tryz.func93 d_ rfl rfl k_
@[simp] theorem Lf.func95:(aJ q tP).funcs[95]?=some Tryz.f95:=aO Tryz.func95 d_ rfl rfl k_
@[simp] theorem Lf.func122:(aJ q tP).funcs[122]?=some Tryz.f122:=aO Tryz.func122 d_ rfl rfl k_
@[simp] theorem Lf.func12:(aJ q tP).funcs[12]?=some Tryz.f12:=aO Tryz.func12 d_ rfl rfl k_
@[simp] theorem Lf.func15:(aJ q tP).funcs[15]?=some Tryz.f15:=aO Tryz.func15 d_ rfl rfl k_
@[simp] theorem Lf.func27:(aJ q tP).funcs[27]?=some Tryz.f27:=aO Tryz.func27 d_ rfl rfl k_
@[simp] theorem Lf.func38:(aJ q tP).funcs[38]?=some Tryz.f38:=aO Tryz.func38 d_ rfl rfl k_
@[simp] theorem Lf.func29:(aJ q tP).funcs[29]?=some Tryz.f29:=aO Tryz.func29 d_ rfl rfl k_
@[simp] theorem Lf.func37:(aJ q tP).funcs[37]?=some Tryz.f37:=aO Tryz.func37 d_ rfl rfl k_
@[simp] theorem Lf.call37(args:Array Value)(w:World):(callFunc 37 args).run (aJ q tP) w= .ok (.enter 37 args) w:=dp Lf.func37 k_ rfl args w
@[simp] theorem Lf.func30:(aJ q tP).funcs[30]?=some Tryz.f30:=aO Tryz.func30 d_ rfl rfl k_
@[simp] theorem Lf.func31:(aJ q tP).funcs[31]?=some Tryz.f31:=aO Tryz.func31 d_ rfl rfl k_
@[simp] theorem Lf.func32:(aJ q tP).funcs[32]?=some Tryz.f32:=aO Tryz.func32 d_ rfl rfl k_
@[simp] theorem Lf.func64:(aJ q tP).funcs[64]?=some Tryz.f64:=aO Tryz.func64 d_ rfl rfl k_
@[simp] theorem Lf.func65:(aJ q tP).funcs[65]?=some Tryz.f65:=aO Tryz.func65 d_ rfl rfl k_
@[simp] theorem Lf.func66:(aJ q tP).funcs[66]?=some Tryz.f66:=aO Tryz.func66 d_ rfl rfl k_
@[simp] theorem Lf.func34:(aJ q tP).funcs[34]?=some Tryz.f34:=aO Tryz.func34 d_ rfl rfl k_
@[simp] theorem Lf.call34(args:Array Value)(w:World):(callFunc 34 args).run (aJ q tP) w= .ok (.enter 34 args) w:=dp Lf.func34 k_ rfl args w
@[simp] theorem Lf.func35:(aJ q tP).funcs[35]?=some Tryz.f35:=aO Tryz.func35 d_ rfl rfl k_
@[simp] theorem Lf.call35(args:Array Value)(w:World):(callFunc 35 args).run (aJ q tP) w= .ok (.enter 35 args) w:=dp Lf.func35 k_ rfl args w
@[simp] theorem Lf.func67:(aJ q tP).funcs[67]?=some Tryz.f67:=aO Tryz.func67 d_ rfl rfl k_
@[simp] theorem Lf.call67(args:Array Value)(w:World):(callFunc 67 args).run (aJ q tP) w= .ok (.enter 67 args) w:=dp Lf.func67 k_ rfl args w
@[simp] theorem Lf.func68:(aJ q tP).funcs[68]?=some Tryz.f68:=aO Tryz.func68 d_ rfl rfl k_
@[simp] theorem Lf.call68(args:Array Value)(w:World):(callFunc 68 args).run (aJ q tP) w= .ok (.enter 68 args) w:=dp Lf.func68 k_ rfl args w
@[simp] theorem Lf.func87:(aJ q tP).funcs[87]?=some Tryz.f87:=aO Tryz.func87 d_ rfl rfl k_
@[simp] theorem Lf.call87(args:Array Value)(w:World):(callFunc 87 args).run (aJ q tP) w= .ok (.enter 87 args) w:=dp Lf.func87 k_ rfl args w
theorem Lf.underlying81:type_of%((cc (q:=q) (P:=tP) 81).trans Tryz.underlying81):=(cc 81).trans Tryz.underlying81
theorem Lf.underlying26:type_of%((cc (q:=q) (P:=tP) 26).trans Tryz.underlying26):=(cc 26).trans Tryz.underlying26
theorem Lf.underlying29:type_of%((cc (q:=q) (P:=tP) 29).trans Tryz.underlying29):=(cc 29).trans Tryz.underlying29
theorem Lf.underlying115:type_of%((cc (q:=q) (P:=tP) 115).trans Tryz.underlying115):=(cc 115).trans Tryz.underlying115
theorem Lf.underlying119:type_of%((cc (q:=q) (P:=tP) 119).trans Tryz.underlying119):=(cc 119).trans Tryz.underlying119
end
section
open Go.RowKit
def PN(l:List Int):List Value:=l.map λx=>Value.int .i64 x
theorem fy(l:List Int):(PN l).length=l.length:=by simp[PN]
theorem pj(l:List Int):∀v∈PN l,v.oneCell'=true:=by intro v a;simp only[PN,List.mem_map]at a;obtain⟨x,_,rfl⟩:=a;rfl
theorem P5(L:List Int)(k:Nat)(h:k<L.length):(PN L)[k]?=some (.i (L.getD k 0)):=by simp[PN,h]
theorem Lx{o:Nat}{L:List Int}(h:w.rangeAt b o (PN L))(k:Nat)(a:k<L.length):w.cell? ⟨b,o+k,none⟩=some (.i (L.getD k 0)):=h k _ (P5 L k a)
theorem eW{L:List Int}(h:w.rangeAt b 0 (PN L))(k:Nat)(a:k<L.length):w.cell? ⟨b,k,none⟩=some (.i (L.getD k 0)):=by have:=Lx h k a;rwa [IS]at this
theorem NK(L:List Int)(k:Nat)(v:Int):(PN L).set k (.i v)=PN (L.set k v):=by simp[PN,List.map_set]
theorem tD(B:List UInt8)(k:Nat)(h:k<64)(v:Int)(hv:v=if k<16 then rl B k else rQ (bZ B k) k):(PN (cO B k)).set k (.i v)=PN (cO B (k+1)):=by subst hv;rw[cO,cO,show 64- k=(64-(k+1))+1 from o_,Rz,PN,PN,bZ];rw[QW,Ra _ _ (by simp[cn])];simp[cn]
theorem lU(B:List UInt8)(k j:Nat)(h:j<k):(PN (cO B k))[j]?=some (.i ((bZ B k).getD j 0)):=by rw[cO,PN,QW,Q9 (by simp[cn];omega)];simp[cn,h]
theorem rA(B:List UInt8)(k:Nat)(a:k<64):(PN (cO B k))[k]?=some (.i 0):=by rw[cO,PN,QW,PY (by simp[cn])];rw[List.map_replicate,QR,if_pos (by simp[cn];omega)]
theorem xc(B:List UInt8):PN (cO B 0)=OF 64 (.i 0):=by simp[cO,bZ,PN]
structure KQ (w M:World) (H KS:List Int) (kb cap:Nat) (hs:Value):Prop where
 size:M.heap.size=w.heap.size+1+1+1
 below:Bw w M
 crow:M.cell? ⟨w.heap.size,1,none⟩=some (.sk kb 64 cap)
 hrow:M.rangeAt (w.heap.size+1) 0 (PN H)
 res:M.there (w.heap.size+1+1) 0 8
 krow:M.rangeAt kb 0 (PN KS)
 hsv:hs=hs
structure MS (w N:World) (H KS S:List Int) (kb cap:Nat):Prop where
 size:N.heap.size=w.heap.size+1+1+1+1
 below:Bw w N
 crow:N.cell? ⟨w.heap.size,1,none⟩=some (.sk kb 64 cap)
 hrow:N.rangeAt (w.heap.size+1) 0 (PN H)
 res:N.there (w.heap.size+1+1) 0 8
 srow:N.rangeAt (w.heap.size+1+1+1) 0 (PN S)
 krow:N.rangeAt kb 0 (PN KS)
theorem Ei{M:World}{H:List Int}{b a:Nat}{c:Value}(h:KQ w M H KS b a c)(S:List Int)(T:TypeId)(n:Nat):MS w ((M.alloc (.cells (PN S).toArray T)).drewN n) H KS S b a:=
 ⟨by show(M.alloc _).heap.size=_;rw[World.size_alloc,h.size],below_drewN (h.below.alloc (by rw[h.size];omega) _) n,
  by show(M.alloc _).cell? _=_;rw[RB _ _ _ (by rw[h.size];omega)];exact h.crow,
  kw (Qr h.hrow _),rr (Ro h.res _),kw (dm _ _ _ _ h.size.symm),kw (Qr h.krow _)⟩
def oZ(H G:List Int)(k:Nat):List Int:=(Q8 8).map λi=>if i<k then Qk.wrap (H.getD i 0+G.getD i 0)else G.getD i 0
theorem yZ(H G:List Int)(k:Nat):(oZ H G k).length=8:=by simp[oZ]
theorem Bh(H:List Int)(G:St):oZ H G.list 0=G.list:=rfl
theorem GO(H G:List Int):oZ H G 8=eK H G 8:=by
 apply List.ext_getElem
 ·simp[oZ,eK]
 ·intro i c b;have a:i<8:=by simpa[eK]using b
  simp[oZ,eK,a]
theorem GN(H G:List Int)(k:Nat)(h:k<8):(oZ H G k).getD k 0=G.getD k 0:=by rw[oZ,Cd,List.getElem?_map,List.getElem?_range h];simp
theorem GM(H G:List Int)(k:Nat):(PN (oZ H G k)).set k (.i (Qk.wrap (H.getD k 0+G.getD k 0)))=PN (oZ H G (k+1)):=by
 rw[NK]
 congr 1
 apply List.ext_getElem
 ·simp[oZ]
 ·intro i d b;have c:i<8:=by simpa[oZ]using b
  rw[List.getElem_set];simp only[oZ,List.getElem_map,List.getElem_range];by_cases e:k=i
  ·subst e;simp
  ·rw[if_neg e];by_cases a:i<k
   ·rw[if_pos a,if_pos o_]
   ·rw[if_neg a,if_neg o_]
theorem IW{G:St}(h:G.Wd):iU G.list:=by
 intro i;by_cases a:i<8
 ·have:i=0\/i=1\/i=2\/i=3\/i=4\/i=5\/i=6\/i=7:=o_
  rcases this with rfl|rfl|rfl|rfl|rfl|rfl|rfl|rfl
  ·exact h.a
  ·exact h.b
  ·exact h.c
  ·exact h.d
  ·exact h.e
  ·exact h.f
  ·exact h.g
  ·exact h.h
 ·rw[Cd,Rb (by simp[St.list];omega)];exact Nm
theorem Ft(w:World)(H KS:List Int)(b a:Nat)(d:Value)(i h g:TypeId)(e:w.rangeAt b 0 (PN KS))(c:Array Value)(f:c.size=8):
 KQ w (((w.alloc (.cells #[d, .sk b 64 a] i)).alloc (.cells (PN H).toArray h)).alloc (.cells c g)) H KS b a d:=by
 refine⟨s_,(((Below.refl _ _).alloc (T6 _) _).alloc s_ _).alloc (by simp;omega) _, ?_, ?_, ?_, ?_,rfl⟩
 ·rw[RB _ _ _ (by simp;omega),RB _ _ _ s_,QE _ _ _ _ rfl];rfl
 ·exact Qr (dm _ _ _ _ s_) _
 ·exact cX _ _ _ _ _ s_ f
 ·exact Qr (Qr (Qr e _) _) _
theorem ck(n:Int)(b:0<=n)(a:n<=9223372036854775807):Q4.wrap n=n:=by rw[Q3];omega
theorem IQ(L:List UInt8)(a k:Nat)(f:k<16)(h:a+64<=L.length):cZ [L.getD (a+4*k) 0,L.getD (a+4*k+1) 0,L.getD (a+4*k+2) 0,L.getD (a+4*k+3) 0]=rl ((L.drop a).take 64) k:=by
 have e:(((L.drop a).take 64).drop (4*k)).take 4=[L.getD (a+4*k) 0,L.getD (a+4*k+1) 0,L.getD (a+4*k+2) 0,L.getD (a+4*k+3) 0]:=by
  apply List.ext_getElem
  ·simp;omega
  ·intro i l d;have g:i<4:=(by simpa using d);have b:∀j (c:j<L.length),L.getD j 0=L[j]:=λj c=>by rw[Cd,Q0 c];rfl
   have:i=0\/i=1\/i=2\/i=3:=o_;rcases this with rfl|rfl|rfl|rfl
   ·simp only[List.getElem_cons_zero];rw[b _ o_];simp
   ·simp only[List.getElem_cons_zero,List.getElem_cons_succ];rw[b _ o_];simp[Nat.add_assoc]
   ·simp only[List.getElem_cons_zero,List.getElem_cons_succ];rw[b _ o_];simp[Nat.add_assoc]
   ·simp only[List.getElem_cons_zero,List.getElem_cons_succ];rw[b _ o_];simp[Nat.add_assoc]
 rw[rl,e];have:=jj [L.getD (a+4*k) 0,L.getD (a+4*k+1) 0,L.getD (a+4*k+2) 0,L.getD (a+4*k+3) 0] 4 s_;rw[Qn,Int.emod_eq_of_lt this.1 (by simpa using this.2)]
theorem rh{M a:World}{L:List Value}(d:M=(a.alloc (.cells L.toArray 111)).drewN n)(c:a.heap.size=b)(h:L[j]?=some v):M.cell? ⟨b,j,none⟩=some v:=by subst d;simp only[Sj];rw[QE _ _ _ _ c.symm];simpa using h
theorem Ai{M a:World}{L:List Value}(d:M=(a.alloc (.cells L.toArray 111)).drewN n)(c:a.heap.size=b)(j:Nat):M.frozen? ⟨b,j,none⟩=false:=by subst d;simp only[World.frozen?_drewN];rw[World.frozen?_alloc_at _ _ _ _ c.symm]
theorem L6{M c:World}{L:List Value}(e:M=(c.alloc (.cells L.toArray 111)).drewN n)(d:c.heap.size=b)(a j:Nat)(v:Value):(M.drewN a).setCell ⟨b,j,none⟩ v=(c.alloc (.cells (L.set j v).toArray 111)).drewN (n+a):=by subst e;rw[World.drewN_drewN];show((c.alloc (.cells L.toArray 111)).setCell ⟨b,j,none⟩ v).drewN (n+a)=_;rw[World.setCell_alloc_at _ _ _ _ _ d.symm];simp
def PP(n:Nat):Nat:=(n+8)/64*64+64
theorem Eo(n:Nat):(119- n%64)%64=PP n- n- 9:=by unfold PP;omega
theorem qz(n:Nat):n+9<=PP n:=by unfold PP;omega
def tN(L:List UInt8)(i:Nat):List UInt8:=L++[128]++OF (PP L.length- L.length- 9) 0++(da (8*L.length) 8).take i++OF (8- i) 0
theorem mZ(L:List UInt8)(i:Nat)(h:i<=8):(tN L i).length=PP L.length:=by have:=qz L.length;simp[tN,cR];omega
theorem AV(L:List UInt8):(L++OF (PP L.length- L.length) 0).set L.length 128=tN L 0:=by obtain⟨z,a⟩:∃z,PP L.length=L.length+9+z:=⟨PP L.length- L.length- 9,by have:=qz L.length;omega⟩;rw[tN,a,show L.length+9+z- L.length=(z+8)+1 from o_,show z+8+1- 9=z from o_,Rz,Ra _ _ o_];simp only[List.cons_append,Nat.sub_self,List.set_cons_zero,List.take_zero,List.append_nil,List.append_assoc,Nat.sub_zero,List.replicate_append_replicate,List.nil_append]
theorem tM(L:List UInt8):tN L 8=L++ii L:=by rw[tN,ii,Eo,show([0]:List UInt8)=OF 1 0 from rfl,Lib.repeatL_replicate,Nat.mul_one];simp[cR,QQ]
theorem Gy(L:List UInt8)(i:Nat)(h:i<8)(v:UInt8)(hv:v=RR (8*L.length/256^(7- i))):(tN L i).set (PP L.length- 8+i) v=tN L (i+1):=by
 subst hv;have:=qz L.length;have a:=yS 8 (8*L.length) i h;rw[show 8- 1- i=7- i from o_]at a;obtain⟨b,a⟩:=Tf.1 a;rw[tN,tN,show 8- i=(8-(i+1))+1 from o_,Rz,R3 b,a];rw[Ra _ _ (by simp[cR];omega)];have e:PP L.length- 8+i-(L++[128]++OF (PP L.length- L.length- 9) 0++(da (8*L.length) 8).take i).length=0:=by simp[cR];omega
 rw[e];simp
theorem JA(n i:Nat)(h:i<8):8*(n:Int)/2^(56- 8*i)%256=((RR (8*n/256^(7- i))).toNat:Int):=by
 have e:(2:Int)^(56- 8*i)=((256^(7- i):Nat):Int):=by rw[show 56- 8*i=8*(7- i)from o_,Int.pow_mul,Q1];rfl
 rw[e,show 8*(n:Int)=((8*n:Nat):Int)from o_,←QU];simp
theorem Ob(L:List UInt8)(k:Nat)(h:k<L.length):(aV L)[k]?=some (.int .u8 ((L.getD k 0).toNat:Int)):=by simp[aV,h]
theorem NL(L:List UInt8)(k:Nat)(v:UInt8):(aV L).set k (.int .u8 (v.toNat:Int))=aV (L.set k v):=by simp[aV,List.map_set]
theorem CJ{L:List UInt8}(h:w.rangeAt b 0 (aV L))(k:Nat)(a:k<L.length):w.cell? ⟨b,k,none⟩=some (.int .u8 ((L.getD k 0).toNat:Int)):=by have:=h k _ (Ob L k a);rwa [IS]at this
structure MU (w M:World) (m:Nat) (X:List UInt8):Prop where
 size:M.heap.size=w.heap.size+1
 below:Bw w M
 row:M.rangeAt w.heap.size 0 (aV X)
 there:M.there w.heap.size 0 m
theorem Ep(w:World)(L:List UInt8)(m:Nat)(T:TypeId)(h:L.length<=m):MU w ((w.alloc (.cells (madeCells #[.int .u8 0] m) T)).setCells w.heap.size 0 (aV L)) m (L++OF (m- L.length) 0):=by
 have b:(w.alloc (.cells (madeCells #[.int .u8 0] m) T)).there w.heap.size 0 m:=cX _ _ _ _ _ rfl (by rw[dt];simp);refine⟨by rw[ge];simp,bN (T6 _) _ _ _ _ ((Below.refl _ _).alloc (T6 _) _),λj v a=> ?_,QD b _ _ _⟩;rw[aV,QW]at a;by_cases c:j<L.length
 ·rw[Q9 (by simpa using c)]at a;exact AI _ _ _ (aV L) (iu b (T6 _) (by rw[cj];omega)) j v a
 ·rw[PY (by simpa using c)]at a;rw[World.cell?_setCells_out _ _ _ _ _ (λ_ _=>Or.inr (by show 0+(aV L).length<=0+j;rw[cj];omega)),QE _ _ _ _ rfl,dt];simp only[List.map_replicate,List.length_map,QR]at a;simp only[List.getElem?_toArray,QR];split at a
  ·rw[if_pos o_];exact a
  ·cases a
def et:List Int:=[1116352408,1899447441,3049323471,3921009573,961987163,1508970993,2453635748,2870763221,3624381080,310598401,607225278,1426881987,1925078388,2162078206,2614888103,3248222580,3835390401,4022224774,264347078,604807628,770255983,1249150122,1555081692,1996064986,2554220882,2821834349,2952996808,3210313671,3336571891,3584528711,113926993,338241895,666307205,773529912,1294757372,1396182291,1695183700,1986661051,2177026350,2456956037,2730485921,2820302411,3259730800,3345764771,3516065817,3600352804,4094571909,275423344,430227734,506948616,659060556,883997877,958139571,1322822218,1537002063,1747873779,1955562222,2024104815,2227730452,2361852424,2428436474,2756734187,3204031479,3329325298]
theorem dQ:et.length=64:=by decide+kernel
theorem AU(L:List UInt8):(L++ii L).length=64*((L++ii L).length/64):=by rw[←tM,mZ _ _ (T6 _)];unfold PP;omega
def kN(k:Nat):List Int:=H0.take k++OF (8- k) 0
theorem uS(k:Nat)(h:k<=8):(kN k).length=8:=by simp[kN,H0];omega
theorem BE(k:Nat)(h:k<8):(kN k).set k (H0.getD k 0)=kN (k+1):=by
 have:k=0\/k=1\/k=2\/k=3\/k=4\/k=5\/k=6\/k=7:=o_
 rcases this with rfl|rfl|rfl|rfl|rfl|rfl|rfl|rfl<;>rfl
structure oi (w M:World) (hb capH kb cap:Nat) (Hl:List Int):Prop where
 size:w.heap.size+1+1<=M.heap.size
 below:Bw w M
 crow:M.rangeAt w.heap.size 0 [.sk hb 8 capH, .sk kb 64 cap]
 hrow:M.rangeAt (w.heap.size+1) 0 (PN Hl)
 there:M.there (w.heap.size+1) 0 8
theorem E9(w:World)(hb capH kb cap:Nat)(a b:TypeId):oi w ((w.alloc (.cells #[.sk hb 8 capH, .sk kb 64 cap] a)).alloc (.cells (PN (kN 0)).toArray b)) hb capH kb cap (kN 0):=
 ⟨s_,((Below.refl _ _).alloc (T6 _) _).alloc s_ _,Qr (dm w [.sk hb 8 capH, .sk kb 64 cap] a _ rfl) _,dm _ _ _ _ s_,cX _ _ _ _ _ s_ rfl⟩
theorem oi.below'{M b:World}{hb capH kb cap:Nat}{c:List Int}(h:oi w M hb capH kb cap c)(a:Bw M b):oi w b hb capH kb cap c:=by have:=h.size;have d:=a.size;exact⟨o_,h.below.trans (a.mono o_),bC a o_ h.crow,bC a o_ h.hrow,eO a o_ h.there⟩
theorem oi.set{M:World}{hb capH kb cap:Nat}{a:List Int}(h:oi w M hb capH kb cap a)(k:Nat)(v:Int):oi w (M.setCell ⟨w.heap.size+1,k,none⟩ (.i v)) hb capH kb cap (a.set k v):=
 ⟨by have:=h.size;simpa[Q6]using this,h.below.setCell (p:=⟨w.heap.size+1,k,none⟩) (by show w.heap.size<=w.heap.size+1;omega) _,Qi h.crow _ k [_] (S8 o_),by have:=jv (k:=k) h.hrow (.i v);rwa [NK]at this,fR h.there _ _ _⟩
theorem oi.put{M:World}{hb capH kb cap:Nat}{b:List Int}(h:oi w M hb capH kb cap b)(H2:List Int)(a:H2.length=8):oi w (M.setCells (w.heap.size+1) 0 (PN H2)) hb capH kb cap H2:=
 ⟨by rw[ge];exact h.size,bN o_ _ _ _ _ h.below,Qi h.crow _ _ _ (S8 o_),AI _ _ _ _ (by rw[fy,a];exact h.there),QD h.there _ _ _⟩
theorem sM:iU et:=by
 intro i;by_cases h:i<64
 ·have:∀i:Fin 64,Wd (et.getD i.1 0):=by have:(Q8 64).all (λi=>decide (0<=et.getD i 0/\et.getD i 0<4294967296))=true:=(by decide+kernel);intro i;have:=List.all_eq_true.1 this i.1 s_;exact(of_decide_eq_true this:0<=et.getD i.1 0/\et.getD i.1 0<4294967296)
  exact this ⟨i,h⟩
 ·rw[Cd,Rb (by rw[dQ];omega)];exact Nm
def cz(L:List UInt8)(a b:Nat):List UInt8:=(L.take b).drop a
theorem nC(L:List UInt8)(a b:Nat)(h:b<=L.length):(cz L a b).length=b- a:=by simp[cz];omega
theorem Fb(L:List UInt8)(a i:Nat)(h:a+i<L.length):cz L a (a+(i+1))=cz L a (a+i)++[L.getD (a+i) 0]:=by rw[cz,cz,show a+(i+1)=a+i+1 from o_,R3 h,List.drop_append_of_le_length (by simp;omega),Cd,Q0 h];rfl
def uC(v n i:Nat):List Value:=aV ((da v n).take i)++OF (n- i) (.int .u8 0)
theorem DW(v n i:Nat)(h:i<=n):(uC v n i).length=n:=by simp[uC,aV,cR];omega
theorem FQ(v n:Nat):uC v n 0=OF n (.int .u8 0):=by simp[uC,aV]
theorem Lj(v n:Nat):uC v n n=aV (da v n):=by simp[uC,cR,QQ]
theorem Li(v n i:Nat)(h:i<n):(uC v n i)[i]?=some (.int .u8 0):=by
 have e:(aV ((da v n).take i)).length=i:=by simp[aV,cR];omega
 rw[uC,PY o_,e,Nat.sub_self,QR,if_pos o_]
theorem Lh(v n i:Nat)(h:i<n)(x:Int)(b:x=((v/256^(n- 1- i)%256:Nat):Int)):(uC v n i).set i (.int .u8 x)=uC v n (i+1):=by
 subst b;have a:=yS n v i h;obtain⟨c,a⟩:=Tf.1 a;rw[uC,uC,show n- i=(n-(i+1))+1 from o_,Rz,R3 c,a,Ra _ _ (by simp[aV,cR];omega)];have e:i-(aV ((da v n).take i)).length=0:=by simp[aV,cR];omega
 rw[e];simp[aV]
theorem NB(v n i:Nat):(v:Int)/2^(8*(n- 1- i))%256=((v/256^(n- 1- i)%256:Nat):Int):=by rw[Int.pow_mul,show((2:Int)^8)=((256:Nat):Int)from d_,←Q1,←QU,←show((256:Nat):Int)=256 from rfl,←Int.natCast_emod]
theorem Lg(v:Int)(V n i:Nat)(b:(V:Int)=v%18446744073709551616)(c:n<=8):v/2^(8*(n- 1- i))%256=((V/256^(n- 1- i)%256:Nat):Int):=by
 rw[←NB,b];have a:n- 1- i<=7:=o_
 generalize n- 1- i=j at a;rcases(o_:j=0\/j=1\/j=2\/j=3\/j=4\/j=5\/j=6\/j=7)with rfl|rfl|rfl|rfl|rfl|rfl|rfl|rfl<;>simp<;>omega
end
namespace L1
open Go.RowKit
theorem ll(x:Int)(k:Nat)(w:World)(a:Wd x)(b:2<=k)(h:k<=31):
 Calls lT 87 #[.i x, .i (k:Int)] w λe w'=>e= .returned (.i (tG x (-(k:Int))))/\∃n,w'=w.drewN n:=by
 have g:Hid _:=Jl x k a b h;have f:Hid _:=NJ x k a b;obtain⟨d,c⟩:=a;have j:min k 64=k:=o_
 have i:min (32- k) 64=32- k:=o_
 go_enter Lf.func87,Tryz.ntmps87
 go_wp2
 go_quiet (fail)
 go_wp2
 go_ret
 exact⟨sR (by rw[f.out];exact g.out),_,rfl⟩
theorem pL(x:Int)(a b c:Nat)(w:World)(d:Wd x)(p:2<=a)(h:a<=31)(o:2<=b)(g:b<=31)(m:2<=c)(f:c<=31):
 Calls lT 68 #[.i x, .i (a:Int), .i (b:Int), .i (c:Int)] w λe w'=>e= .returned (.i (dT x a b c))/\∃n,w'=w.drewN n:=by
 go_enter Lf.func68,Tryz.ntmps68
 go_wp2_with fail
 refine(ll x a _ d p h).mono ?_;rintro e i ⟨rfl,l,rfl⟩
 go_wp2_with fail
 refine(ll x b _ d o g).mono ?_;rintro e i ⟨rfl,k,rfl⟩
 go_wp2_with fail
 refine(ll x c _ d m f).mono ?_;rintro e i ⟨rfl,j,rfl⟩
 go_wp2
 go_ret
 refine⟨sR ?_,l+k+j,rfl⟩;rw[sZ (tF _ _) (tF _ _),sZ (ip _ _ _) (tF _ _)];rfl
theorem pM(x:Int)(a b c:Nat)(w:World)(d:Wd x)(m:2<=a)(g:a<=31)(l:2<=b)(f:b<=31)(k:c<=31):
 Calls lT 67 #[.i x, .i (a:Int), .i (b:Int), .i (c:Int)] w λe w'=>e= .returned (.i (gO x a b c))/\∃n,w'=w.drewN n:=by
 go_enter Lf.func67,Tryz.ntmps67
 go_wp2_with fail
 refine(ll x a _ d m g).mono ?_;rintro e h ⟨rfl,j,rfl⟩
 go_wp2_with fail
 refine(ll x b _ d l f).mono ?_;rintro e h ⟨rfl,i,rfl⟩;have o:min c 64=c:=o_
 go_wp2
 go_ret
 refine⟨sR ?_,j+i,rfl⟩;rw[sZ (tF _ _) (tF _ _),sZ (ip _ _ _) (M7 d _)];rfl
theorem ly(s:ByteArray)(p:Nat)(i:Int)(a:i=(p:Int))(h:p<s.size)(W:World):(S6 9 (.s s) (.i i)).run lT W= .ok (.int .u8 ((s.data.toList.getD p 0).toNat:Int)) W:=by
 have b:s.data.toList.getD p 0=s[p]:=by rw[Cd,Q0 (by simp_all)];rfl
 simp_all[S6,asIntOf]
theorem Fs(H KS:List Int)(s:ByteArray)(at' kb cap:Nat)(hs:Value)(w:World)(hH:H.length=8)(hHw:iU H)(hKl:KS.length=64)(hKw:iU KS)(hK:w.rangeAt kb 0 (PN KS))
 (hat:at'+64<=s.size) (hsz:s.size<=281474976710656):
 Calls lT 35 #[.agg #[hs, .sk kb 64 cap], .agg (PN H).toArray, .s s, .i (at':Int)] w
  λe w'=>e= .returned (.agg (PN (mg KS H ((s.data.toList.drop at').take 64))).toArray)/\Bw w w':=by
 have HK:Hid (w.rangeAt kb 0 (PN KS)):=hK;clear hK
 go_enter Lf.func35,Tryz.ntmps35
 go_wp2
 refine wQ (λM=>∃M0,KQ w M0 H KS kb cap hs/\M=M0.alloc (.cells (PN (cO (((s.data.toList.drop at').take 64)) 0)).toArray 111)) ?_ ?_
 ·exact⟨_,Ft w H KS kb cap hs _ _ _ HK.out _ rfl,by rw[xc];rfl⟩
 rintro _ ⟨M,hM,rfl⟩;have HM:Hid (KQ w M H KS kb cap hs):=hM;have hMs:M.heap.size=w.heap.size+1+1+1:=hM.size;clear hM;generalize hB:(s.data.toList.drop at').take 64=B;have HB:Hid ((s.data.toList.drop at').take 64=B):=hB;clear hB
 go_loopw [10] (λi wr=>∃(k n:Nat),k<=16/\i= .i k/\wr=(M.alloc (.cells (PN (cO B k)).toArray 111)).drewN n) (λi _=>16-(intOf i).toNat)
 case atStart=>exact⟨0,0,o_,rfl,rfl⟩
 case round=>
  obtain⟨k,n,hk,rfl,rfl⟩:=hrel;by_cases hlt:k<16
  ·obtain⟨p,hp⟩:∃p,p=at'+4*k:=⟨_,rfl⟩
   go_wp2_with fail
   rw[show(at':Int)+4*(k:Int)=(p:Int)from o_];have i0:=ly s p p rfl o_;have i1:=ly s (p+1) ((p:Int)+1) o_ o_;have i2:=ly s (p+2) ((p:Int)+2) o_ o_;have i3:=ly s (p+3) ((p:Int)+3) o_ o_;have hX:cZ [s.data.toList.getD p 0,s.data.toList.getD (p+1) 0,s.data.toList.getD (p+2) 0,s.data.toList.getD (p+3) 0]=rl B k:=by rw[hp,←HB.out];exact IQ s.data.toList at' k hlt (by simpa using hat)
   generalize s.data.toList.getD p 0=x0 at i0 hX;generalize s.data.toList.getD (p+1) 0=x1 at i1 hX;generalize s.data.toList.getD (p+2) 0=x2 at i2 hX;generalize s.data.toList.getD (p+3) 0=x3 at i3 hX;have X:Hid (cZ [x0,x1,x2,x3]=rl B k):=hX;clear hX;have v0:=x0.toNat_lt;have v1:=x1.toNat_lt;have v2:=x2.toNat_lt;have v3:=x3.toNat_lt;obtain⟨N,hN⟩:∃N,N=(M.alloc (.cells (PN (cO B k)).toArray 111)).drewN n:=⟨_,rfl⟩;have f16:=rh hN hMs (rA B k o_);have g16:=Ai hN hMs k;rw[←hN];have HN:Hid (N=(M.alloc (.cells (PN (cO B k)).toArray 111)).drewN n):=hN;clear hN;have b0:(k:Int)<64:=o_;have b1:(0:Int)<=(k:Int):=o_;have HP:Hid (p=at'+4*k):=hp;have w1:=ck ((p:Int)+1) o_ o_;have w2:=ck ((p:Int)+2) o_ o_;have w3:=ck ((p:Int)+3) o_ o_;have u0:=ck ((x0.toNat:Nat):Int) o_ o_;have u1:=ck ((x1.toNat:Nat):Int) o_ o_;have u2:=ck ((x2.toNat:Nat):Int) o_ o_;have u3:=ck ((x3.toNat:Nat):Int) o_ o_;have t0:=ck (((x0.toNat:Nat):Int)*16777216) o_ o_;have t1:=ck (((x1.toNat:Nat):Int)*65536) o_ o_;have t2:=ck (((x2.toNat:Nat):Int)*256) o_ o_;clear hp;refine wp_region_any k_ ?_
   change wpAny _ _ _ _ _ _ _ (No N)
   refine wT 0 (.i k) ?_;refine wT 1 (.s s) ?_;refine wT 2 (.i p) ?_;refine wT 3 (.int .u8 ((x0.toNat:Nat):Int)) ?_;refine wT 4 (.i ((x0.toNat:Nat):Int)) ?_;refine wT 5 (.i (((x0.toNat:Nat):Int)*16777216)) ?_;refine wT 6 (.s s) ?_;refine wT 7 (.i p) ?_;refine wT 8 (.i ((p:Int)+1)) ?_;refine wT 9 (.int .u8 ((x1.toNat:Nat):Int)) ?_;refine wT 10 (.i ((x1.toNat:Nat):Int)) ?_;refine wT 11 (.i (((x1.toNat:Nat):Int)*65536)) ?_;refine wT 12 (.i (bits .or .i64 (((x0.toNat:Nat):Int)*16777216) (((x1.toNat:Nat):Int)*65536))) ?_;refine wT 13 (.s s) ?_;refine wT 14 (.i p) ?_;refine wT 15 (.i ((p:Int)+2)) ?_;refine wT 16 (.int .u8 ((x2.toNat:Nat):Int)) ?_;refine wT 17 (.i ((x2.toNat:Nat):Int)) ?_;refine wT 18 (.i (((x2.toNat:Nat):Int)*256)) ?_;refine wT 19 (.i (bits .or .i64 (bits .or .i64 (((x0.toNat:Nat):Int)*16777216) (((x1.toNat:Nat):Int)*65536)) (((x2.toNat:Nat):Int)*256))) ?_;refine wT 20 (.s s) ?_;refine wT 21 (.i p) ?_;refine wT 22 (.i ((p:Int)+3)) ?_;refine wT 23 (.int .u8 ((x3.toNat:Nat):Int)) ?_;refine wT 24 (.i ((x3.toNat:Nat):Int)) ?_;refine wT 25 (.i (bits .or .i64 (bits .or .i64 (bits .or .i64 (((x0.toNat:Nat):Int)*16777216) (((x1.toNat:Nat):Int)*65536)) (((x2.toNat:Nat):Int)*256)) ((x3.toNat:Nat):Int))) ?_;refine wT 26 (.pk (w.heap.size+1+1+1) k) ?_;refine wpAny_all (rs:=[27]) k_ (Ti _ _) (cH (j9 (by rfl) (by rfl) 3 (.tmp 65) (.tmp 64) (by rfl) (w.heap.size+1+1+1) k (.i (bits .or .i64 (bits .or .i64 (bits .or .i64 (((x0.toNat:Nat):Int)*16777216) (((x1.toNat:Nat):Int)*65536)) (((x2.toNat:Nat):Int)*256)) ((x3.toNat:Nat):Int))) ?e4 ?e5 rfl rfl ?e6 ?e7 k_ (by rfl) ?e8))
   case e4=>go_simp
   case e5=>go_simp
   case e6=>rw[World.cell?_drew,f16];rfl
   case e7=>rw[World.frozen?_drew];exact g16
   case e8=>
    refine wpAny_done k_ ?_ _;clear i0 i1 i2 i3 w1 w2 w3 u0 u1 u2 u3 t0 t1 t2 f16 g16
    go_wp2_with fail
    go_roundw
    case rel=>exact⟨k+1,n+1,o_,by go_num,(L6 HN.out hMs 1 _ _).trans (by rw[tD B k o_ _ (by rw[if_pos hlt,Lb];exact X.out)])⟩
    case measure=>simp[intOf];omega
  ·have hk16:k=16:=o_;subst hk16;clear hlt hk
   go_wp2
   go_loopw [12] (λi wr=>∃(k n:Nat),16<=k/\k<=64/\i= .i k/\
    wr=(M.alloc (.cells (PN (cO B k)).toArray 111)).drewN n) (λi _=>64-(intOf i).toNat)
   case atStart=>exact⟨16,n,o_,o_,rfl,rfl⟩
   case round=>
    clear n;obtain⟨k,n,hk16,hk,rfl,rfl⟩:=hrel;by_cases hlt:k<64
    ·obtain⟨m,rfl⟩:∃m,k=m+16:=⟨k- 16,o_⟩;rw[show((m+16:Nat):Int)=(m:Int)+16 from o_];obtain⟨N,hN⟩:∃N,N=(M.alloc (.cells (PN (cO B (m+16))).toArray 111)).drewN n:=⟨_,rfl⟩;have f0:=rh hN hMs (lU B (m+16) m o_);have f1:=rh hN hMs (lU B (m+16) (m+1) o_);have f9:=rh hN hMs (lU B (m+16) (m+9) o_);have f14:=rh hN hMs (lU B (m+16) (m+14) o_);have f16:=rh hN hMs (rA B (m+16) o_);have g16:=Ai hN hMs (m+16);have d0:=jq B (m+16) m;have d1:=jq B (m+16) (m+1);have d9:=jq B (m+16) (m+9);have d14:=jq B (m+16) (m+14);have hX:rQ (bZ B (m+16)) (m+16)=_:=yW _ _;generalize (bZ B (m+16)).getD m 0=x0 at f0 d0 hX;generalize (bZ B (m+16)).getD (m+1) 0=x1 at f1 d1 hX;generalize (bZ B (m+16)).getD (m+9) 0=x9 at f9 d9 hX;generalize (bZ B (m+16)).getD (m+14) 0=x14 at f14 d14 hX;have X:Hid _:=hX;rw[←hN];have HN:Hid (N=(M.alloc (.cells (PN (cO B (m+16))).toArray 111)).drewN n):=hN;clear hN hX;have b0:(m:Int)<64:=o_;have b1:(m:Int)+1<64:=o_;have b9:(m:Int)+9<64:=o_;have b14:(m:Int)+14<64:=o_;have b16:(m:Int)+16<64:=o_;have z0:0<=(m:Int):=o_;have p1:0<=(m:Int)+1:=o_;have p9:0<=(m:Int)+9:=o_;have p14:0<=(m:Int)+14:=o_;have p16:0<=(m:Int)+16:=o_;have t1:((m:Int)+1).toNat=m+1:=o_;have t9:((m:Int)+9).toNat=m+9:=o_;have t14:((m:Int)+14).toNat=m+14:=o_;have t16:((m:Int)+16).toNat=m+16:=o_;have D1:Hid (Wd x1):=d1;have D14:Hid (Wd x14):=d14
     go_wp2_with fail
     refine(pM x1 7 18 3 _ D1.out o_ o_ o_ o_ o_).mono ?_;rintro e w1 ⟨rfl,n1,rfl⟩
     go_wp2_with fail
     refine(pM x14 17 19 10 _ D14.out o_ o_ o_ o_ o_).mono ?_;rintro e w1 ⟨rfl,n2,rfl⟩;have e1:=tz x1 7 18 3;have e14:=tz x14 17 19 10;have hX:=X.out;generalize gO x1 7 18 3=q1 at e1 hX;generalize gO x14 17 19 10=q2 at e14 hX;have X2:Hid _:=hX;clear hX X f1 f14 b1 b14 p1 p14 t1 t14 d1 d14 D1 D14;obtain⟨d0a,d0b⟩:=d0;obtain⟨d9a,d9b⟩:=d9;obtain⟨e1a,e1b⟩:=e1;obtain⟨e2a,e2b⟩:=e14;have v0:=ck (m:Int) o_ o_;have v9:Q4.wrap ((m:Int)+16- 7)=m+9:=(ck ((m:Int)+16- 7) o_ o_).trans o_;have s1:=ck (x0+q1) o_ o_;have s2:=ck (x0+q1+x9) o_ o_;have s3:=ck (x0+q1+x9+q2) o_ o_;have hV:Hid (bits .and .i64 (x0+q1+x9+q2) 4294967295=rQ (bZ B (m+16)) (m+16)):=by show bits .and .i64 (x0+q1+x9+q2) 4294967295=rQ (bZ B (m+16)) (m+16);rw[X2.out,qC o_ o_];simp only[Qn];omega
     clear X2
     go_wp2_with fail
     go_region_held3 (λw'=>w'.cell? ⟨w.heap.size+1+1+1,m,none⟩=some (.i x0)/\w'.cell? ⟨w.heap.size+1+1+1,m+9,none⟩=some (.i x9)) (first|go_keep|(refine⟨?_, ?_⟩<;>(rw[World.cell?_setCell_other _ _ _ _ s_];simp only[Sj,f0,f9]))) (fail)
     all_goals
      clear f0 f9 f16 g16 b0 b9 v0 v9 p9 p16 t9 t16 s1 s2 s3
      go_wp2
      go_roundw
      case rel=>((repeat apply Exists.intro);exact⟨⟨m+17,_,o_,o_,by go_num,(L6 HN.out hMs _ _ _).trans (by rw[tD B (m+16) o_ _ (by rw[if_neg o_];exact hV.out)])⟩,rfl⟩)
      case measure=>simp[intOf];omega
    ·have hk64:k=64:=o_;subst hk64;clear hlt hk hk16;simp only[show((64:Nat):Int)=64 from rfl,show((16:Nat):Int)=16 from rfl];have hSl:(bZ B 64).length=64:=cn B 64;have hSw:iU (bZ B 64):=jq B 64;rw[rC];generalize hS:bZ B 64=S at*;have HS:Hid (bZ B 64=S):=hS;clear hS;refine wQ (λN=>MS w N H KS S kb cap) (Ei HM.out _ _ _) ?_;intro N hN;have HN:Hid (MS w N H KS S kb cap):=hN;clear hN n;obtain⟨s0,hs0⟩:∃s,s=St.of H:=⟨_,rfl⟩;have x0:N.cell? ⟨w.heap.size+1,0,none⟩=some (.i s0.a):=(by rw[hs0];exact eW HN.out.hrow 0 o_);have x1:N.cell? ⟨w.heap.size+1,1,none⟩=some (.i s0.b):=(by rw[hs0];exact eW HN.out.hrow 1 o_);have x2:N.cell? ⟨w.heap.size+1,2,none⟩=some (.i s0.c):=(by rw[hs0];exact eW HN.out.hrow 2 o_);have x3:N.cell? ⟨w.heap.size+1,3,none⟩=some (.i s0.d):=(by rw[hs0];exact eW HN.out.hrow 3 o_);have x4:N.cell? ⟨w.heap.size+1,4,none⟩=some (.i s0.e):=(by rw[hs0];exact eW HN.out.hrow 4 o_);have x5:N.cell? ⟨w.heap.size+1,5,none⟩=some (.i s0.f):=(by rw[hs0];exact eW HN.out.hrow 5 o_);have x6:N.cell? ⟨w.heap.size+1,6,none⟩=some (.i s0.g):=(by rw[hs0];exact eW HN.out.hrow 6 o_);have x7:N.cell? ⟨w.heap.size+1,7,none⟩=some (.i s0.h):=(by rw[hs0];exact eW HN.out.hrow 7 o_);have HH:Hid (s0=St.of H):=hs0;have HhH:Hid (H.length=8):=hH;have HhS:Hid (S.length=64):=hSl;have HKl:Hid (KS.length=64):=hKl;clear hs0 hH hSl hKl
     go_wp2
     clear x0 x1 x2 x3 x4 x5 x6 x7
     go_loopw [15,16,17,18,19,20,21,22,23] (λa b c d e f g h i wr=>∃(k n:Nat),k<=64/\i= .i k/\a= .i (cG KS S H k).a/\b= .i (cG KS S H k).b/\c= .i (cG KS S H k).c/\d= .i (cG KS S H k).d/\
      e= .i (cG KS S H k).e/\f= .i (cG KS S H k).f/\g= .i (cG KS S H k).g/\h= .i (cG KS S H k).h/\wr=N.drewN n) (λ_ _ _ _ _ _ _ _ i _=>64-(intOf i).toNat)
     case atStart=>exact⟨0,0,o_,rfl,by rw[HH.out];rfl,by rw[HH.out];rfl,by rw[HH.out];rfl,by rw[HH.out];rfl,by rw[HH.out];rfl,by rw[HH.out];rfl,by rw[HH.out];rfl,by rw[HH.out];rfl,rfl⟩
     case round=>
      obtain⟨k,n,hk,rfl,rfl,rfl,rfl,rfl,rfl,rfl,rfl,rfl,rfl⟩:=hrel;by_cases hlt:k<64
      ·have hsw:=wR KS S hHw k;generalize hs':cG KS S H k=s' at hsw⊢;have HR:Hid (cG KS S H k=s'):=hs';have HW:Hid s'.Wd:=hsw;have HhH:Hid (iU H):=hHw;have HhK:Hid (iU KS):=hKw;have HhW:Hid (iU S):=hSw;clear hs' hsw hHw hKw hSw hMs HM HK hat hsz;obtain⟨sa,sb,sc,sd,se,sf,sg,sh⟩:=s';dsimp only;have hlt':(k:Int)<64:=o_;have hk0:(0:Int)<=(k:Int):=o_;have ya:N.cell? ⟨w.heap.size,1,none⟩=some (.sk kb 64 cap):=HN.out.crow;have yk:N.cell? ⟨kb,k,none⟩=some (.i (KS.getD k 0)):=eW HN.out.krow k (by rw[HKl.out];omega);have yw:N.cell? ⟨w.heap.size+1+1+1,k,none⟩=some (.i (S.getD k 0)):=eW HN.out.srow k (by rw[HhS.out];omega);have wk:=HhK.out k;have ww:=HhW.out k;generalize hkk:KS.getD k 0=kk at yk wk;generalize hww:S.getD k 0=sw at yw ww;have HKK:Hid (KS.getD k 0=kk):=hkk;have HWW:Hid (S.getD k 0=sw):=hww;clear hkk hww
       go_wp2_with fail
       refine(pL se 6 11 25 _ HW.out.e o_ o_ o_ o_ o_ o_).mono ?_;rintro e w1 ⟨rfl,n1,rfl⟩;have tw:=vp se 6 11 25;generalize htp:dT se ((6:Nat):Int) ((11:Nat):Int) ((25:Nat):Int)=tp;have htp2:dT se 6 11 25=tp:=htp;rw[htp2]at tw;have HTP:Hid (dT se 6 11 25=tp):=htp2;clear htp htp2;have c0:=ck (4294967295- se) (by have:=HW.out.e.1;have:=HW.out.e.2;simp only at*;omega) (by have:=HW.out.e.1;have:=HW.out.e.2;simp only at*;omega)
       go_wp2_with fail
       have hch:bits .xor .i64 (bits .and .i64 se sf) (bits .and .i64 (4294967295- se) sg)=bits .xor .u32 (bits .and .u32 se sf) (bits .and .u32 (4294967295- se) sg):=by rw[zY HW.out.e HW.out.f,zY (LC HW.out.e) HW.out.g,sZ (ip _ _ _) (ip _ _ _)]
       rw[hch];have cw:=ip .xor (bits .and .u32 se sf) (bits .and .u32 (4294967295- se) sg);generalize hcc:bits .xor .u32 (bits .and .u32 se sf) (bits .and .u32 (4294967295- se) sg)=ch at cw⊢;have HCH:Hid (bits .xor .u32 (bits .and .u32 se sf) (bits .and .u32 (4294967295- se) sg)=ch):=hcc;clear hcc hch c0;obtain⟨hh0,hh1⟩:0<=sh/\sh<4294967296:=HW.out.h;obtain⟨tw0,tw1⟩:=tw;obtain⟨cw0,cw1⟩:=cw;obtain⟨wk0,wk1⟩:=wk;obtain⟨ww0,ww1⟩:=ww;have s1:=ck (sh+tp) o_ o_;have s2:=ck (sh+tp+ch) o_ o_;have s3:=ck (sh+tp+ch+kk) o_ o_;have s4:=ck (sh+tp+ch+kk+sw) o_ o_
       go_quiet (fail)
       rw[qC (x:=sh+tp+ch+kk+sw) o_ o_];have HT:Hid ((St.mk sa sb sc sd se sf sg sh).t kk sw=(sh+tp+ch+kk+sw)%4294967296):=by show(St.mk sa sb sc sd se sf sg sh).t kk sw=_;rw[←HTP.out,←HCH.out,←NX _ HW.out]
       have tt0:0<=(sh+tp+ch+kk+sw)%4294967296:=o_;have tt1:(sh+tp+ch+kk+sw)%4294967296<4294967296:=o_;generalize (sh+tp+ch+kk+sw)%4294967296=tt at HT tt0 tt1⊢;clear s1 s2 s3 s4 ya yk yw hh0 hh1 wk0 wk1 ww0 ww1 cw0 cw1 tw0 tw1
       go_wp2_with fail
       refine(pL sa 2 13 22 _ HW.out.a o_ o_ o_ o_ o_ o_).mono ?_;rintro e w1 ⟨rfl,n2,rfl⟩;have tw:=vp sa 2 13 22;generalize htp:dT sa ((2:Nat):Int) ((13:Nat):Int) ((22:Nat):Int)=tq;have htp2:dT sa 2 13 22=tq:=htp;rw[htp2]at tw;have HTQ:Hid (dT sa 2 13 22=tq):=htp2;clear htp htp2;obtain⟨tw0,tw1⟩:=tw;obtain⟨hd0,hd1⟩:0<=sd/\sd<4294967296:=HW.out.d;have HMO:Hid (bits .xor .i64 (bits .xor .i64 (bits .and .i64 sa sb) (bits .and .i64 sa sc)) (bits .and .i64 sb sc)=bits .xor .u32 (bits .xor .u32 (bits .and .u32 sa sb) (bits .and .u32 sa sc)) (bits .and .u32 sb sc)):=by show bits .xor .i64 _ _=_;rw[zY HW.out.a HW.out.b,zY HW.out.a HW.out.c,zY HW.out.b HW.out.c,sZ (ip _ _ _) (ip _ _ _),sZ (ip _ _ _) (ip _ _ _)]
       obtain⟨mo0,mo1⟩:Wd (bits .xor .i64 (bits .xor .i64 (bits .and .i64 sa sb) (bits .and .i64 sa sc)) (bits .and .i64 sb sc)):=by rw[HMO.out];exact ip _ _ _
       have s1:=ck (sd+tt) o_ o_
       have s2:=ck (tt+tq) o_ o_
       have s3:=ck (tt+tq+bits .xor .i64 (bits .xor .i64 (bits .and .i64 sa sb) (bits .and .i64 sa sc)) (bits .and .i64 sb sc)) o_ o_
       have HE:Hid (bits .and .i64 (sd+tt) 4294967295=((St.mk sa sb sc sd se sf sg sh).next kk sw).e):=by show bits .and .i64 (sd+tt) 4294967295=Qk.wrap (sd+(St.mk sa sb sc sd se sf sg sh).t kk sw);rw[HT.out,qC o_ o_,Qn]
       have HA:Hid (bits .and .i64 (tt+tq+bits .xor .i64 (bits .xor .i64 (bits .and .i64 sa sb) (bits .and .i64 sa sc)) (bits .and .i64 sb sc)) 4294967295=((St.mk sa sb sc sd se sf sg sh).next kk sw).a):=by show bits .and .i64 _ 4294967295=Qk.wrap ((St.mk sa sb sc sd se sf sg sh).t kk sw+(St.mk sa sb sc sd se sf sg sh).u);rw[qC o_ o_,HMO.out,HT.out,St.u,←HTQ.out,Qn,Qn];dsimp only;omega
       go_wp2_with fail
       go_roundw
       case rel=>exact⟨k+1,_,o_,by go_num,by rw[cG,HR.out,HKK.out,HWW.out];exact congrArg (Value.int .i64) HA.out,by rw[cG,HR.out,HKK.out,HWW.out];rfl,by rw[cG,HR.out,HKK.out,HWW.out];rfl,by rw[cG,HR.out,HKK.out,HWW.out];rfl,by rw[cG,HR.out,HKK.out,HWW.out];exact congrArg (Value.int .i64) HE.out,by rw[cG,HR.out,HKK.out,HWW.out];rfl,by rw[cG,HR.out,HKK.out,HWW.out];rfl,by rw[cG,HR.out,HKK.out,HWW.out];rfl,rfl⟩
       case measure=>simp[intOf];omega
      ·have hk64:k=64:=o_;subst hk64;clear hlt hk;simp only[show((64:Nat):Int)=64 from rfl];have hgw:=wR KS S hHw 64;generalize hG:cG KS S H 64=G at hgw⊢;have HG:Hid (cG KS S H 64=G):=hG;have HGw:Hid G.Wd:=hgw;clear hG hgw;have hNs:N.heap.size=w.heap.size+1+1+1+1:=HN.out.size;have HhH':Hid (iU H):=hHw;clear hHw hKw hSw hMs HM HK hat hsz
       go_wp2_with (first
        |refine wpList_store_mid rfl 81 (.tmp 29) (.tmp 179) rfl (w.heap.size+1+1+1+1) 0 (PN G.list).toArray rfl rfl ?th k_ (all_oneCell_toArray (pj _)) ?_)
       case th=>exact cX _ _ _ _ _ hNs.symm rfl
       have hml:∀k,(oZ H G.list k).length=8:=λk=>yZ _ _ _
       go_loopw [30] (λi wr=>∃(k:Nat),k<=8/\i= .i k/\Bw w wr/\wr.rangeAt (w.heap.size+1) 0 (PN H)/\wr.rangeAt (w.heap.size+1+1+1+1) 0 (PN (oZ H G.list k))/\wr.there (w.heap.size+1+1+1+1) 0 8/\wr.there (w.heap.size+1+1) 0 8) (λi _=>8-(intOf i).toNat)
       case atStart=>
        have hth:((N.drewN n).alloc (.cells (OF 8 (Value.i 0)).toArray 81)).there (w.heap.size+1+1+1+1) 0 8:=cX _ _ _ _ _ hNs.symm rfl;exact⟨0,o_,rfl,bN o_ _ _ _ _ ((below_drewN HN.out.below n).alloc (by show w.heap.size<=N.heap.size;omega) _),
               Qi (Qr (kw HN.out.hrow) _) _ _ _ (S8 o_),
               by rw[Bh];exact AI _ _ _ _ hth,QD hth _ _ _,QD (Ro (rr HN.out.res) _) _ _ _⟩
       case round=>
        obtain⟨k,hk,rfl,hb,hr,hx,ht,hres⟩:=hrel;by_cases hlt:k<8
        ·have hlt':(k:Int)<8:=o_;have hk0:(0:Int)<=(k:Int):=o_;have y0:wr.cell? ⟨w.heap.size+1,k,none⟩=some (.i (H.getD k 0)):=eW hr k (by rw[HhH.out];exact hlt);have y1:wr.cell? ⟨w.heap.size+1+1+1+1,k,none⟩=some (.i (G.list.getD k 0)):=by
          have:=eW hx k (by rw[hml];exact hlt)
          rwa [GN _ _ _ hlt]at this
         have yf:wr.frozen? ⟨w.heap.size+1+1+1+1,k,none⟩=false:=(by have:=(ht k hlt).2;rwa [IS]at this);obtain⟨a0,a1⟩:=HhH'.out k;obtain⟨b0,b1⟩:=IW HGw.out k;have hset:=GM H G.list k;generalize hxa:H.getD k 0=xa at y0 a0 a1 hset;generalize hxb:G.list.getD k 0=xb at y1 b0 b1 hset;have Hset:Hid _:=hset;have s1:=ck (xa+xb) o_ o_;have HV:Hid (bits .and .i64 (xa+xb) 4294967295=Qk.wrap (xa+xb)):=by show bits .and .i64 _ _=_;rw[qC o_ o_,Qn]
         have Hr:Hid _:=hr;have Hx:Hid _:=hx;have Ht:Hid _:=ht;have Hres:Hid _:=hres;have Hb:Hid _:=hb;clear hr hx ht hres hb hxa hxb hset hml
         go_wp2_with fail
         refine wp_region_any k_ ?_
         change wpAny _ _ _ _ _ _ _ (No wr)
         refine wT 0 (.i k) ?_;refine wT 1 (.i k) ?_;refine wT 2 (.pk (w.heap.size+1) k) ?_;refine wT 4 (.i k) ?_;refine wT 5 (.pk (w.heap.size+1+1+1+1) k) ?_;refine wpAny_all (rs:=[3,6]) k_ (Ti _ _) (kE (RI (S:=λw'=>w'=No wr) (v:= .i xa) rfl (.inl ⟨by rfl,λw' hw'=>by subst hw';go_simp⟩) rfl ?A) (RI (S:=λw'=>w'=No wr) (v:= .i xb) rfl (.inl ⟨by rfl,λw' hw'=>by subst hw';go_simp⟩) rfl ?B))
         case A=>refine wpAny_all (rs:=[6]) k_ (Ti _ _) (cH (RI (S:=λw'=>w'=No wr) (v:= .i xb) rfl (.inl ⟨by rfl,λw' hw'=>by subst hw';go_simp⟩) rfl ?_))
                 refine wT 7 (.i (xa+xb)) ?_;refine wT 8 (.i (bits .and .i64 (xa+xb) 4294967295)) ?_;refine wT 9 (.pk (w.heap.size+1+1+1+1) k) ?_;refine wpAny_all (rs:=[10]) k_ (Ti _ _) (cH (j9 (by rfl) (by rfl) 3 (.tmp 193) (.tmp 192) (by rfl) (w.heap.size+1+1+1+1) k (.i (bits .and .i64 (xa+xb) 4294967295)) ?e4 ?e5 rfl rfl ?e6 ?e7 k_ (by rfl) ?e8))
                 case e4=>go_simp
                 case e5=>go_simp
                 case e6=>rw[World.cell?_drew,y1];rfl
                 case e7=>rw[World.frozen?_drew];exact yf
                 case e8=>
                   refine wpAny_done k_ ?_ _;clear y0 y1 yf s1
                   go_wp2_with fail
                   go_roundw
                   case rel=>exact⟨k+1,o_,by go_num,(Below.drew Hb.out).setCell (p:=⟨w.heap.size+1+1+1+1,k,none⟩) (by show w.heap.size<=w.heap.size+1+1+1+1;omega) _,Qi (eU Hr.out) _ k [_] (S8 o_),by rw[←Hset.out,HV.out];exact jv (eU Hx.out) _,fR ((RN _ _ _ _).2 Ht.out) _ _ _,fR ((RN _ _ _ _).2 Hres.out) _ _ _⟩
                   case measure=>simp[intOf];omega
         case B=>refine wpAny_all (rs:=[3]) k_ (Ti _ _) (cH (RI (S:=λw'=>w'=No wr) (v:= .i xa) rfl (.inl ⟨by rfl,λw' hw'=>by subst hw';go_simp⟩) rfl ?_))
                 refine wT 7 (.i (xa+xb)) ?_;refine wT 8 (.i (bits .and .i64 (xa+xb) 4294967295)) ?_;refine wT 9 (.pk (w.heap.size+1+1+1+1) k) ?_;refine wpAny_all (rs:=[10]) k_ (Ti _ _) (cH (j9 (by rfl) (by rfl) 3 (.tmp 193) (.tmp 192) (by rfl) (w.heap.size+1+1+1+1) k (.i (bits .and .i64 (xa+xb) 4294967295)) ?e4 ?e5 rfl rfl ?e6 ?e7 k_ (by rfl) ?e8))
                 case e4=>go_simp
                 case e5=>go_simp
                 case e6=>rw[World.cell?_drew,y1];rfl
                 case e7=>rw[World.frozen?_drew];exact yf
                 case e8=>
                   refine wpAny_done k_ ?_ _;clear y0 y1 yf s1
                   go_wp2_with fail
                   go_roundw
                   case rel=>exact⟨k+1,o_,by go_num,(Below.drew Hb.out).setCell (p:=⟨w.heap.size+1+1+1+1,k,none⟩) (by show w.heap.size<=w.heap.size+1+1+1+1;omega) _,Qi (eU Hr.out) _ k [_] (S8 o_),by rw[←Hset.out,HV.out];exact jv (eU Hx.out) _,fR ((RN _ _ _ _).2 Ht.out) _ _ _,fR ((RN _ _ _ _).2 Hres.out) _ _ _⟩
                   case measure=>simp[intOf];omega
        ·have hk8:k=8:=o_;subst hk8;clear hlt hk;simp only[show((8:Nat):Int)=8 from rfl];rw[GO]at hx;have hml2:(eK H G.list 8).length=8:=mf _ _ _;have HL:Hid (mg KS H B=eK H G.list 8):=(by show mg KS H B=_;rw[mg,BH,HS.out,HG.out]);generalize eK H G.list 8=L at*;have hi49:(lT.info? 81).map (·.size)=some (PN L).length:=(by rw[fy,hml2];kernel_rfl);have Hi49:Hid ((lT.info? 81).map (·.size)=some (PN L).toArray.size):=(by show _=some (PN L).toArray.size;rw[Q5];exact hi49);have Hx:Hid (wr.rangeAt (w.heap.size+1+1+1+1) 0 (PN L)):=hx;have Hres':Hid (wr.there (w.heap.size+1+1) 0 (PN L).length):=(by show wr.there _ _ _;rw[fy,hml2];exact hres);have Hres:Hid (wr.there (w.heap.size+1+1) 0 (PN L).toArray.size):=(by show wr.there _ _ (PN L).toArray.size;rw[Q5];exact Hres'.out);clear hr hx ht hres hml
         go_wp2_with (first
          |refine wpList_load_mid rfl 81 (.tmp 29) rfl (w.heap.size+1+1+1+1) 0 rfl (PN L) _ Hx.out Lf.underlying81 rfl hi49 ?_
          |refine wpList_store_mid rfl 81 (.tmp 8) (.tmp 194) rfl (w.heap.size+1+1) 0 (PN L).toArray rfl rfl Hres.out Hi49.out (all_oneCell_toArray (pj L)) ?_)
         exact bodyPost_ret (v:= .agg (PN L).toArray) (fS (p:=8) (ty:=81) k_ _ _ (w.heap.size+1+1) 0 (PN L) _ rfl (AI _ _ _ _ Hres'.out) Lf.underlying81 rfl hi49) rfl ⟨by rw[HB.out,HL.out],bN o_ _ _ _ _ hb⟩
theorem AR(s:ByteArray)(w:World)(hs:s.size<=281474976710400):
 Calls lT 34 #[.s s] w λe w'=>e= .returned (.string ⟨(s.data.toList++ii s.data.toList).toArray⟩)/\Bw w w':=by
 obtain⟨m,hm⟩:∃m,m=PP s.size:=⟨_,rfl⟩;have hm2:(s.size:Int)+8<=m:=by subst hm;unfold PP;omega
 have hm3:m<=281474976710656:=by subst hm;unfold PP;omega
 have hmk:=λw=>run_make_row' (P:=lT) 83 5 (.int .u8 0) 1 Lf.underlying83 Lf.info5 rfl .i64 .i64 m o_ o_ w;have hme:((s.size:Int)+8)/64*64+64=(m:Int):=by subst hm;unfold PP;omega
 have hsl:s.data.toList.length=s.size:=by rw[QB];rfl
 obtain⟨M,hM,hcp⟩:∃M,MU w M m (s.data.toList++OF (m- s.data.toList.length) 0)/\(Builtin.copy_ #[83,9] 3 #[.sk w.heap.size m m, .s s]).run lT (w.alloc (.cells (madeCells #[.int .u8 0] m) 5))= .ok (goInt s.size) M:=by refine⟨_,Ep w s.data.toList m 5 o_, ?_⟩;have:=pH (P:=lT) (w.alloc (.cells (madeCells #[.int .u8 0] m) 5)) 83 3 5 Lf.underlying83 k_ 9 w.heap.size 0 m m s.size s (Nat.min_eq_left o_) (iu (n:=m) (cX _ _ _ _ _ rfl (by rw[dt,Q5,List.length_replicate])) (T6 _) o_);rw[QQ o_]at this;exact this
 have HM:Hid (MU w M m (s.data.toList++OF (m- s.data.toList.length) 0)):=hM;have hMs:=hM.size;have hXl:(s.data.toList++OF (m- s.data.toList.length) (0:UInt8)).length=m:=by simp;omega
 have hc0:M.cell? ⟨w.heap.size,s.size,none⟩=some (.int .u8 _):=CJ hM.row s.size (by rw[hXl];omega);have hf0:M.frozen? ⟨w.heap.size,s.size,none⟩=false:=by have:=(hM.there s.size o_).2;rwa [IS]at this
 have hlt:(s.size:Int)<(m:Int):=o_
 have HSL:Hid (s.data.toList.length=s.size):=hsl;have Hm:Hid (m=PP s.size):=hm;clear hm hM hXl hsl
 go_enter Lf.func34,Tryz.ntmps34
 go_wp2_with fail
 go_loopw [5] (λx wr=>∃(i:Nat),i<=8/\x= .i i/\Bw w wr/\wr.rangeAt w.heap.size 0 (aV (tN s.data.toList i))/\wr.there w.heap.size 0 m) (λx _=>8-(intOf x).toNat)
 case atStart=>
  refine⟨0,o_,rfl,HM.out.below.setCell (p:=⟨w.heap.size,s.size,none⟩) (T6 _) _, ?_,fR HM.out.there _ _ _⟩;have:=jv (k:=s.size) HM.out.row (.int .u8 128);rw[show(Value.int .u8 128)=Value.int .u8 ((128:UInt8).toNat:Int)from rfl,NL]at this;have e:=AV s.data.toList;rw[HSL.out]at e this;rw[←e,←Hm.out];exact this
 case round=>
  obtain⟨i,hi,rfl,hb,hr,ht⟩:=hrel;have hpl:=mZ s.data.toList i hi;rw[HSL.out,←Hm.out]at hpl;clear hc0 hf0 hcp hmk hme;by_cases h8:i<8
  ·have h8':(i:Int)<8:=o_;obtain⟨j,hj⟩:∃j,j=m- 8+i:=⟨_,rfl⟩;have hji:(m:Int)- 8+(i:Int)=(j:Int):=o_;have hjm:(j:Int)<(m:Int):=o_;have hc:wr.cell? ⟨w.heap.size,j,none⟩=some (.int .u8 _):=CJ hr j (by rw[hpl];omega);have hf:wr.frozen? ⟨w.heap.size,j,none⟩=false:=(by have:=(ht j o_).2;rwa [IS]at this);have b3:(0:Int)<=56- 8*(i:Int):=o_;have b4:8*(s.size:Int)<=9223372036854775807:=o_;have Hr:Hid _:=hr;have Ht:Hid _:=ht;have Hj:Hid (j=m- 8+i):=hj;clear hr ht hj hpl;have Hv:Hid _:=JA s.size i h8
   go_wp2_with fail
   rw[Hv.out];refine⟨⟨i+1,o_,by go_num,hb.setCell (p:=⟨w.heap.size,j,none⟩) (T6 _) _, ?_,fR Ht.out _ _ _⟩,by simp[intOf];omega⟩;have:=jv (k:=j) Hr.out (.int .u8 ((RR (8*s.size/256^(7- i))).toNat:Int));rw[NL]at this;have e:=Gy s.data.toList i h8 (RR (8*s.size/256^(7- i))) (by rw[HSL.out]);rw[HSL.out,←Hm.out,←Hj.out]at e;rw[←e];exact this
  ·have hi8:i=8:=o_;subst hi8;clear h8 hi;rw[tM]at hr hpl;have hcv:=run_convert_bytes_back (P:=lT) wr 83 9 5 ⟨w.heap.size,0,none⟩ m (s.data.toList++ii s.data.toList) Lf.underlying83 Lf.underlying5 Lf.underlying9
    (λj hj=>by rw[QV];have:=hr j _ (Ob _ j hj);rw[this,Cd,Q0 hj];rfl)
   rw[hpl]at hcv;generalize hZ:s.data.toList++ii s.data.toList=Z at*;have HZ:Hid (s.data.toList++ii s.data.toList=Z):=hZ;clear hZ hr ht hpl
   go_wp2_with fail
   go_ret
   exact⟨pK HZ.out.symm,hb⟩
end L1
section
open Go
@[simp] theorem Lf.func17:(aJ q tP).funcs[17]?=some Tryz.f17:=aO Tryz.func17 d_ rfl rfl k_
end
namespace L1
open Go.RowKit
theorem AL(KS:List Int)(s:ByteArray)(hb capH kb cap:Nat)(w:World)(hKl:KS.length=64)(hKw:iU KS)(hH:w.rangeAt hb 0 (PN H0))(hhb:hb<w.heap.size)(hK:w.rangeAt kb 0 (PN KS))(hkb:kb<w.heap.size)
 (hs:s.size<=281474976710400):
 Calls lT 12 #[.agg #[.sk hb 8 capH, .sk kb 64 cap], .s s] w
  λe w'=>e= .returned (.string ⟨(dU KS s.data.toList).toArray⟩)/\Bw w w':=by
 have HK:Hid (w.rangeAt kb 0 (PN KS)):=hK;have HH:Hid (w.rangeAt hb 0 (PN H0)):=hH;have HKw:Hid (iU KS):=hKw;clear hK hH hKw
 go_enter Lf.func12,Tryz.ntmps12
 go_wp2
 go_loopw [6] (λx wr=>∃(k:Nat),k<=8/\x= .i k/\oi w wr hb capH kb cap (kN k)) (λx _=>8-(intOf x).toNat)
 case atStart=>exact⟨0,o_,rfl,E9 w hb capH kb cap _ _⟩
 case round=>
  obtain⟨k,hk,rfl,hW⟩:=hrel;have HW:Hid (oi w wr hb capH kb cap (kN k)):=hW;clear hW;by_cases hlt:k<8
  ·have hlt':(k:Int)<8:=o_;have c0:wr.cell? ⟨w.heap.size,0,none⟩=some (.sk hb 8 capH):=HW.out.crow 0 _ rfl;have c1:wr.cell? ⟨hb,k,none⟩=some (.i (H0.getD k 0)):=eW (bC HW.out.below hhb HH.out) k hlt;have c2:wr.cell? ⟨w.heap.size+1,k,none⟩=some (.i _):=eW HW.out.hrow k (by rw[uS k hk];exact hlt);have c3:wr.frozen? ⟨w.heap.size+1,k,none⟩=false:=(by have:=(HW.out.there k hlt).2;rwa [IS]at this);have Hset:Hid _:=BE k hlt;generalize (kN k).getD k 0=y2 at c2;generalize H0.getD k 0=y1 at c1 Hset
   go_wp2_with fail
   go_roundw
   case rel=>exact⟨k+1,o_,by go_num,by rw[←Hset.out];exact HW.out.set k y1⟩
   case measure=>simp[intOf];omega
  ·have hk8:k=8:=o_;subst hk8;clear hlt hk;simp only[show((8:Nat):Int)=8 from rfl];rw[show kN 8=H0 from rfl]at HW
   go_wp2_with fail
   refine(AR s _ hs).mono ?_;rintro e w1 ⟨rfl,hb1⟩;have HW1:Hid (oi w w1 hb capH kb cap H0):=HW.out.below' hb1;clear HW hb1;have hPl:(ByteArray.mk (s.data.toList++ii s.data.toList).toArray).size=(s.data.toList++ii s.data.toList).length:=(by show(s.data.toList++ii s.data.toList).toArray.size=_;simp);have hP64:=AU s.data.toList;have hPb:(s.data.toList++ii s.data.toList).length<=281474976710656:=by rw[←tM,mZ _ _ (T6 _)];have:s.data.toList.length=s.size:=(by rw[QB];rfl);rw[this];unfold PP;omega
   have HP:Hid (dU KS s.data.toList=(Q8 32).map (oW (cx KS (s.data.toList++ii s.data.toList) ((s.data.toList++ii s.data.toList).length/64)))):=rfl;generalize s.data.toList++ii s.data.toList=P at*;obtain⟨q,hq⟩:∃q,q=P.length/64:=⟨_,rfl⟩;have hqP:P.length=64*q:=(by rw[hq];exact hP64);rw[←hq]at HP;have HqP:Hid (P.length=64*q):=hqP;have hq2:q<=4398046511104:=o_;have hPs:(ByteArray.mk P.toArray).size=64*q:=(by rw[hPl];exact hqP);clear hP64 hPl hPb hq hqP;obtain⟨PB,hPB⟩:∃PB:ByteArray,PB=⟨P.toArray⟩:=⟨_,rfl⟩;rw[←hPB]at hPs⊢;have HPB:Hid (PB.data.toList=P):=(by show PB.data.toList=P;rw[hPB]);clear hPB
   go_wp2_with fail
   go_loopw [8] (λx wr=>∃(k:Nat),k<=q/\x= .i ((64*k:Nat):Int)/\oi w wr hb capH kb cap (cx KS P k)) (λx _=>64*q-(intOf x).toNat)
   case atStart=>exact⟨0,o_,rfl,HW1.out⟩
   case round=>
    obtain⟨k,hk,rfl,hW⟩:=hrel;have HW:Hid (oi w wr hb capH kb cap (cx KS P k)):=hW;clear hW HW1;rw[show((64*k:Nat):Int)=64*(k:Int)from o_];by_cases hlt:k<q
    ·have hlt':64*(k:Int)<64*(q:Int):=o_;have hF8:(cx KS P k).length=8:=cW _ _ _;have hFw:=t7 KS P k;have hn:cx KS P (k+1)=mg KS (cx KS P k) ((PB.data.toList.drop (64*k)).take 64):=(by rw[HPB.out];rfl);have hn8:(cx KS P (k+1)).length=8:=cW _ _ _;generalize cx KS P k=F at*;generalize hF':cx KS P (k+1)=F' at*;have HF':Hid (cx KS P (k+1)=F'):=hF';clear hF';have hi49:(lT.info? 81).map (·.size)=some (PN F).length:=(by rw[fy,hF8];kernel_rfl);have hi24:(lT.info? 26).map (·.size)=some [Value.sk hb 8 capH,Value.sk kb 64 cap].length:=k_;have hbl:=Fs F KS PB (64*k) kb cap (.sk hb 8 capH) wr hF8 hFw hKl HKw.out (bC HW.out.below hkb HK.out) o_ o_;rw[←hn,show((64*k:Nat):Int)=64*(k:Int)from o_]at hbl;have Hbl:Hid (Calls _ _ _ _ _):=hbl;have Hi49:Hid ((lT.info? 81).map (·.size)=some (PN F').toArray.size):=(by show _=some (PN F').toArray.size;rw[Q5,fy,hn8];kernel_rfl);have Hn8:Hid (F'.length=8):=hn8;clear hbl hn hF8 hFw hn8
     go_wp2_with (first
      |refine wpList_load_mid rfl 26 (.tmp 2) rfl w.heap.size 0 rfl [Value.sk hb 8 capH,Value.sk kb 64 cap] _ HW.out.crow Lf.underlying26 rfl hi24 ?_
      |refine wpList_load_mid rfl 81 (.tmp 5) rfl (w.heap.size+1) 0 rfl (PN F) _ HW.out.hrow Lf.underlying81 rfl hi49 ?_)
     refine Hbl.out.mono ?_;rintro e w2 ⟨rfl,hb2⟩;have HW2:Hid (oi w w2 hb capH kb cap F):=HW.out.below' hb2;have Hth:Hid (w2.there (w.heap.size+1) 0 (PN F').toArray.size):=by show w2.there _ _ (PN F').toArray.size;rw[show(PN F').toArray.size=8 from by simp[fy,Hn8.out]];exact HW2.out.there
     clear hb2 HW Hbl hi49
     go_wp2_with (first
      |refine wpList_store_mid rfl 81 (.tmp 5) (.tmp 34) rfl (w.heap.size+1) 0 (PN F').toArray rfl rfl Hth.out Hi49.out (all_oneCell_toArray (pj F')) ?_)
     go_roundw
     case rel=>exact⟨k+1,o_,by go_num,by rw[HF'.out];exact HW2.out.put _ Hn8.out⟩
     case measure=>simp[intOf];omega
    ·have hkq:k=q:=o_;subst hkq;clear hlt hk;have hmk:∀W,(Instr.makeSlice 83 (.i 32) (.i 32)).run lT W= .ok (.sk W.heap.size 32 32) (W.alloc (.cells (madeCells #[.int .u8 0] 32) 5)):=
      λW=>run_make_row' (P:=lT) 83 5 (.int .u8 0) 1 Lf.underlying83 Lf.info5 rfl .i64 .i64 32 o_ o_ W
     have hlt':¬64*(k:Int)<64*(k:Int):=o_;have hF8:(cx KS P k).length=8:=cW _ _ _;have hF0:=oy KS P k;have hFw:=t7 KS P k;generalize cx KS P k=F at*;have HF8:Hid (F.length=8):=hF8;have HF0:Hid (∀i,0<=F.getD i 0):=hF0;have HFw:Hid (iU F):=hFw;clear hF8 hF0 hFw
     go_wp2_with fail
     go_loopw [10] (λx W=>∃j:Nat,j<=32/\x= .i j/\W=wr.alloc (.cells (sD F j).toArray 5)) (λx _=>32-(intOf x).toNat)
     case atStart=>exact⟨0,o_,rfl,by rw[dt];rfl⟩
     case round=>
      clear hmk;obtain⟨j,hj,rfl,rfl⟩:=hrel;by_cases hl:j<32
      ·have hg:=yO F j hl;have hln:=rL F j hj;have hz3:w.heap.size+1<wr.heap.size:=(by have:=HW.out.size;omega);have hcw:=λo:Obj=>RB (w:=wr) o (w.heap.size+1) (j/4) hz3;have hcv:wr.cell? ⟨w.heap.size+1,j/4,none⟩=some (.i (F.getD (j/4) 0)):=eW HW.out.hrow (j/4) (by rw[HF8.out];omega);have hx0:=HF0.out (j/4);have hx1:=(HFw.out (j/4)).2;generalize hx:F.getD (j/4) 0=x at hcv hx0 hx1;have HX:Hid (F.getD (j/4) 0=x):=hx;clear hx;have l1:(j:Int)<32:=o_;have b1:(j:Int)/4<8:=o_;have b2:(0:Int)<=(j:Int)/4:=o_;have b3:(0:Int)<=24-(j:Int)%4*8:=o_;have Hv:Hid _:=yM F j x HX.out hx0
       go_wp2_with fail
       rw[Nat.mul_comm (j%4) 8];exact⟨⟨j+1,o_,by go_num,by rw[yN F j hl _ Hv.out]⟩,by simp[intOf];omega⟩
      ·have hj32:j=32:=o_;subst hj32;clear hl hj;rw[yP];have hcv:=run_convert_bytes_back (P:=lT) (wr.alloc (.cells (aV ((Q8 32).map (oW F))).toArray 5)) 83 9 5 ⟨wr.heap.size,0,none⟩ 32 ((Q8 32).map (oW F)) Lf.underlying83 Lf.underlying5 Lf.underlying9
               (λj hj=>by rw[QV,QE _ _ _ _ rfl];simp[aV]at hj⊢;simp[hj])
       rw[show((Q8 32).map (oW F)).length=32 from s_]at hcv;generalize hZ:(Q8 32).map (oW F)=Z at*;clear hZ
       go_wp2_with fail
       go_ret
       exact⟨pK HP.out.symm,HW.out.below.alloc (by have:=HW.out.size;omega) _⟩
theorem gh(s:ByteArray)(a n:Nat)(w:World)(t:n<=4)(z:a+n<=s.size)(r:s.size<=1125899906842624):
 Calls lT 37 #[.s s, .i (a:Int), .i (n:Int)] w λe w'=>e= .returned (.i (cZ (cz s.data.toList a (a+n))))/\w'=w:=by
 have b:s.data.toList.length=s.size:=by rw[QB];rfl
 have g:Hid (s.data.toList.length=s.size):=b;clear b
 go_enter Lf.func37,Tryz.ntmps37
 go_wp2
 go_loop [7,8] (λv i=>∃k:Nat,k<=n/\i= .i k/\v= .i (cZ (cz s.data.toList a (a+k)))) (λ_ i=>n-(intOf i).toNat)
 case atStart=>exact⟨0,QH _,rfl,by rw[Nat.add_zero,cz,List.drop_eq_nil_of_le (by simp;omega)];rfl⟩
 case round=>
  obtain⟨k,u,rfl,rfl⟩:=hrel;by_cases m:k<n
  ·have c:(k:Int)<(n:Int):=o_;have q:=jj (cz s.data.toList a (a+k)) 3 (by rw[cz];simp;omega);have o:=ly s (a+k) ((a:Int)+(k:Int)) o_ o_;have h:Hid (cZ (cz s.data.toList a (a+(k+1)))=256*cZ (cz s.data.toList a (a+k))+((s.data.toList.getD (a+k) 0).toNat:Int)):=by show cZ _=_;rw[Fb _ _ _ (by rw[g.out];omega),o6]
   have l:=(s.data.toList.getD (a+k) 0).toNat_lt;generalize s.data.toList.getD (a+k) 0=x at o h l;have A:Hid _:=h;generalize cZ (cz s.data.toList a (a+k))=y at*;obtain⟨p,d⟩:=q;have j:y<16777216:=(by simpa using d);clear d
   go_wp2
   go_round
   case rel=>exact⟨k+1,o_,by go_num,by rw[h.out]⟩
   case measure=>simp[intOf];omega
  ·have f:k=n:=o_;subst f;have c:¬(k:Int)<(k:Int):=o_
   go_wp2
   go_ret
   exact⟨rfl,rfl⟩
theorem ju(v:Int)(V n:Nat)(w:World)(l:n<=8)(q:(V:Int)=v%18446744073709551616):
 Calls lT 29 #[.i v, .i (n:Int)] w λe w'=>e= .returned (.string ⟨(da V n).toArray⟩)/\Bw w w':=by
 have m:=λw=>run_make_row' (P:=lT) 83 5 (.int .u8 0) 1 Lf.underlying83 Lf.info5 rfl .i64 .i64 n o_ o_ w
 go_enter Lf.func29,Tryz.ntmps29
 go_wp2_with fail
 go_loopw [6] (λx h=>∃i:Nat,i<=n/\x= .i i/\h=w.alloc (.cells (uC V n i).toArray 5)) (λx _=>n-(intOf x).toNat)
 case atStart=>exact⟨0,QH _,rfl,by rw[FQ,dt]⟩
 case round=>
  obtain⟨i,p,rfl,rfl⟩:=hrel;by_cases b:i<n
  ·have a:(i:Int)<(n:Int):=o_
   have s:=Li V n i b
   have k:=DW V n i p
   have t:(0:Int)<=8*((n:Int)- 1-(i:Int)):=o_
   go_wp2_with fail
   go_roundw
   case rel=>exact⟨i+1,o_,by go_num,by rw[Lh V n i b _ (Lg v V n i q l)]⟩
   case measure=>simp[intOf];omega
  ·have c:i=n:=o_;subst c;have a:¬(i:Int)<(i:Int):=o_;have f:=cR i V;have d:=run_convert_bytes_back (P:=lT) (w.alloc (.cells (aV (da V i)).toArray 5)) 83 9 5 ⟨w.heap.size,0,none⟩ i (da V i) Lf.underlying83 Lf.underlying5 Lf.underlying9
    (λj o=>by rw[QV,QE _ _ _ _ rfl];simp[aV,o])
   rw[f]at d;rw[Lj];generalize g:da V i=L at*;have r:Hid (da V i=L):=g;clear g f
   go_wp2_with fail
   go_ret
   exact⟨pK r.out.symm,(bR).alloc (T6 _) _⟩
theorem dA(v n:Nat)(w:World)(a:n<=8)(h:v<9223372036854775808):
 Calls lT 29 #[.i (v:Int), .i (n:Int)] w λe w'=>e= .returned (.string ⟨(da v n).toArray⟩)/\Bw w w':=ju v v n w a o_
end L1
section
open Go
theorem Px(a:Nat)(b:a<9223372036854775808):(RA 64 (a:Int)).toNat=a:=by rw[BitVec.ofInt_natCast,BitVec.toNat_ofNat];exact Nat.mod_eq_of_lt o_
theorem Py(a b:Nat)(d:a<9223372036854775808)(c:b<9223372036854775808):bits .and .i64 (a:Int) (b:Int)=((a&&&b:Nat):Int):=by have e:a&&&b<2^63:=Nat.and_lt_two_pow _ o_;show Q4.wrap ((RA 64 (a:Int)&&&RA 64 (b:Int)).toNat:Int)=_;rw[BitVec.toNat_and,Px a d,Px b c,Q3];omega
def qn(w:Nat):Prop:=w=2\/w=4\/w=8
theorem Dx(a w:Nat)(d:a<9223372036854775808)(b:qn w):bits .and .i64 (a:Int) (cU w:Int)=((a%2^w:Nat):Int):=by
 have c:cU w<9223372036854775808:=by rcases b with rfl|rfl|rfl<;>decide
 rw[Py a (cU w) d c];unfold cU;rw[Nat.and_two_pow_sub_one_eq_mod]
def dl(L:List UInt8)(w c:Nat):Nat:=(L.getD (c/(8/w)) 0).toNat/2^(8- w- c%(8/w)*w)%2^w
def eM(L:List UInt8)(w:Nat):Nat->Nat
 |0=>0
 |c+1=>eM L w c+(cU w- dl L w c)
def ib(Q:List UInt8)(w sh:Nat):List UInt8:=Q++da (eM Q w (256/w)*2^sh) 2
def lB(KS:List Int)(s:dw)(dig:Nat->Int)(n:Nat):List UInt8:=(Q8 n).flatMap λc=>(ki KS s c (dig c) (s.links.extract (c*32) ((c+1)*32))).data.toList
theorem Kk(L:List UInt8)(w c:Nat):dl L w c<2^w:=Nat.mod_lt _ (Nat.two_pow_pos w)
theorem nA(L:List UInt8)(w c:Nat):dl L w c<=cU w:=by have:=Kk L w c;unfold cU;omega
theorem oI{w:Nat}(a:qn w):cU w<=255:=by rcases a with rfl|rfl|rfl<;>decide
theorem pA(L:List UInt8){w:Nat}(a:qn w):∀c,eM L w c<=255*c
 |0=>by simp[eM]
 |c+1=>by have:=pA L a c;have:=oI a;simp only[eM];omega
theorem Kl(L:List UInt8){w:Nat}(a:qn w)(i k:Nat)(b:k<8/w)(c:i<L.length):dl L w (i*(8/w)+k)=L[i].toNat/2^(8- w- k*w)%2^w:=by
 have e:(i*(8/w)+k)/(8/w)=i:=by rcases a with rfl|rfl|rfl<;>simp at b⊢<;>omega
 have d:(i*(8/w)+k)%(8/w)=k:=by rcases a with rfl|rfl|rfl<;>simp at b⊢<;>omega
 unfold dl;rw[e,d,Cd,Q0 c];rfl
end
namespace L1
open Go.Conc Go.RowKit
section
variable{y:Operand}{m n:Int}
theorem lZ(a:o.op= .binOp .sub 3 x y u)(c:ev x= .i m)(b:ev y= .i n)(h: -9223372036854775808<=m- n/\m- n<9223372036854775808):(execOp ev o).run lT w= .ok (.value (.i (m- n))) w:=by
 have e:Q4.wrap (m- n)=m- n:=by rw[Q3];omega
 simp[execOp,a,c,b,go_sem,e]
theorem Lu(a:o.op= .binOp .geq 3 x y u)(c:ev x= .i m)(b:ev y= .i n):(execOp ev o).run lT w= .ok (.value (.bool (decide (m≥n)))) w:=by simp[execOp,a,c,b,go_sem]
theorem AJ(a:o.op= .binOp .gtr 3 x y u)(c:ev x= .i m)(b:ev y= .i n):(execOp ev o).run lT w= .ok (.value (.bool (decide (m>n)))) w:=by simp[execOp,a,c,b,go_sem]
theorem Gd(a:o.op= .binOp .shr 3 x y u)(c:ev x= .i m)(b:ev y= .i k)(h:k<=64):(execOp ev o).run lT w= .ok (.value (.i (m/2^k))) w:=by
 have e:(0:Int)<=(k:Int):=o_
 have d:(k:Int)<=64:=o_
 simp[execOp,a,c,b,go_sem]
theorem iz(a:o.op= .binOp .shl 3 x y u)(c:ev x= .i m)(b:ev y= .i k)(h:k<=64)(d: -9223372036854775808<=m*2^k/\m*2^k<9223372036854775808):(execOp ev o).run lT w= .ok (.value (.i (m*2^k))) w:=by
 have g:(0:Int)<=(k:Int):=o_
 have f:(k:Int)<=64:=o_
 have e:Q4.wrap (m*2^k)=m*2^k:=by rw[Q3];omega
 simp[execOp,a,c,b,go_sem,e]
theorem Gm(a:o.op= .binOp .and 3 x y u)(c:ev x= .i m)(b:ev y= .i n):(execOp ev o).run lT w= .ok (.value (.i (bits .and .i64 m n))) w:=by simp[execOp,a,c,b,go_sem]
theorem yz{p:Nat}(a:o.op= .index 9 x y)(c:ev x= .s s)(b:ev y= .i p)(h:p<s.size):(execOp ev o).run lT w= .ok (.value (.int .u8 (s[p].toNat:Int))) w:=by
 have d:lT.underlying 9=some .string:=k_
 simp[execOp,a,c,b,S6,asIntOf,run_underlying d,h]
theorem CH{b:UInt8}(a:o.op= .convert 5 3 x)(c:ev x= .int .u8 (b.toNat:Int)):(execOp ev o).run lT w= .ok (.value (.i (b.toNat:Int))) w:=by
 have f:lT.underlying 5=some (.int .u8):=k_
 have d:lT.underlying 3=some (.int .i64):=k_
 have g:=b.toNat_lt;have e:Q4.wrap (b.toNat:Int)=b.toNat:=by rw[Q3];omega
 simp[execOp,a,c,go_sem,f,d,e]
theorem xg(a:o.op= .binOp .quo 3 x y u)(c:ev x= .i m)(b:ev y= .i 2)(d:0<=m)(g:m<9223372036854775808):(execOp ev o).run lT w= .ok (.value (.i (m/2))) w:=by
 have e:Q4.wrap (m/2)=m/2:=by rw[Q3];omega
 have f:m.tdiv 2=m/2:=Int.tdiv_eq_ediv_of_nonneg d;simp[execOp,a,c,b,go_sem,f,e]
theorem OY{t:Nat}(a:o.op= .call {callee:= .builtin .len,args:=#[.tmp t],argTypes:=#[9]})(b:ev (.tmp t)= .s s):(execOp ev o).run lT w= .ok (.value (.i s.size)) w:=by
 have c:lT.underlying 9=some .string:=k_
 simp[execOp,a,resolve,b,invoke,builtin,Builtin.len_,run_underlying c,goInt]
theorem iA(a:o.op= .binOp .add 3 x y u)(c:ev x= .i m)(b:ev y= .i n)(h: -9223372036854775808<=m+n/\m+n<9223372036854775808):eX ev o w (.i (m+n)):=(oH a c b h).1
end
def i4(f:Func):Code:= .seq (.seq (rG f 4) (.cond (.tmp 14) .skip (.exit 2))) (.seq (.block 3 (.seq (rD f 6) (.cond (.tmp 30) .ret .skip))) (rG f 5))
def xm(f:Func):Code:= .seq (rG f 1) (.seq (.cond (.tmp 9) .skip (.exit 0)) (.seq (.block 1 (.seq (rG f 2) (.seq (rG f 3) (.block 2 (.loop (i4 f)))))) (rG f 7)))
theorem Mc:Tryz.f129.body=some (.seq (rG Tryz.f129 0) (.block 0 (.loop (xm Tryz.f129)))):=k_
def wt(wd k:Nat):Int:=8- wd- k*wd
theorem Ds{wd:Nat}(a:qn wd)(b:k<8/wd):wt wd k=((8- wd- k*wd:Nat):Int):=by unfold wt;rcases a with rfl|rfl|rfl<;>simp at b<;>omega
theorem KF{wd:Nat}(a:qn wd):¬wt wd (8/wd)≥0:=by unfold wt;rcases a with rfl|rfl|rfl<;>decide
theorem I9(wd k:Nat):wt wd k- wd=wt wd (k+1):=by unfold wt;rw[Int.natCast_add,Int.add_mul];omega
theorem ws{wd:Nat}(a:qn wd)(b:k<=8/wd): -9<=wt wd k/\wt wd k<9:=by unfold wt;rcases a with rfl|rfl|rfl<;>simp at b<;>omega
def ND(l i:Nat)(b:ByteArray)(wd k:Nat):List Value:=
 [.func (.yield l) #[] #[], .string b, .int .i64 i, .int .u8 ((b.data.toList.getD i 0).toNat:Int), .int .i64 ((b.data.toList.getD i 0).toNat:Int), .int .i64 (wt wd k), .int .i64 (((b.data.toList.getD i 0).toNat/2^(8- wd- k*wd):Nat):Int), .int .i64 wd, .int .i64 ((2^wd:Nat):Int), .int .i64 (cU wd), .int .i64 (dl b.data.toList wd (i*(8/wd)+k))]
theorem Dn(b:ByteArray)(i:Nat)(h:i<b.size):b[i]=b.data.toList.getD i 0:=by rw[Cd,Q0 (by simpa using h)];rfl
section
variable{Inv:Nat->World->Prop}{r:Loop}{b:ByteArray}{bb bw:Nat}(hw:qn wd)
 (hstr:∀c w,Inv c w->w.heap[bb]?=some (.cells #[.string b] 9)) (hwid:∀c w,Inv c w->w.heap[bw]?=some (.cells #[.int .i64 wd] 3))
 (G:sC (aJ true Tryz.prog) Goal cs (λc=>#[.int .i64 (dl b.data.toList wd c)]) (b.size*(8/wd)) l r Inv)
include hw hstr hwid G
theorem LU(x:i<b.size)(I:k<8/wd)(r:Inv (i*(8/wd)+k) w)
 (g:Has [(0, .func (.yield l) #[] #[]),(1, .pt bb),(2, .pt bw),(4, .i i),(5, .i (wt wd k)),(7, .i b.size),(8, .i i)] 32 [] a)
 (next:∀a w,Inv (i*(8/wd)+k+1) w->Has [(30, .bool false),(0, .func (.yield l) #[] #[]),(1, .pt bb),(2, .pt bw),(4, .i i),(5, .i (wt wd k)),(7, .i b.size),(8, .i i)] 32 [] a->Rn lT Goal ((base 129).atR a K) cs w):
 Rn lT Goal ((base 129).atR a (.code (rD Tryz.f129 6)::K)) cs w:=by
 have P:0<8/wd:=o_
 have W:i*(8/wd)+k<b.size*(8/wd):=by have:(i+1)*(8/wd)<=b.size*(8/wd):=Nat.mul_le_mul_right _ x;rw[Nat.add_mul]at this;omega
 have hx:(b.data.toList.getD i 0).toNat<256:=(b.data.toList.getD i 0).toNat_lt;have S:=ws hw (Nat.le_of_lt I);have t:=Ds hw I;have z:dl b.data.toList wd (i*(8/wd)+k)=(b.data.toList.getD i 0).toNat/2^(8- wd- k*wd)%2^wd:=by rw[Kl _ hw i k I (by simpa using x)];rw[Cd,Q0 (by simpa using x)];rfl
 have R:wd<=8:=by rcases hw with rfl|rfl|rfl<;>decide
 have O:=oI hw;have Y:2^wd<=256:=by rcases hw with rfl|rfl|rfl<;>decide
 have L:cU wd=2^wd- 1:=rfl;refine Rn.grows (fx:=[(0, .func (.yield l) #[] #[]),(1, .pt bb),(2, .pt bw),(4, .i i),(5, .i (wt wd k)),(7, .i b.size),(8, .i i)]) (ds:=[18,19,20,21,22,23,24,25,26,27,28]) (N:=32) (df:=[])
  (G:=λn v _=>(ND l i b wd k)[n]?=some v) k_ k_ (λn v w p h _=>h) (λn o a p Q j X q H=> ?_)
  (λn a p=>(n=11/\Has [(28, .i (dl b.data.toList wd (i*(8/wd)+k))),(18, .func (.yield l) #[] #[]),(0, .func (.yield l) #[] #[]),(1, .pt bb),(2, .pt bw),(4, .i i),(5, .i (wt wd k)),(7, .i b.size),(8, .i i)] 32 [] a/\Inv (i*(8/wd)+k) p)\/
    (n=12/\Has [(29, .bool true),(0, .func (.yield l) #[] #[]),(1, .pt bb),(2, .pt bw),(4, .i i),(5, .i (wt wd k)),(7, .i b.size),(8, .i i)] 32 [] a/\Inv (i*(8/wd)+k+1) p)\/
    (n=13/\Has [(30, .bool false),(0, .func (.yield l) #[] #[]),(1, .pt bb),(2, .pt bw),(4, .i i),(5, .i (wt wd k)),(7, .i b.size),(8, .i i)] 32 [] a/\Inv (i*(8/wd)+k+1) p))
  (λa p C=> ?_) (λn o a p M Q j J y=> ?_) (λa p J=> ?_) g.defers g.size (g.all s_)
 ·have A:=G.below _ _ _ r X;have f0:=q _ (mG (i:=0) rfl);have f1:=q _ (mG (i:=1) rfl);have f2:=q _ (mG (i:=2) rfl);have f4:=q _ (mG (i:=3) rfl);have Z:=q _ (mG (i:=4) rfl);have f:∀m d v,[18,19,20,21,22,23,24,25,26,27,28][m]?=some d->gW (bK Tryz.f129 6) n m=true->(ND l i b wd k)[m]?=some v->a.eval (.tmp d)=v:=λm d v V T E=>by obtain⟨u,F,s⟩:=H m d V T;rw[E]at s;cases s;exact aA F
  have U:n<11:=Q;rcases(o_:n=0\/n=1\/n=2\/n=3\/n=4\/n=5\/n=6\/n=7\/n=8\/n=9\/n=10)with rfl|rfl|rfl|rfl|rfl|rfl|rfl|rfl|rfl|rfl|rfl
  ·have e:=oS j;exact mp (.inl e) f0 ⟨rfl,bR⟩
  ·have e:=oS j;exact aF (aN bA e (aA f1) ((aH (hstr _ _ A) 0).trans rfl)).1 ⟨rfl,bR⟩
  ·have e:=oS j;exact mp (.inl e) f4 ⟨rfl,bR⟩
  ·have e:=oS j;exact aF (yz e (f 1 19 _ rfl k_ rfl) (f 2 20 _ rfl k_ rfl) x) ⟨by rw[Dn b i x];rfl,bR⟩
  ·have e:=oS j;exact aF (CH e (f 3 21 _ rfl k_ rfl)) ⟨rfl,bR⟩
  ·have e:=oS j;exact mp (.inl e) Z ⟨rfl,bR⟩
  ·have e:=oS j;refine aF (Gd (k:=8- wd- k*wd) e (f 4 22 _ rfl k_ rfl) ((f 5 23 _ rfl k_ rfl).trans (by rw[t])) o_) ⟨?_,bR⟩;show some _=some _;rw[QU,Q1];rfl
  ·have e:=oS j;exact aF (aN cq e (aA f2) ((aH (hwid _ _ A) 0).trans rfl)).1 ⟨rfl,bR⟩
  ·have e:=oS j;have B:(1:Int)*2^wd=((2^wd:Nat):Int):=(by rw[Int.one_mul,Q1];rfl);refine aF (iz (m:=1) (k:=wd) e rfl (f 7 25 _ rfl k_ rfl) o_ (by rw[B];omega)) ⟨?_,bR⟩;rw[B];rfl
  ·have e:=oS j;refine aF (lZ e (f 8 26 _ rfl k_ rfl) rfl o_) ⟨?_,bR⟩;have B:((2^wd:Nat):Int)- 1=(cU wd:Int):=(by rw[L];have:=Nat.two_pow_pos wd;omega);rw[B];rfl
  ·have e:=oS j;refine aF (Gm e (f 6 24 _ rfl k_ rfl) (f 9 27 _ rfl k_ rfl)) ⟨?_,bR⟩;rw[Dx _ wd (Nat.lt_of_le_of_lt (Nat.div_le_self _ _) o_) hw,←z];rfl
 ·obtain⟨u,F,s⟩:=C.come 10 28 rfl trivial;obtain⟨v,E,D⟩:=C.come 0 18 rfl trivial;cases s;cases D;exact .inl ⟨rfl,(C.base.more E).more F,G.below _ _ _ r C.old⟩
 ·rcases J with⟨rfl,g,r⟩|⟨rfl,g,r⟩|⟨rfl,g,r⟩
  ·refine Rn.given (c:=i*(8/wd)+k) G g 29 18 (xs:=#[.tmp 28]) (ats:=#[3]) d_ k_ rfl (by simp[g.G 28]) W r λa' p g r=>y a' p (.inr (.inl ⟨rfl,g.only ⟨rfl,rfl,rfl,rfl,rfl,rfl,rfl,rfl,trivial⟩,r⟩))
  ·refine Rn.O g 30 (.unOp .not 4 (.tmp 29)) (λo j=>(sX j (g.G 29)).1) λa g=>y a p (.inr (.inr ⟨rfl,g.only ⟨rfl,rfl,rfl,rfl,rfl,rfl,rfl,rfl,trivial⟩,r⟩))
  ·exact absurd (gA j).1 d_
 ·rcases J with⟨h,_⟩|⟨h,_⟩|⟨_,g,r⟩
  ·exact absurd h d_
  ·exact absurd h d_
  ·exact next a p r g
theorem BC(q:i<b.size)(next:∀a w,Inv ((i+1)*(8/wd)) w->Has [(0, .func (.yield l) #[] #[]),(1, .pt bb),(2, .pt bw),(7, .i b.size),(8, .i i)] 32 [] a->Rn lT Goal ((base 129).atR a K) cs w):
 ∀(j k:Nat) (a:Act) (w:World),8/wd- k=j->k<=8/wd->Inv (i*(8/wd)+k) w->
  Has [(0, .func (.yield l) #[] #[]),(1, .pt bb),(2, .pt bw),(4, .i i),(5, .i (wt wd k)),(7, .i b.size),(8, .i i)] 32 [] a->
  Rn lT Goal ((base 129).atR a (.code (i4 Tryz.f129):: .inLoop (i4 Tryz.f129):: .inBlock 2::K)) cs w:=by
 intro j;induction j with
 |zero=>
  intro k a w p f e c;have d:k=8/wd:=o_
  subst d
  iterate 2 refine Rn.uu c λa c=> ?_
  refine Rn.p rfl (Rn.cond _ (c.G 14) ?_);rw[decide_eq_false (KF hw)];refine Rn.p rfl (next a w ?_ (c.only ⟨rfl,rfl,rfl,rfl,rfl,trivial⟩));rw[Nat.add_mul,Nat.one_mul];exact e
 |succ j g=>
  intro k a w p f e c;have d:k<8/wd:=o_
  have m:=ws hw f;have h:wd<=8:=by rcases hw with rfl|rfl|rfl<;>decide
  iterate 2 refine Rn.uu c λa c=> ?_
  refine Rn.p rfl (Rn.cond _ (c.G 14) ?_);rw[decide_eq_true (show wt wd k≥0 from by rw[Ds hw d];omega)];refine Rn.p rfl (Rn.p rfl (Rn.p rfl (Rn.p rfl ?_)));refine LU hw hstr hwid G q d e (c.only ⟨rfl,rfl,rfl,rfl,rfl,rfl,rfl,trivial⟩) λa w e c=>Rn.cond false (c.G 30) (Rn.p rfl (Rn.p rfl (Rn.r (L:=[0,1,2,3]) rfl ?_)));refine Rn.uu c λa c=> ?_;refine Rn.vv c (λo n=>(aN cq n (c.G 2) ((aH (hwid _ _ e) 0).trans rfl)).1) λa c=> ?_
  iterate 2 refine Rn.uu c λa c=> ?_
  refine Rn.p rfl (Rn.p rfl (g (k+1) a w o_ o_ e (c.only ⟨rfl,rfl,rfl,rfl, ?_,rfl,rfl,trivial⟩)));rw[←I9];rfl
theorem AX(hs:b.size<4611686018427387904)(next:∀a w,Inv (b.size*(8/wd)) w->a.defers=[]->Rn lT Goal ((base 129).atR a K) cs w):
 ∀(j i:Nat) (a:Act) (w:World),b.size- i=j->i<=b.size->Inv (i*(8/wd)) w->
  Has [(0, .func (.yield l) #[] #[]),(1, .pt bb),(2, .pt bw),(7, .i b.size),(8, .i i)] 32 [] a->
  Rn lT Goal ((base 129).atR a (.code (xm Tryz.f129):: .inLoop (xm Tryz.f129):: .inBlock 0::K)) cs w:=by
 intro j;induction j with
 |zero=>
  intro i a w k m e c;have d:i=b.size:=o_
  subst d;refine Rn.uu c λa c=> ?_;refine Rn.p rfl (Rn.p rfl (Rn.cond _ (c.G 9) ?_));rw[decide_eq_false o_];exact Rn.p rfl (next a w e c.defers)
 |succ j f=>
  intro i a w k m e c;have d:i<b.size:=o_
  have g:wd<=8:=by rcases hw with rfl|rfl|rfl<;>decide
  refine Rn.uu c λa c=> ?_;refine Rn.p rfl (Rn.p rfl (Rn.cond _ (c.G 9) ?_));rw[decide_eq_true o_]
  iterate 2 refine Rn.uu c λa c=> ?_
  refine Rn.vv c (λo h=>(aN cq h (c.G 2) ((aH (hwid _ _ e) 0).trans rfl)).1) λa c=> ?_
  iterate 2 refine Rn.uu c λa c=> ?_
  refine Rn.p rfl (Rn.p rfl (Rn.p rfl ?_));refine BC hw hstr hwid G d (λa w e c=> ?_) (8/wd) 0 a w rfl (QH _) e (c.only ⟨rfl,rfl,rfl,rfl, ?_,rfl,rfl,trivial⟩)
  ·iterate 2 refine Rn.uu c λa c=> ?_
   refine Rn.p rfl (Rn.p rfl (f (i+1) a w o_ o_ e (c.only ⟨rfl,rfl,rfl,rfl, ?_,trivial⟩)));rw[Int.natCast_add];rfl
  ·unfold wt;simp
end
theorem sn{m:Frame}{d:Nat->World->Prop}{r:Loop}{b:ByteArray}{wd k j:Nat}(n:qn wd)(hs:b.size<4611686018427387904)
 (e:∀c w,d c w->w.heap[k]?=some (.cells #[.s b] 9)) (g:∀c w,d c w->w.heap[j]?=some (.cells #[.i wd] 3))
 (G:sC lT Goal (m::cs) (λc=>#[.i (dl b.data.toList wd c)]) (b.size*(8/wd)) l r d)  (i:d 0 w)
 (h:∀w,d (b.size*(8/wd)) w->Rn lT Goal (m.finish (.tuple #[])) cs w):
 Rn lT Goal (Qc lT 129 #[.func (.yield l) #[] #[], .pk k 0, .pk j 0] .normal) (m::cs) w:=by rw[bP (N:=32) [.func (.yield l) #[] #[], .pk k 0, .pk j 0] Lf.func129 Mc rfl];have f:=aY [.func (.yield l) #[] #[], .pk k 0, .pk j 0] 32 s_;refine Rn.vv f (λo p=>(aN bA p (f.G 1) ((aH (e _ _ i) 0).trans rfl)).1) λa f=> ?_;refine Rn.uu f λa f=> ?_;refine Rn.mvc f 8 (.i 0) d_ k_ λa f=>Rn.p rfl (Rn.p rfl (Rn.p rfl ?_));refine AX n e g G hs (λa w i q=> ?_) b.size 0 a w rfl (QH _) (by rw[Nat.zero_mul];exact i) (f.only ⟨rfl,rfl,rfl,rfl,rfl,trivial⟩);exact Rn.ends rfl (.inl rfl) (Rn.leave (.tuple #[]) rfl q Lf.func129 (results_none rfl _ _ w) (events_results_none rfl _ _) (h w i))
end L1
section
open Go.Conc Go.RowKit
section
variable{base:Nat}{e:TypeId}{size:Nat}{xs:List Value}
theorem ma(h:w.ownsRow base e size v n xs){o:Obj}(f:w.heap[b]?=some o)(c:∀a,o≠ .cells a e (0,0)):some b≠v.ownBlock:=λq=>by
 rcases h.2 with⟨rfl,_⟩|⟨g,d,a,rfl,_,i,_⟩
 ·cases q
 ·cases q
  grind
theorem iY(h:w.ownsRow base e size v n xs)(c:∀g,v.ownBlock=some g->w'.heap[g]?=w.heap[g]?):w'.ownsRow base e size v n xs:=by
 refine⟨h.1, ?_⟩;rcases h.2 with h|⟨g,b,a,rfl,i,d,f⟩
 ·grind
 ·exact .inr ⟨g,b,a,rfl,i,(c g rfl).trans d,f⟩
theorem rV{w0:World}{row:Option Nat}(h:Below N w0 w)(a:w.grownBy w' row)(b:∀k,row=some k->N<=k)(d:N<=w.heap.size):Below N w0 w':=
 ⟨a.os.trans h.os,a.tape.trans h.tape,a.output.trans h.output,By h.size a.size,λk c=>(a.block k o_ (λq=>by grind)).trans (h.block k c)⟩
end
structure Ap (ti ts:TypeId) (D:Nat->Value) (b2 l ld:Nat) (r:Loop) (w0:World) (c:Nat) (w:World):Prop where
 old:Bw w0 w
 row:∃v,w.heap[b2]?=some (.cells #[v] ts)/\w.ownsRow w0.heap.size ti 1 v c ((Q8 c).map D)
 loop:w.heap[l]?=some (.loop r)
 list:w.heap[ld]?=some (.deferred (some []))
theorem Ap.below{e d:TypeId}{D:Nat->Value}{j ld:Nat}{r:Loop}{w0:World}{c:Nat}(h:Ap e d D j l ld r w0 c w)(a:Bw w w'):Ap e d D j l ld r w0 c w':=by have g:∀{b:Nat} {o:Obj},w.heap[b]?=some o->w'.heap[b]?=some o:=λ{b o} f=>(a.block b (gA f).1).trans f;obtain⟨v,n,i⟩:=h.row;exact⟨aE h.old h.old.size a,⟨v,g n,iY i λk m=>a.block k (i.lt k m).2⟩,g h.loop,g h.list⟩
end
namespace L1
open Go.Conc Go.RowKit
def zX(f:Func)(T:Array Value)(ld:Nat)(st:LoopState):Loop:={state:=st,pending:=none,fn:=130,tmps:=T,params:=#[7],assign:= .region 2 (bK f 2) false,body:= .block 1 (rG f 3),defers:=ld}
theorem Ma:Tryz.f130.body=some (.seq (rG Tryz.f130 0) (.seq (.seq (rG Tryz.f130 1) (.block 0 (.rangeFunc (.tmp 6) #[7] (rG Tryz.f130 2) (.block 1 (rG Tryz.f130 3)))))
 (.seq (rG Tryz.f130 4) .ret))):=rfl
theorem zo:∃i,lT.info? 3=some i/\i.zero=some (.i 0)/\i.size=1/\i.bytes=8:=by have h:(lT.info? 3).map (λi=>(i.zero,i.size,i.bytes))=some (some (.i 0),1,8):=rfl;simp_all
theorem Ge{ev:Operand->Value}{i:Int}(a:o.op= .buildSlice 24 1 #[(0,x)])(b:ev x= .i i):
 (execOp ev o).run lT w= .ok (.value (.sk w.heap.size 1 1)) (w.alloc (.cells #[.i i] 3)):=by
 have e:execOp ev o=(do pure (.value (←Instr.buildSlice 24 1 #[(0, .i i)]))):=by simp[execOp,a,b]
 have c:(do pure (.value (←Instr.buildSlice 24 1 #[(0, .i i)])):Sem Next).run lT w= .ok (.value (.sk w.heap.size 1 1)) (w.alloc (.cells #[.i i] 3)):=k_
 rw[e,c]
section
variable{T:Array Value}{b2 ld:Nat}{d:Nat->Int}
theorem Je(hT:Has [(2, .pt b2)] 13 [] ⟨T,[]⟩)(hb2:w0.heap.size<=b2)(hl:w0.heap.size<=l){c:Nat}(hc:c<1000000){cf:Frame}(hI:Ap 3 24 (λi=> .i (d i)) b2 l ld (zX Tryz.f130 T ld .ready) w0 c w)
 (next:∀w',Ap 3 24 (λi=> .i (d i)) b2 l ld (zX Tryz.f130 T ld .ready) w0 (c+1) w'->Rn lT Goal (cf.finish (.bool true)) cs w'):
 Rn lT Goal (Frame.round l 130 (((#[7]:Array Tmp).zip #[.i (d c)]).foldl (λtmps (t,a)=>tmps.setIfInBounds t a) T) (rG Tryz.f130 2) (.block 1 (rG Tryz.f130 3)) .normal) (cf::cs) w:=by
 have hF:=hT.put (d:=7) d_ (.i (d c));have ez:((#[7]:Array Tmp).zip #[.i (d c)]).foldl (λ(tmps:Array Value) (x:Tmp×Value)=>match x with|(t,a)=>tmps.setIfInBounds t a) T=T.setIfInBounds 7 (.i (d c)):=s_
 rw[ez];show Rn _ Goal ((rb 130 l).atR (Rq ⟨T,[]⟩ (some 7) (.i (d c))) [.code (rG Tryz.f130 2), .beginRound, .code (.block 1 (rG Tryz.f130 3))]) (cf::cs) w;revert hF;generalize Rq ⟨T,[]⟩ (some 7) (.i (d c))=a;intro hF;refine Rn.r (L:=[0]) rfl (Rn.S hF 5 7 rfl λa hF=> ?_);refine Rn.p rfl (Rn.rounds (r:=zX Tryz.f130 T ld .ready) rfl hI.loop rfl ?_);obtain⟨v,hv,hown⟩:=hI.row;have n2l:b2≠l:=λe=>by subst e;rw[hI.loop]at hv;cases hv
 have ndl:ld≠l:=λe=>by subst e;have:=hI.list;rw[hI.loop]at this;cases this
 have n2d:ld≠b2:=λe=>by subst e;have:=hI.list;rw[hv]at this;cases this
 have hv1:(bX w l (zX Tryz.f130 T ld .busy)).heap[b2]?=some (.cells #[v] 24):=(bM w _ n2l).trans hv;have hl1:(bX w l (zX Tryz.f130 T ld .busy)).heap[l]?=some (.loop (zX Tryz.f130 T ld .busy)):=ir hI.loop;have hd1:(bX w l (zX Tryz.f130 T ld .busy)).heap[ld]?=some (.deferred (some [])):=(bM w _ ndl).trans hI.list;have hown1:(bX w l (zX Tryz.f130 T ld .busy)).ownsRow w0.heap.size 3 1 v c ((Q8 c).map λi=> .i (d i)):=iY hown λg hg=>bM w _ λe=>ma hown hI.loop (by intro cur q;cases q) (by rw[←e];exact hg.symm);have hold1:Bw w0 (bX w l (zX Tryz.f130 T ld .busy)):=hI.old.trans (fc w l _ hl);show Rn _ Goal _ _ (bX w l (zX Tryz.f130 T ld .busy));revert hv1 hl1 hd1 hown1 hold1;generalize bX w l (zX Tryz.f130 T ld .busy)=w1;intro hv1 hl1 hd1 hown1 hold1
 iterate 2 refine Rn.uu hF λa hF=> ?_
 refine Rn.vv hF (λo ho=>Ge ho (hF.G 9)) λa hF=> ?_;have hb2':=PK w1 (.cells #[.i (d c)] 3);have g:∀{b:Nat} {o:Obj},w1.heap[b]?=some o->(w1.alloc (.cells #[.i (d c)] 3)).heap[b]?=some o:=λ{b o} ho=>(hb2'.block b (gA ho).1).trans ho;have hv2:=g hv1;have hl2:=g hl1;have hd2:=g hd1;have hown2:(w1.alloc (.cells #[.i (d c)] 3)).ownsRow w0.heap.size 3 1 v c ((Q8 c).map λi=> .i (d i)):=iY hown1 λk hk=>hb2'.block k (hown1.lt k hk).2;have hold2:Bw w0 (w1.alloc (.cells #[.i (d c)] 3)):=aE hold1 hold1.size hb2';have hnew:=aP w1 (.cells #[.i (d c)] 3);obtain⟨ti,hti,hz,hsz,hby⟩:=zo;have happ:=λty=>run_append_own (P:=aJ true tP) (w1.alloc (.cells #[.i (d c)] 3)) w0.heap.size 24 ty 3 ti (.i 0) 1 8 k_ hti hz hsz hby rfl d_ v c _ hown2 ⟨w1.heap.size,0,none⟩ 1 1 [.i (d c)] rfl
  (λj u hj=>by have hj0:j=0:=(by have:=(Tf.1 hj).1;simp at this;omega);subst hj0;cases hj;rw[ka,aH hnew];rfl) (λu hu=>by simp at hu;subst hu;rfl) (by simp only[maxLen];omega) o_ hold2.size
 cases ho:(bK Tryz.f130 3)[3]? with
 |none=>exact absurd ho (by simp;decide)
 |some o=>
 obtain⟨e1,e2,e3⟩:=cA (d:=some 11) (p:= .call {callee:= .builtin .append,args:=#[.tmp 8, .tmp 10],argTypes:=#[24,24]}) ho k_;obtain⟨v',w3,hrun,hown3,hgr,_⟩:=happ o.type;have hr:(execOp a.eval o).run lT (w1.alloc (.cells #[.i (d c)] 3))= .ok (.value v') w3:=by have x8:=hF.G 8;have x10:=hF.G 10;simp[execOp,e2,resolve,x8,x10,invoke,builtin,hrun]
 refine Rn.ran ho (e3 _) (by rw[e2];simp) hr ?_;rw[e1];have hF:=hF.put (d:=11) d_ v';revert hF;generalize a.put (some 11) v'=a;intro hF;have q2:=ma hown2 hv2 (by intro cur q;cases q);have ql:=ma hown2 hl2 (by intro cur q;cases q);have qd:=ma hown2 hd2 (by intro cur q;cases q);have hv3:=(hgr.block b2 (gA hv2).1 q2).trans hv2;have hl3:=(hgr.block l (gA hl2).1 ql).trans hl2;have hd3:=(hgr.block ld (gA hd2).1 qd).trans hd2;have hold3:Bw w0 w3:=rV hold2 hgr (λk hk=>(hown2.lt k hk).1) hold2.size;clear hrun happ hr hgr q2 ql qd hnew e1 e2 e3 ho;have hcells:v'.cells=#[v']/\v'.oneCell'=true:=by rcases hown3.2 with⟨rfl,_⟩|⟨g,cap,cur,rfl,_⟩<;>exact⟨rfl,rfl⟩
 refine Rn.nn hF (λo ho=>(dH (w:=w3) (b:=b2) (k:=0) (v:=v') (v0:=v) hcells.1 hcells.2 k_ ho (hF.G 2) (hF.G 11) ((aH hv3 0).trans rfl) (by simp[Qa,hv3])).1) λa hF=> ?_;refine Rn.p rfl (Rn.p rfl ?_);have hl4:(w3.setCell ⟨b2,0,none⟩ v').heap[l]?=some (.loop (zX Tryz.f130 T ld .busy)):=(bO w3 _ (QF n2l)).trans hl3;refine Rn.through rfl rfl hl4 (next _ ⟨?_,⟨v',(bM _ _ n2l).trans (jF hv3), ?_⟩,ir hl4,(bM _ _ ndl).trans ((bO w3 _ n2d).trans hd3)⟩)
 ·exact(hold3.trans (cP _ _ _ hb2)).trans (fc _ _ _ hl)
 ·rw[Sb,QW];refine iY hown3 λk hk=> ?_;have k1:k≠l:=λe=>ma hown3 hl3 (by intro cur q;cases q) (by rw[←e];exact hk.symm);have k2:k≠b2:=λe=>ma hown3 hv3 (by intro cur q;cases q) (by rw[←e];exact hk.symm);exact(bM _ _ k1).trans (bO w3 _ k2)
end
def lC(b:ByteArray)(wd n:Nat):List Value:=(Q8 n).map λi=> .int .i64 (dl b.data.toList wd i)
theorem Jc(b:ByteArray)(wd C B:Nat)(w:World)(L:qn wd)(hs:b.size<=1000)(n:w.heap[C]?=some (.cells #[.s b] 9))(m:w.heap[B]?=some (.cells #[.i wd] 3)):
 Calls lT 130 #[.slice none 0 0, .func (.func 129) #[] #[.pk C 0, .pk B 0]] w λe w'=>∃v,e= .returned v/\w'.ownsRow w.heap.size 3 1 v (b.size*(8/wd)) (lC b wd (b.size*(8/wd)))/\Bw w w':=by
 refine bJ (t:=4) Lf.func130 rfl λP=> ?_;rw[bP (N:=13) [.slice none 0 0, .func (.func 129) #[] #[.pk C 0, .pk B 0]] Lf.func130 Ma rfl];have r:=aY [.slice none 0 0, .func (.func 129) #[] #[.pk C 0, .pk B 0]] 13 s_;refine Rn.gr ?_;refine Rn.z r 2 0 24 rfl λa r=> ?_;show Rn _ _ _ _ (w.alloc (.cells #[.slice none 0 0] 24))
 iterate 2 refine Rn.uu r λa r=> ?_
 have s:=aI w (.cells #[.slice none 0 0] 24);have j:=PK w (.cells #[.slice none 0 0] 24);have A:=aP w (.cells #[.slice none 0 0] 24);have x:=(j.block C (gA n).1).trans n;have u:=(j.block B (gA m).1).trans m;revert s j A x u;generalize w.alloc (.cells #[.slice none 0 0] 24)=f;intro s j A x u;refine Rn.p rfl (Rn.p rfl ?_);refine Rn.rangeAs (zX Tryz.f130 a.tmps f.heap.size .ready) (args:=#[.func (.yield (f.heap.size+1)) #[] #[], .pk C 0, .pk B 0]) rfl rfl Lf.func129 k_ k_ (r.G 6) s_ ?_;have F:=(gA n).1;have E:=(gA m).1;have D:8/wd<=4:=by rcases L with rfl|rfl|rfl<;>decide
 have W:b.size*(8/wd)<=4000:=By (Nat.mul_le_mul hs D) d_;have O:Has [(2, .pt w.heap.size)] 13 [] ⟨a.tmps,[]⟩:=⟨rfl,r.size,(r.only (G:=[(2, .pt w.heap.size)]) ⟨rfl,trivial⟩).slot⟩;have G:∀z,sC lT z (((base 130).atR ⟨a.tmps,{target:= .collected f.heap.size,args:=#[]}::a.defers⟩ (.inRangeFunc (f.heap.size+1)::[.inBlock 0, .code (.seq (rG Tryz.f130 4) .ret)]))::P) (λc=>#[.i (dl b.data.toList wd c)]) (b.size*(8/wd)) (f.heap.size+1) (zX Tryz.f130 a.tmps f.heap.size .ready)
  (Ap 3 24 (λi=> .i (dl b.data.toList wd i:Nat)) w.heap.size (f.heap.size+1) f.heap.size (zX Tryz.f130 a.tmps f.heap.size .ready) w):=
  λz=>
  {below:=λc w w' h U=>h.below U
   loop:=λc w h=>h.loop
   size:=λc=>rfl
   round:=λc w' Y X y next=>Je (d:=λc=>(dl b.data.toList wd c:Nat)) O (T6 _) o_ o_ y next}
 refine sn L o_ (λc w' h=>(h.old.block C F).trans n) (λc w' h=>(h.old.block B E).trans m) (G _) ⟨aE j o_ (ia f _),⟨.slice none 0 0,(cb f _ o_).trans A,World.ownsRow_nil _ _ _ _⟩,fT f _,fU f _⟩ λH y=> ?_;show Rn _ _ ((base 130).atR ⟨a.tmps,{target:= .collected f.heap.size,args:=#[]}::a.defers⟩ (.endRangeFunc (f.heap.size+1)::_)) P H;refine Rn.rangeOver y.loop rfl rfl ?_;obtain⟨v,S,g⟩:=y.row;have p:Has [(2, .pt w.heap.size)] 13 [{target:= .collected f.heap.size,args:=#[]}] ⟨a.tmps,{target:= .collected f.heap.size,args:=#[]}::a.defers⟩:=⟨by rw[r.defers],r.size,O.slot⟩;revert p;generalize (Act.mk a.tmps ({target:= .collected f.heap.size,args:=#[]}::a.defers))=a2;intro p;have J:=(bM H (l:=f.heap.size+1) (b:=f.heap.size) {zX Tryz.f130 a.tmps f.heap.size .ready with state:= .exhausted} o_).trans y.list;have I:=(bM H (l:=f.heap.size+1) (b:=w.heap.size) {zX Tryz.f130 a.tmps f.heap.size .ready with state:= .exhausted} o_).trans S;refine Rn.gr ?_;refine Rn.O p 12 (.load 24 (.tmp 2)) (λo T=>(aN tQ T (p.G 2) ((aH I 0).trans rfl)).1) λZ p=> ?_;refine Rn.S p 4 12 rfl λV p=>Rn.p rfl (Rn.ends rfl (.inr ⟨_,rfl⟩) (Rn.take (ds:=[]) p.defers J (Rn.now ⟨⟨V.tmps,[]⟩,_,v,rfl,rfl,p.slot 4 _ rfl,v,rfl, ?_, ?_⟩)))
 ·refine iY g λk M=> ?_;have R:k≠f.heap.size+1:=λe=>ma g y.loop (by intro K q;cases q) (by rw[←e];exact M.symm);have Q:k≠f.heap.size:=λe=>ma g y.list (by intro K q;cases q) (by rw[←e];exact M.symm);show(Array.setIfInBounds _ _ _)[k]?=_;rw[sN (QF Q)];exact bM _ _ R
 ·exact(y.old.trans (fc _ _ _ o_)).trans (iI _ _ o_)
theorem Mh:Tryz.f109.body=some (.seq (rG Tryz.f109 0) (.seq (rG Tryz.f109 1) .ret)):=rfl
theorem zL(b:ByteArray)(wd g d:Nat)(w:World)(j:qn wd)(hs:b.size<=1000)(i:w.heap[g]?=some (.cells #[.s b] 9))(h:w.heap[d]?=some (.cells #[.i wd] 3)):
 Calls lT 109 #[.func (.func 129) #[] #[.pk g 0, .pk d 0]] w λe w'=>∃v,e= .returned v/\w'.ownsRow w.heap.size 3 1 v (b.size*(8/wd)) (lC b wd (b.size*(8/wd)))/\Bw w w':=by
 refine bJ (t:=2) Lf.func109 rfl λl=> ?_;rw[bP (N:=5) [.func (.func 129) #[] #[.pk g 0, .pk d 0]] Lf.func109 Mh rfl];have c:=aY [.func (.func 129) #[] #[.pk g 0, .pk d 0]] 5 s_
 iterate 2 refine Rn.uu c λa c=> ?_
 refine Rn.calls (f:=130) (xs:=#[.const (.slice none 0 0), .tmp 3]) (ats:=#[24,158]) (args:=#[.slice none 0 0, .func (.func 129) #[] #[.pk g 0, .pk d 0]]) c 4 d_ k_ (by simp[c.G 3];rfl) Lf.func130 k_ k_
  (Jc b wd g d w j hs i h) λv w' k a c=> ?_
 refine Rn.uu c λa c=> ?_;exact Rn.fi c ⟨v,rfl,k⟩
theorem Mi:Tryz.f107.body=some (.seq (rG Tryz.f107 0) (.seq (rG Tryz.f107 1) .ret)):=k_
theorem uh(b:ByteArray)(wd:Nat)(w:World):
 Calls lT 107 #[.s b, .i wd] w λe w'=>e= .returned (.func (.func 129) #[] #[.pk w.heap.size 0, .pk (w.heap.size+1) 0])/\w'=(w.alloc (.cells #[.s b] 9)).alloc (.cells #[.i wd] 3):=by
 refine bJ (t:=4) Lf.func107 rfl λf=> ?_;rw[bP (N:=6) [.s b, .i wd] Lf.func107 Mi rfl];have c:=aY [.s b, .i wd] 6 s_;refine Rn.gr ?_;refine Rn.z c 2 0 9 rfl λa c=> ?_;show Rn _ _ _ _ (w.alloc (.cells #[.s b] 9));refine Rn.z c 3 1 3 rfl λa c=> ?_;rw[aI]at c;show Rn _ _ _ _ ((w.alloc (.cells #[.s b] 9)).alloc (.cells #[.i wd] 3));refine Rn.uu c λa c=> ?_;refine Rn.gr ?_;refine Rn.O c 5 (.makeFunc (.func 129) #[] #[.tmp 2, .tmp 3]) (v:= .func (.func 129) #[] #[.pk w.heap.size 0, .pk (w.heap.size+1) 0]) (w':=(w.alloc (.cells #[.s b] 9)).alloc (.cells #[.i wd] 3)) (λo d=> ?_) λa c=> ?_
 ·have h:=(iW lT (w:=(w.alloc (.cells #[.s b] 9)).alloc (.cells #[.i wd] 3)) (ev:=a.eval) d).1;rw[h];simp[c.G 2,c.G 3]
 refine Rn.uu c λa c=> ?_;exact Rn.fi c ⟨rfl,rfl⟩
end L1
section
open Go.Conc Go.RowKit
structure Sm (ts tk ti:TypeId) (Q:ByteArray) (wd:Nat) (key:Array Value) (r:Loop) (w0:World) (S:Nat) (w:World):Prop where
 old:Bw w0 w
 key:w.heap[w0.heap.size]?=some (.cells key tk)
 five:w.heap[w0.heap.size+1]?=some (.cells #[.int .i64 S] ti)
 str:w.heap[w0.heap.size+2]?=some (.cells #[.string Q] ts)
 wid:w.heap[w0.heap.size+3]?=some (.cells #[.int .i64 wd] ti)
 list:w.heap[w0.heap.size+4]?=some (.deferred (some []))
 loop:w.heap[w0.heap.size+5]?=some (.loop r)
section
variable{ts tk ti:TypeId}{Q:ByteArray}{key:Array Value}{r:Loop}{S:Nat}
theorem Sm.below(h:Sm ts tk ti Q wd key r w0 S w)(c:Bw w w'):Sm ts tk ti Q wd key r w0 S w':=by have g:∀{b:Nat} {o:Obj},w.heap[b]?=some o->w'.heap[b]?=some o:=λ{b o} a=>(c.block b (gA a).1).trans a;exact⟨aE h.old h.old.size c,g h.key,g h.five,g h.str,g h.wid,g h.list,g h.loop⟩
theorem Sm.turn(h:Sm ts tk ti Q wd key r w0 S w)(a:Loop):Sm ts tk ti Q wd key a w0 S (bX w (w0.heap.size+5) a):=
 ⟨h.old.trans (fc w _ _ o_),(bM w _ o_).trans h.key,(bM w _ o_).trans h.five,(bM w _ o_).trans h.str,(bM w _ o_).trans h.wid,(bM w _ o_).trans h.list,ir h.loop⟩
theorem Sm.put(h:Sm ts tk ti Q wd key r w0 S w)(a:Nat):Sm ts tk ti Q wd key r w0 a (w.setCell ⟨w0.heap.size+1,0,none⟩ (.i a)):=
 ⟨h.old.trans (cP w _ _ (by show _<=w0.heap.size+1;omega)),(bO w _ (by show _≠w0.heap.size+1;omega)).trans h.key,jF h.five,(bO w _ (by show _≠w0.heap.size+1;omega)).trans h.str,(bO w _ (by show _≠w0.heap.size+1;omega)).trans h.wid,(bO w _ (by show _≠w0.heap.size+1;omega)).trans h.list,(bO w _ (by show _≠w0.heap.size+1;omega)).trans h.loop⟩
end
end
namespace L1
open Go.Conc Go.RowKit
def xQ(f:Func)(T:Array Value)(ld:Nat)(st:LoopState):Loop:={state:=st,pending:=none,fn:=90,tmps:=T,params:=#[12],assign:= .region 3 (bK f 3) false,body:= .block 1 (rD f 4),defers:=ld}
theorem Mn:Tryz.f90.body=some (.seq (rG Tryz.f90 0) (.seq (rG Tryz.f90 1) (.seq (.seq (rG Tryz.f90 2) (.block 0 (.rangeFunc (.tmp 11) #[12] (rG Tryz.f90 3) (.block 1 (rD Tryz.f90 4)))))
 (.seq (rG Tryz.f90 5) (.seq (rD Tryz.f90 6) .ret))))):=k_
section
variable{y:Operand}
theorem eG(j:Nat)(f:j<8)(a:o.op= .fieldAddr 115 x j)(c:ev x= .pk b 0):(execOp ev o).run lT w= .ok (.value (.pk b j)) w:=by
 have e:execOp ev o=(do pure (.value (←BY 115 (.pk b 0) j))):=by simp only[execOp,a,c]
 have d:(do pure (.value (←BY 115 (.pk b 0) j)):Sem Next).run lT w= .ok (.value (.pk b j)) w:=by rcases(o_:j=0\/j=1\/j=2\/j=3\/j=4\/j=5\/j=6\/j=7)with rfl|rfl|rfl|rfl|rfl|rfl|rfl|rfl<;>kernel_rfl
 rw[e,d]
theorem Gj{g:Addr}{len cap:Nat}(a:o.op= .slice 24 x none (some y) none)(d:ev x= .slice (some g) len cap)(c:ev y= .i n)(h:n<=cap):(execOp ev o).run lT w= .ok (.value (.slice (some g) n cap)) w:=by
 have e:lT.underlying 24=some (.slice 3):=k_
 have b:∀w:World,(sizeOf 3).run lT w= .ok 1 w:=λw=>k_
 simp[execOp,a,d,c,QG,R0,Qq,run_underlying e,Qx,asIntOf,h,b,go_sem]
end
section
variable{T:Array Value}{s:dw}{Q:ByteArray}
theorem Jh(D:qn wd)(C:s.width=wd)(hT:Has [(2, .pt w0.heap.size),(5, .pt (w0.heap.size+1))] 34 [] ⟨T,[]⟩){c:Nat}(hc:c<1000000){K:Frame}
 (p:Sm 9 115 3 Q wd s.key (xQ Tryz.f90 T (w0.heap.size+4) .ready) w0 (eM Q.data.toList wd c) w)
 (next:∀w',Sm 9 115 3 Q wd s.key (xQ Tryz.f90 T (w0.heap.size+4) .ready) w0 (eM Q.data.toList wd (c+1)) w'->Rn lT Goal (K.finish (.bool true)) cs w'):
 Rn lT Goal (Frame.round (w0.heap.size+5) 90 (((#[12]:Array Tmp).zip #[.i (dl Q.data.toList wd c)]).foldl (λtmps (t,a)=>tmps.setIfInBounds t a) T) (rG Tryz.f90 3) (.block 1 (rD Tryz.f90 4)) .normal) (K::cs) w:=by
 have f:=hT.put (d:=12) d_ (.i (dl Q.data.toList wd c));have ez:((#[12]:Array Tmp).zip #[.i (dl Q.data.toList wd c)]).foldl (λ(tmps:Array Value) (x:Tmp×Value)=>match x with|(t,a)=>tmps.setIfInBounds t a) T=T.setIfInBounds 12 (.i (dl Q.data.toList wd c)):=s_
 rw[ez];show Rn _ Goal ((rb 90 (w0.heap.size+5)).atR (Rq ⟨T,[]⟩ (some 12) (.i (dl Q.data.toList wd c))) [.code (rG Tryz.f90 3), .beginRound, .code (.block 1 (rD Tryz.f90 4))]) (K::cs) w;revert f;generalize Rq ⟨T,[]⟩ (some 12) (.i (dl Q.data.toList wd c))=a;intro f;refine Rn.r (L:=[0]) rfl (Rn.S f 6 12 rfl λa f=> ?_);refine Rn.p rfl (Rn.rounds (r:=xQ Tryz.f90 T (w0.heap.size+4) .ready) rfl p.loop rfl ?_);have y:=p.turn (xQ Tryz.f90 T (w0.heap.size+4) .busy);show Rn _ Goal _ _ (bX w (w0.heap.size+5) (xQ Tryz.f90 T (w0.heap.size+4) .busy));revert y;generalize bX w (w0.heap.size+5) (xQ Tryz.f90 T (w0.heap.size+4) .busy)=w1;intro y;have B:=pA Q.data.toList D c;have O:=oI D;have I:=nA Q.data.toList wd c;have f:Has [(2, .pt w0.heap.size),(5, .pt (w0.heap.size+1)),(6, .i (dl Q.data.toList wd c))] 34 [] a:=f.only ⟨rfl,rfl,rfl,trivial⟩;refine Rn.p rfl ?_;refine Rn.grows (fx:=[(2, .pt w0.heap.size),(5, .pt (w0.heap.size+1)),(6, .i (dl Q.data.toList wd c))]) (ds:=[13,14,15,16,17,18]) (N:=34) (df:=[])
  (G:=λn v _=>([.i (eM Q.data.toList wd c), .agg s.key, .i (cU wd), .i (dl Q.data.toList wd c), .i ((cU wd- dl Q.data.toList wd c:Nat):Int), .i (eM Q.data.toList wd (c+1))]:List Value)[n]?=some v) k_ k_ (λn v w w' h _=>h) (λn o a w' R l Z z F=> ?_)
  (λn a w'=>(n=6/\Has [(18, .i (eM Q.data.toList wd (c+1))),(2, .pt w0.heap.size),(5, .pt (w0.heap.size+1)),(6, .i (dl Q.data.toList wd c))] 34 [] a/\Sm 9 115 3 Q wd s.key (xQ Tryz.f90 T (w0.heap.size+4) .busy) w0 (eM Q.data.toList wd c) w')\/
    (n=7/\Sm 9 115 3 Q wd s.key (xQ Tryz.f90 T (w0.heap.size+4) .busy) w0 (eM Q.data.toList wd (c+1)) w'))
  (λa w' J=> ?_) (λn o a w' M R l B H=> ?_) (λa w' B=> ?_) f.defers f.size (f.all s_)
 ·have A:=y.below Z;have f2:=z _ (mG (i:=0) rfl);have f5:=z _ (mG (i:=1) rfl);have f6:=z _ (mG (i:=2) rfl);have g:∀m d v,[13,14,15,16,17,18][m]?=some d->gW (bK Tryz.f90 4) n m=true->([.i (eM Q.data.toList wd c), .agg s.key, .i (cU wd), .i (dl Q.data.toList wd c), .i ((cU wd- dl Q.data.toList wd c:Nat):Int), .i (eM Q.data.toList wd (c+1))]:List Value)[m]?=some v->a.eval (.tmp d)=v:=λm d v Y W U=>by obtain⟨u,E,q⟩:=F m d Y W;rw[U]at q;cases q;exact aA E
  have X:n<6:=R;rcases(o_:n=0\/n=1\/n=2\/n=3\/n=4\/n=5)with rfl|rfl|rfl|rfl|rfl|rfl
  ·have j:=oS l;exact aF (aN cq j (aA f5) ((aH A.five 0).trans rfl)).1 ⟨rfl,bR⟩
  ·have j:=oS l;exact aF (iy (s:=s) j (aA f2) A.key λ_ _=>rfl) ⟨rfl,bR⟩
  ·have j:=oS l;have a1:=g 1 14 _ rfl k_ rfl;have V:=bG (w:=w') j (show(#[Operand.tmp 14]:Array Operand).map a.eval=#[.agg s.key]from by simp[a1]) (rI (P:=aJ true tP) Lf.func108 _);refine .inr ⟨_,_,V.1,(Cz s wd C (by rcases D with rfl|rfl|rfl<;>decide) w').mono λe S h=>⟨_,h.1,rfl,h.2⟩⟩
  ·have j:=oS l;exact mp (.inl j) f6 ⟨rfl,bR⟩
  ·have j:=oS l;refine aF (lZ j (g 2 15 _ rfl k_ rfl) (g 3 16 _ rfl k_ rfl) o_) ⟨?_,bR⟩;rw[←Int.ofNat_sub I];rfl
  ·have j:=oS l;refine aF (iA j (g 0 13 _ rfl k_ rfl) (g 4 17 _ rfl k_ rfl) o_) ⟨?_,bR⟩;rw[←Int.natCast_add];rfl
 ·obtain⟨u,E,q⟩:=J.come 5 18 rfl trivial;cases q;exact .inl ⟨rfl,J.base.more E,y.below J.old⟩
 ·rcases B with⟨rfl,f,p⟩|⟨rfl,p⟩
  ·refine Rn.does0 f (.store 3 (.tmp 5) (.tmp 18)) k_ s_ (λo l=>(dH (w:=w') (b:=w0.heap.size+1) (k:=0) (v:= .i (eM Q.data.toList wd (c+1))) (v0:= .i (eM Q.data.toList wd c)) rfl rfl k_ l (f.G 5) (f.G 18) ((aH p.five 0).trans rfl) (by simp[Qa,p.five])).1) λa f=>H a _ (.inr ⟨rfl,p.put _⟩)
  ·exact absurd (gA l).1 d_
 ·rcases B with⟨h,_⟩|⟨_,p⟩
  ·exact absurd h d_
  ·exact Rn.p rfl (Rn.through rfl rfl p.loop (next _ (p.turn _)))
end
def ij(n:Nat)(d:Nat->Nat)(v:Value)(w:World):Prop:=∃gb cap,v= .sk gb n cap/\gb<w.heap.size/\∀c,c<n->w.cell? ⟨gb,c,none⟩=some (.int .i64 (d c))
theorem ij.mono{d:Nat->Nat}(h:ij n d v w)(f:Bw w w'):ij n d v w':=by obtain⟨b,e,rfl,a,h⟩:=h;refine⟨b,e,rfl,T7 a f.size,λc g=> ?_⟩;rw[←h c g];unfold Qe;rw[show w'.heap[(⟨b,c,none⟩:Addr).block]?=_ from f.block b a]
def Pe(N:Nat)(al:ByteArray)(wd n:Nat):Nat->Value->World->Prop
 |0,v,_=>v= .string al
 |1,v,_=>v= .pk N 5
 |2,v,_=>v= .int .i64 wd
 |3,v,w=>∃p,v= .func (.func 129) #[] #[.pk p 0, .pk (p+1) 0]/\w.heap[p]?=some (.cells #[.string al] 9)/\w.heap[p+1]?=some (.cells #[.int .i64 wd] 3)
 |4,v,w=>∃B,w.ownsRow B 3 1 v (al.size*(8/wd)) (lC al wd (al.size*(8/wd)))
 |5,v,_=>v= .pk N 6
 |6,v,_=>v= .int .i64 n
 |_,v,w=>ij n (λc=>dl al.data.toList wd c) v w
theorem Ha{al:ByteArray}{wd:Nat}(k:Nat)(v:Value)(w w':World)(h:Pe N al wd n k v w)(a:Bw w w'):Pe N al wd n k v w':=by
 have g:∀{b:Nat} {o:Obj},w.heap[b]?=some o->w'.heap[b]?=some o:=λ{b o} c=>(a.block b (gA c).1).trans c
 match k,h with
 |0,h|1,h|2,h=>exact h
 |3,⟨p,h1,h2,h3⟩=>exact⟨p,h1,g h2,g h3⟩
 |4,⟨B,h⟩=>exact⟨B,iY h λk d=>a.block k (h.lt k d).2⟩
 |5,h|6,h=>exact h
 |k+7,h=>exact ij.mono h a
section
variable{s:dw}{al:ByteArray}
theorem LV(W:qn wd)(E:s.width=wd)(hn:s.count=n)(I:al.size<=1000)(a0:1<=n)(Z:n<=al.size*(8/wd))(q:w.heap[N]?=some (.cells s.key 115))
 (A:Has [(2, .pt N),(7, .s al)] 34 ds a)
 (next:∀a w' v,ij n (λc=>dl al.data.toList wd c) v w'->Bw w w'->Has [(4,v)] 34 ds a->Rn lT Goal ((base 90).atR a K) cs w'):
 Rn lT Goal ((base 90).atR a (.code (rD Tryz.f90 6)::K)) cs w:=by
 refine Rn.grows (fx:=[(2, .pt N),(7, .s al)]) (ds:=[26,27,28,29,30,31,32,33,4]) (N:=34) (df:=ds)
  (G:=Pe N al wd n) k_ k_ Ha (λm o a w' S k H z b=> ?_)
  (λm a w'=>m=9/\Bw w w'/\∃v,ij n (λc=>dl al.data.toList wd c) v w'/\Has [(4,v)] 34 ds a) (λa w' C=> ?_) (λm o a w' Q S k J a2=> ?_) (λa w' J=> ?_) A.defers A.size (A.all s_)
 ·have l:=(H.block N (gA q).1).trans q;have U:=z _ (mG (i:=0) rfl);have f7:=z _ (mG (i:=1) rfl);have a1:m<9:=S;rcases(o_:m=0\/m=1\/m=2\/m=3\/m=4\/m=5\/m=6\/m=7\/m=8)with rfl|rfl|rfl|rfl|rfl|rfl|rfl|rfl|rfl
  ·have d:=oS k;exact mp (.inl d) f7 ⟨rfl,bR⟩
  ·have d:=oS k;exact aF (eG 5 d_ d (aA U)) ⟨rfl,bR⟩
  ·have d:=oS k;obtain⟨u,f,rfl⟩:=nE b 1 27;exact aF (aN (v:= .i wd) cq d (aA f) ((aH l 5).trans (by rw[←E];rfl))).1 ⟨rfl,bR⟩
  ·have d:=oS k;obtain⟨u,f,rfl⟩:=nE b 0 26;obtain⟨V,j,rfl⟩:=nE b 2 28;have F:=bG (w:=w') d (show(#[Operand.tmp 26, .tmp 28]:Array Operand).map a.eval=#[.s al, .i wd]from by simp[aA f,aA j]) (rI (P:=aJ true tP) Lf.func107 _);refine .inr ⟨_,_,F.1,(uh al wd w').mono λe D h=>⟨_,h.1,⟨w'.heap.size,rfl, ?_, ?_⟩, ?_⟩⟩
   ·rw[h.2];exact(cm _ _ (by rw[aI];omega)).trans (aP w' _)
   ·rw[h.2];have:=aP (w'.alloc (.cells #[.s al] 9)) (.cells #[.i wd] 3);rw[aI]at this;exact this
   ·rw[h.2];exact aE (PK w' _) (by rw[aI];omega) (PK _ _)
  ·have d:=oS k;obtain⟨u,f,p,rfl,x,L⟩:=nE b 3 29;have F:=bG (w:=w') d (show(#[Operand.tmp 29]:Array Operand).map a.eval=#[.func (.func 129) #[] #[.pk p 0, .pk (p+1) 0]]from by simp[aA f]) (rI (P:=aJ true tP) Lf.func109 _);exact .inr ⟨_,_,F.1,(zL al wd p (p+1) w' W I x L).mono λe D ⟨v,x,L,h3⟩=>⟨v,x,⟨_,L⟩,h3⟩⟩
  ·have d:=oS k;exact aF (eG 6 d_ d (aA U)) ⟨rfl,bR⟩
  ·have d:=oS k;obtain⟨u,f,rfl⟩:=nE b 5 31;exact aF (aN (v:= .i n) cq d (aA f) ((aH l 6).trans (by rw[←hn];rfl))).1 ⟨rfl,bR⟩
  ·have d:=oS k;obtain⟨u,f,B,y⟩:=nE b 4 30;obtain⟨V,j,rfl⟩:=nE b 6 32;rcases y.2 with⟨_,h0⟩|⟨g,O,M,rfl,_,T,Y,_,a3,r⟩
   ·omega
   ·refine aF (Gj d (aA f) (aA j) o_) ⟨⟨g,O,rfl,(gA T).1,λc hc=> ?_⟩,bR⟩;rw[aH T];have hl:c<al.size*(8/wd):=o_;have x:(M.toList.take (al.size*(8/wd)*1))[c]?=(lC al wd (al.size*(8/wd)))[c]?:=(by rw[r]);rw[List.getElem?_take_of_lt o_]at x;rw[←Array.getElem?_toList,x];simp[lC,hl]
  ·have d:=oS k;obtain⟨u,f,t⟩:=nE b 7 33;exact mp (.inr d) f ⟨t,bR⟩
 ·obtain⟨u,f,j⟩:=C.come 8 4 rfl trivial;exact⟨rfl,C.old,u,j,Has.mem C.defers C.size λp R=>by simp at R;subst R;exact f⟩
 ·exact absurd (gA k).1 (by obtain⟨rfl,_⟩:=J;decide)
 ·obtain⟨_,H,v,X,A⟩:=J;exact next a w' v X H A
end
theorem xA(s:dw)(wd sh n:Nat)(Q:ByteArray)(w:World)(K:qn wd)(D:s.width=wd)(a0:s.shift=sh)(L:sh<=8)(hn:s.count=n)(a4:1<=n)(a3:n<=34*(8/wd))(U:Q.size=32):
 Calls lT 90 #[.agg s.key, .s Q] w λe w'=>∃v,e= .returned v/\ij n (λc=>dl (ib Q.data.toList wd sh) wd c) v w'/\Bw w w':=by
 refine bJ (t:=4) Lf.func90 rfl λcs=> ?_;rw[bP (N:=34) [.agg s.key, .s Q] Lf.func90 Mn rfl];have f:=aY [.agg s.key, .s Q] 34 s_;have T:Q.size*(8/wd)=256/wd:=by rw[U];rcases K with rfl|rfl|rfl<;>decide
 refine Rn.gr ?_;refine Rn.z f 2 0 115 rfl λa f=> ?_;show Rn _ _ _ _ (w.alloc (.cells s.key 115));refine Rn.uu f λa f=> ?_;refine Rn.vv f (λo j=>(jk j).1) λa f=> ?_;rw[aI]at f;have I:=aP (w.alloc (.cells s.key 115)) (.cells #[.i 0] 3);rw[aI]at I;have W:=(cm (w.alloc (.cells s.key 115)) (.cells #[.i 0] 3) (b:=w.heap.size) (by rw[aI];omega)).trans (aP w _);have z:Bw w ((w.alloc (.cells s.key 115)).alloc (.cells #[.i 0] 3)):=aE (PK w _) (by rw[aI];omega) (PK _ _);have x:((w.alloc (.cells s.key 115)).alloc (.cells #[.i 0] 3)).heap.size=w.heap.size+2:=by rw[aI,aI]
 revert I W z x;generalize (w.alloc (.cells s.key 115)).alloc (.cells #[.i 0] 3)=J;intro I W z x;refine Rn.nn f (λo j=>(dH (w:=J) (b:=w.heap.size+1) (k:=0) (v:= .i 0) (v0:= .i 0) rfl rfl k_ j (f.G 5) rfl ((aH I 0).trans rfl) (by simp[Qa,I])).1) λa f=> ?_;have A:=jF (v:= .i 0) I;have u:=(bO J (a:=⟨w.heap.size+1,0,none⟩) (b:=w.heap.size) (.i 0) (by show _≠w.heap.size+1;omega)).trans W;have l:Bw w (J.setCell ⟨w.heap.size+1,0,none⟩ (.i 0)):=z.trans (cP J _ _ (by show _<=w.heap.size+1;omega));have i:(J.setCell ⟨w.heap.size+1,0,none⟩ (.i 0)).heap.size=w.heap.size+2:=by rw[←x];simp[Q6]
 revert A u l i;generalize J.setCell ⟨w.heap.size+1,0,none⟩ (.i 0)=C;intro A u l i;refine Rn.gr ?_;refine Rn.y f 8 1 rfl λa f=>Rn.vv f (λo j=>eG 5 d_ j (f.G 2)) λa f=> ?_;refine Rn.vv f (λo j=>(aN (v:= .i wd) cq j (f.G 9) ((aH u 5).trans (by rw[←D];rfl))).1) λa f=> ?_;refine Rn.cw f Lf.func107 ((uh Q wd C)) λg m a f=> ?_;rw[i]at f;have y:Bw C g:=by rw[m];exact aE (PK C _) (by rw[aI];omega) (PK _ _)
 have M:g.heap.size=w.heap.size+4:=by rw[m,aI,aI,i]
 have k2:g.heap[w.heap.size+2]?=some (.cells #[.s Q] 9):=by rw[m,←i];exact(cm _ _ (by rw[aI];omega)).trans (aP C _)
 have k3:g.heap[w.heap.size+3]?=some (.cells #[.i wd] 3):=by rw[m,show w.heap.size+3=C.heap.size+1 from o_];have:=aP (C.alloc (.cells #[.s Q] 9)) (.cells #[.i wd] 3);rw[aI]at this;exact this
 have k0:=(y.block _ o_).trans u;have k1:=(y.block _ o_).trans A;have E:Bw w g:=aE l o_ y;clear m A u l y I W z x;refine Rn.p rfl (Rn.p rfl ?_);refine Rn.rangeAs (xQ Tryz.f90 a.tmps g.heap.size .ready) (args:=#[.func (.yield (g.heap.size+1)) #[] #[], .pk (w.heap.size+2) 0, .pk (w.heap.size+2+1) 0]) rfl rfl Lf.func129 k_ k_ (f.G 11) s_ ?_;have S:Sm 9 115 3 Q wd s.key (xQ Tryz.f90 a.tmps (w.heap.size+4) .ready) w (eM Q.data.toList wd 0) (di g (xQ Tryz.f90 a.tmps g.heap.size .ready)):=by have hl:=fT g (xQ Tryz.f90 a.tmps g.heap.size .ready);have hd:=fU g (xQ Tryz.f90 a.tmps g.heap.size .ready);rw[M]at hl hd⊢;exact⟨aE E o_ (ia g _),(cb g _ o_).trans k0,(cb g _ o_).trans k1,(cb g _ o_).trans k2,(cb g _ o_).trans k3,hd,hl⟩
 rw[M]at S⊢;have hT:Has [(2, .pt w.heap.size),(5, .pt (w.heap.size+1))] 34 [] ⟨a.tmps,[]⟩:=⟨rfl,f.size,(f.only (G:=[(2, .pt w.heap.size),(5, .pt (w.heap.size+1))]) ⟨rfl,rfl,trivial⟩).slot⟩;have ad:Q.size*(8/wd)<=128:=by rw[U];rcases K with rfl|rfl|rfl<;>decide
 have G:∀B,sC lT B (((base 90).atR ⟨a.tmps,{target:= .collected (w.heap.size+4),args:=#[]}::a.defers⟩ (.inRangeFunc (w.heap.size+4+1)::[.inBlock 0, .code (.seq (rG Tryz.f90 5) (.seq (rD Tryz.f90 6) .ret))]))::cs) (λc=>#[.i (dl Q.data.toList wd c)]) (Q.size*(8/wd)) (w.heap.size+4+1) (xQ Tryz.f90 a.tmps (w.heap.size+4) .ready)
  (λc=>Sm 9 115 3 Q wd s.key (xQ Tryz.f90 a.tmps (w.heap.size+4) .ready) w (eM Q.data.toList wd c)):=
  λB=>
  {below:=λc w w' h hb=>h.below hb
   loop:=λc w h=>h.loop
   size:=λc=>rfl
   round:=λc w' cf hc V next=>Jh K D hT o_ V next}
 refine sn K o_ (λc w' h=>h.str) (λc w' h=>h.wid) (G _) S λY V=> ?_;show Rn _ _ ((base 90).atR ⟨a.tmps,{target:= .collected (w.heap.size+4),args:=#[]}::a.defers⟩ (.endRangeFunc (w.heap.size+4+1)::_)) cs Y;refine Rn.rangeOver V.loop rfl rfl ?_;have r:=V.turn (xQ Tryz.f90 a.tmps (w.heap.size+4) .exhausted);show Rn _ _ _ _ (bX Y (w.heap.size+4+1) (xQ Tryz.f90 a.tmps (w.heap.size+4) .exhausted));have d:Has [(1, .s Q),(2, .pt w.heap.size),(5, .pt (w.heap.size+1))] 34 [{target:= .collected (w.heap.size+4),args:=#[]}] ⟨a.tmps,{target:= .collected (w.heap.size+4),args:=#[]}::a.defers⟩:=⟨by rw[f.defers],f.size,(f.only (G:=[(1, .s Q),(2, .pt w.heap.size),(5, .pt (w.heap.size+1))]) ⟨rfl,rfl,rfl,trivial⟩).slot⟩;revert d r;generalize bX Y (w.heap.size+4+1) (xQ Tryz.f90 a.tmps (w.heap.size+4) .exhausted)=X;generalize (Act.mk a.tmps ({target:= .collected (w.heap.size+4),args:=#[]}::a.defers))=a2;intro r d;have hS:=pA Q.data.toList K (Q.size*(8/wd));have a9:eM Q.data.toList wd (Q.size*(8/wd))<=32640:=o_
 have aa:2^sh<=256:=By (Qp d_ L) d_;have ac:eM Q.data.toList wd (Q.size*(8/wd))*2^sh<=32640*256:=Nat.mul_le_mul a9 aa;have q:(eM Q.data.toList wd (Q.size*(8/wd)):Int)*2^sh=((eM Q.data.toList wd (Q.size*(8/wd))*2^sh:Nat):Int):=by rw[QK,Q1];rfl
 refine Rn.uu d λa d=> ?_;refine Rn.vv d (λo j=>(aN cq j (d.G 5) ((aH r.five 0).trans rfl)).1) λa d=> ?_;refine Rn.uu d λa d=> ?_;refine Rn.vv d (λo j=>(aN (v:= .i sh) cq j (d.G 21) ((aH r.key 7).trans (by rw[←a0];rfl))).1) λa d=> ?_;refine Rn.vv d (λo j=>iz (k:=sh) j (d.G 20) (d.G 22) o_ (by rw[q];omega)) λa d=> ?_;rw[q]at d;refine Rn.cl d Lf.func92 (R:=λv w'=>v= .string ⟨(da (eM Q.data.toList wd (Q.size*(8/wd))*2^sh) 2).toArray⟩/\Bw X w') ((nP _ o_ X).mono λe w' h=>⟨_,h.1,rfl,h.2⟩) λv w7 hv a d=> ?_;obtain⟨rfl,a7⟩:=hv;have Z:(Q++(⟨(da (eM Q.data.toList wd (Q.size*(8/wd))*2^sh) 2).toArray⟩:ByteArray)).size=34:=by rw[ByteArray.size_append,U,lr]
 have F:(Q++(⟨(da (eM Q.data.toList wd (Q.size*(8/wd))*2^sh) 2).toArray⟩:ByteArray)).data.toList=ib Q.data.toList wd sh:=by simp[ib,T]
 refine Rn.vv d (λo j=>eF j (d.G 19) (d.G 24) (by rw[U,lr];decide)) λa d=> ?_;refine Rn.uu d λa d=> ?_;have P:=r.below a7;refine Rn.p rfl (Rn.p rfl ?_);refine LV (n:=n) K D hn o_ a4 (by rw[Z];exact a3) P.key (d.only ⟨rfl,rfl,trivial⟩) λa8 w8 v p a6 d=> ?_;have H:=P.below a6;rw[F]at p;refine Rn.ends rfl (.inr ⟨_,rfl⟩) (Rn.take (ds:=[]) d.defers H.list (Rn.now ⟨⟨a8.tmps,[]⟩,_,v,rfl,rfl,d.slot 4 _ rfl,v,rfl, ?_,H.old.trans (iI _ _ o_)⟩));obtain⟨gb,ab,rfl,a5,hc⟩:=p;refine⟨gb,ab,rfl,by simpa using a5,λc O=> ?_⟩;have a1:gb≠w.heap.size+4:=λe=>by have:=hc c O;subst e;unfold Qe at this;simp only[H.list]at this;cases this
 refine(World.cell?_of_block (w:=w8) (a:=⟨gb,c,none⟩) ?_).trans (hc c O);exact sN (QF a1)
section
variable{b:Frame}{k:List Item}
theorem oU(e:Has F N ds a)(d x:Nat)(i:d<N)(c:F.lookup x=some (.s s))(h:(ops[m]?).map (λo=>(o.dst,o.op,o.guard))=some (some d,jg x,none))
 (next:∀a',Has ((d, .i s.size)::F) N ds a'->Rn lT Goal (b.atR a' (.inRegion ops rest::k)) cs w):Rn lT Goal (b.atR a (.inRegion ops (m::rest)::k)) cs w:=by
 have f:lT.underlying 9=some .string:=k_
 refine Rn.op e d (jg x) i h (by simp[jg]) (λo g=> ?_) next
 have c:=e.get c;simp[execOp,g,jg,resolve,c,invoke,builtin,Builtin.len_,run_underlying f,goInt]
theorem jH(e:Has F N ds a)(d x:Nat)(c:Int){i:Int}(j:d<N)(f:F.lookup x=some (.i i))(h:(ops[m]?).map (λo=>(o.dst,o.op,o.guard))=some (some d,gG x c,none))
 (next:∀a',Has ((d, .bool (decide (i<c)))::F) N ds a'->Rn lT Goal (b.atR a' (.inRegion ops rest::k)) cs w):Rn lT Goal (b.atR a (.inRegion ops (m::rest)::k)) cs w:=
 Rn.op e d (gG x c) j h (by simp[gG]) (λo g=>(lK g (e.get f) rfl).1) next
theorem yy{x:Nat}(e:Has F N ds a)(c:F.lookup x=some (.bool q))(d:q=true)(next:Rn lT Goal (b.atR a k) cs w):Rn lT Goal (b.atR a (.code (.cond (.tmp x) .skip (.refuse ""))::k)) cs w:=by subst d;exact Rn.cond true (e.get c) (Rn.p rfl next)
theorem nS{x:Nat}(e:Has F N ds a)(c:F.lookup x=some (.bool q))(d:q=false)(next:Rn lT Goal (b.atR a k) cs w):Rn lT Goal (b.atR a (.code (.cond (.tmp x) (.refuse "") .skip)::k)) cs w:=by subst d;exact Rn.cond false (e.get c) (Rn.p rfl next)
theorem OW{s:dw}{v1:Value}(c:Has [(0, .agg s.cells),(1,v1)] 36 [] a)(D:1<=s.count)(C:s.count<65537)(j:0<=s.width/\s.width<9)(l:0<=s.q/\s.q<4294967296)(p:s.id.size<65536)
 (next:∀a',Has [(1,v1),(3, .agg s.cells),(10, .i s.count),(13, .s s.links)] 36 [] a'->Rn lT Goal (b.atR a' (.code (.seq (.region 1 OT false) (.seq (.block 0 (.loop oR)) (.seq (.region 5 OS false) .ret)))::k)) cs (w.alloc (.cells s.cells 119))):
 Rn lT Goal (b.atR a (.code mS::k)) cs w:=by
 obtain⟨z,y,q,u,B,i,n,A,g,t,e,d⟩:=s;refine Rn.vv c (λo m=>Pm m (c.G 0)) λa c=> ?_;refine Rn.op c 2 (.box 119 (.tmp 0)) d_ rfl s_ (v:= .pk w.heap.size 0) (w':=w.alloc (.cells (dw.mk z y q u B i n A g t e d).cells 119)) (λo m=> ?_) λa c=> ?_
 ·have h:=(me lT (w:=w) (ev:=a.eval) m).1;rw[c.G 0]at h;exact h
 have f:=aP w (.cells (dw.mk z y q u B i n A g t e d).cells 119);revert next f
 generalize w.alloc (.cells (dw.mk z y q u B i n A g t e d).cells 119)=E;intro next f
 refine Rn.vv c (λo m=>GU (r:=[]) m (c.G 2) f) λa c=> ?_
 iterate 2 refine Rn.uu c λa c=> ?_
 refine oU c 7 6 d_ rfl rfl λa c=>Rn.uu c λa c=> ?_;refine oU c 7 6 d_ rfl rfl λa c=>Rn.uu c λa c=> ?_;refine oU c 9 8 d_ rfl rfl λa c=>Rn.uu c λa c=> ?_;refine oU c 7 6 d_ rfl rfl λa c=>Rn.uu c λa c=> ?_;refine jH c 7 6 0 d_ rfl rfl λa c=>Rn.uu c λa c=> ?_;refine jH c 16 11 0 d_ rfl rfl λa c=>Rn.uu c λa c=> ?_;refine jH c 15 10 65537 d_ rfl rfl λa c=>Rn.uu c λa c=> ?_;refine jH c 7 6 0 d_ rfl rfl λa c=>Rn.uu c λa c=> ?_;refine jH c 18 12 0 d_ rfl rfl λa c=>Rn.uu c λa c=> ?_;refine oU c 7 6 d_ rfl rfl λa c=>Rn.uu c λa c=> ?_;refine oU c 7 13 d_ rfl rfl λa c=>Rn.uu c λa c=> ?_;refine oU c 7 6 d_ rfl rfl λa c=>jH c 14 10 1 d_ rfl rfl λa c=>jH c 17 11 9 d_ rfl rfl λa c=>jH c 19 12 4294967296 d_ rfl rfl λa c=>jH c 20 9 65536 d_ rfl rfl λa c=> ?_;have D:1<=n:=D;have C:n<65537:=C;have j:0<=i/\i<9:=j;have l:0<=g/\g<4294967296:=l;have p:q.size<65536:=p;refine Rn.p rfl (Rn.p rfl ?_);refine nS c (x:=14) rfl (decide_eq_false o_) (Rn.p rfl ?_);refine yy c (x:=15) rfl (decide_eq_true o_) (Rn.p rfl ?_);refine nS c (x:=16) rfl (decide_eq_false o_) (Rn.p rfl ?_);refine yy c (x:=17) rfl (decide_eq_true o_) (Rn.p rfl ?_);refine nS c (x:=18) rfl (decide_eq_false o_) (Rn.p rfl ?_);refine yy c (x:=19) rfl (decide_eq_true o_) (Rn.p rfl ?_);refine yy c (x:=20) rfl (decide_eq_true o_) ?_;exact next a (c.only ⟨rfl,rfl,rfl,rfl,trivial⟩)
end
section
variable{b:Frame}{k:List Item}(hKl:KS.length=64)(hK:wE.rangeAt 0 0 (aM KS))(h0:0<wE.heap.size){s:dw}{bL gb glen gcap:Nat}{dig:Nat->Int}
 (hn:s.count=n) (hn2:n<65537) (hwd:0<=s.width/\s.width<9) (hqq:0<=s.q/\s.q<4294967296) (hid:s.id.size<65536) (hlk:n*32<=s.links.size) (hbL:wE.heap.size<=bL)
 (hgb:gb<wE.heap.size) (hglen:n<=glen) (hdig:∀c,c<n->(0<=dig c/\dig c<256)/\wE.cell? ⟨gb,c,none⟩=some (.int .i64 (dig c)))
include hKl hK h0 hn hn2 hwd hqq hid hlk hbL hgb hglen hdig
theorem Jk(next:∀(a:Act) (w:World),Bw wE w->w.heap[bL]?=some (.cells (mK KS s dig n n) 9)->Has [(23, .sk bL n n)] 36 [] a->Rn lT Goal (b.atR a k) cs w):
 ∀(j i:Nat) (a:Act) (w:World),n- i=j->i<=n->Bw wE w->w.heap[bL]?=some (.cells (mK KS s dig n i) 9)->
  Has [(1, .sk gb glen gcap),(3, .agg s.cells),(10, .i n),(13, .s s.links),(23, .sk bL n n),(24, .i i)] 36 [] a->Rn lT Goal (b.atR a (.code oR:: .inLoop oR:: .inBlock 0::k)) cs w:=by
 intro j;induction j with
 |zero=>
  intro i a w F G d l c;have m:i=n:=o_
  subst m;refine Rn.uu c λa c=> ?_;refine Rn.p rfl (Rn.cond (decide ((i:Int)<i)) (c.G 25) ?_);rw[show(decide ((i:Int)<i))=false by simp];exact Rn.p rfl (next a w d l (c.only ⟨rfl,trivial⟩))
 |succ j D=>
  intro i a w F G d l c;have m:i<n:=o_
  obtain⟨H,p⟩:=hdig i m;refine Rn.uu c λa c=> ?_;refine Rn.p rfl (Rn.cond (decide ((i:Int)<n)) (c.G 25) ?_);rw[show(decide ((i:Int)<n))=true by simpa using m];refine Rn.vv c (λo u=>(dx (w:=w) (t:=24) (e:=3) k_ (λw=>k_) u (c.G 1) (c.G 24) o_).1) λa c=> ?_;have r:w.cell? ((⟨gb,0,none⟩:Addr).add i)=some (.i (dig i)):=by rw[ka,IS];unfold Qe at p⊢;rw[show w.heap[(⟨gb,i,none⟩:Addr).block]?=_ from d.block gb hgb];exact p
  refine Rn.vv c (λo u=>(aN cq u (c.G 26) r).1) λa c=> ?_;refine jH c 28 27 0 d_ rfl rfl λa c=>jH c 29 27 256 d_ rfl rfl λa c=>Rn.p rfl (Rn.p rfl ?_);refine nS c (x:=28) rfl (decide_eq_false o_) (Rn.p rfl ?_);refine yy c (x:=29) rfl (decide_eq_true o_) ?_;refine Rn.uu c λa c=> ?_;refine Rn.uu c λa c=> ?_;refine Rn.uu c λa c=> ?_;have A:a.eval (.tmp 30)= .i ((i*32:Nat):Int):=(c.G 30).trans (by rw[QK];rfl);have z:a.eval (.tmp 32)= .i (((i+1)*32:Nat):Int):=(c.G 32).trans (by rw[QK,Int.natCast_add];rfl);refine Rn.vv c (λo u=>(dR u (c.G 13) A z o_ o_).1) λa c=> ?_;have y:Cq s i (dig i) (s.links.extract (i*32) ((i+1)*32)):=⟨hwd,hqq,hid,o_,H,by rw[ByteArray.size_extract];omega⟩;refine Rn.calls (f:=120) (xs:=#[.tmp 3, .tmp 24, .tmp 27, .tmp 33]) (ats:=#[119,3,3,9]) (args:=#[.agg s.cells, .i i, .i (dig i), .s (s.links.extract (i*32) ((i+1)*32))]) c 34 d_ rfl (by simp[c.G 3,c.G 24,c.G 27,c.G 33]) Lf.func120 k_ k_
   (R:=λv B=>v= .s (ki KS s i (dig i) (s.links.extract (i*32) ((i+1)*32)))/\Bw w B) ((Dh KS s i (dig i) _ y w (Pq h0 d hK) hKl (T7 h0 d.size)).mono λe B h=>⟨_,h.1,rfl,h.2⟩) λv C E a c=> ?_
  obtain⟨rfl,q⟩:=E;have g:=(q.block bL (gA l).1).trans l;refine Rn.uu c λa c=> ?_;refine Rn.does0 c (.store 9 (.tmp 35) (.tmp 34)) rfl s_ (λo u=>(dH (w:=C) (b:=bL) (k:=i) (v:= .s (ki KS s i (dig i) (s.links.extract (i*32) ((i+1)*32)))) (v0:= .string ⟨#[]⟩) rfl rfl k_ u
   ((c.G 35).trans (by rw[ka,IS])) (c.G 34) (by rw[aH g];simp[mK,m]) (by simp[Qa,g])).1) λa c=> ?_
  refine Rn.uu c λa c=> ?_;refine Rn.p rfl (Rn.p rfl ?_);refine D (i+1) a _ o_ o_ ((aE d d.size q).trans (cP _ _ _ hbL)) ?_ (c.only ⟨rfl,rfl,rfl,rfl,rfl, ?_,trivial⟩)
  ·rw[iX g,←zV (dig':=dig) λ_ _=>rfl];unfold wW;simp
  ·rw[Int.natCast_add];rfl
end
theorem HI(KS:List Int)(C:KS.length=64)(s:dw)(n q glen gcap:Nat)(dig:Nat->Int)(w:World)(K:w.rangeAt 0 0 (aM KS))(L:0<w.heap.size)(F:s.count=n)(J:1<=n)(x:n<65537)(h:0<=s.width/\s.width<9)(i:0<=s.q/\s.q<4294967296)(k:s.id.size<65536)(y:n*32<=s.links.size)
 (A:q<w.heap.size) (g:n<=glen) (l:∀c,c<n->(0<=dig c/\dig c<256)/\w.cell? ⟨q,c,none⟩=some (.int .i64 (dig c))):
 Calls (aJ true tP) 94 #[.agg s.cells, .sk q glen gcap] w λe w'=>∃bL,e= .returned (.sk bL n n)/\w'.heap[bL]?=some (.cells (Array.ofFn λc:Fin n=>wW KS s dig c.val) 9)/\Bw w w':=by
 refine bJ (fn:=tx) (t:=4) rU rfl λM=> ?_;rw[bP (c:=mS) (N:=36) [.agg s.cells, .sk q glen gcap] rU rfl rfl];have b:=aY [.agg s.cells, .sk q glen gcap] 36 s_;refine OW b o_ o_ h i k λa b=> ?_;rw[F]at b;have r:=aI w (.cells s.cells 119);have p:=PK w (.cells s.cells 119);refine Rn.uu b λa b=> ?_;have E:a.eval (.tmp 21)= .int .i64 ((n*32:Nat):Int):=(b.get (d:=21) rfl).trans (by rw[QK];rfl);have H:(aJ true tP).underlying 9=some .string:=k_
 refine Rn.op b 22 (.slice 9 (.tmp 13) none (some (.tmp 21)) none) (v:= .s (s.links.extract 0 (n*32))) (w':=w.alloc (.cells s.cells 119)) d_ rfl s_ (λo u=> ?_) λa b=> ?_
 ·have G:=b.get (d:=13) rfl;have j:(n:Int)*32<=(s.links.size:Int):=o_
  have D:(0:Int)<=(n:Int)*32:=o_
  have I:((n:Int)*32).toNat=n*32:=o_
  simp[execOp,u,G,E,QG,R0,Qq,run_underlying H,Qx,asIntOf,j,D,I]
 refine Rn.vv b (λo u=>CS o_ o_ u (b.get (d:=10) rfl) (b.get (d:=10) rfl)) λa b=> ?_;refine Rn.mvc b 24 (.int .i64 0) d_ rfl λa b=>Rn.p rfl (Rn.p rfl (Rn.p rfl (Rn.p rfl ?_)));have B:=PK (w.alloc (.cells s.cells 119)) (.cells (Td n (.string ⟨#[]⟩)) 9);have z:=aP (w.alloc (.cells s.cells 119)) (.cells (Td n (.string ⟨#[]⟩)) 9);refine Jk C K L F x h i k y (bL:=(w.alloc (.cells s.cells 119)).heap.size) (by rw[r];omega) A g l ?_ n 0 a _ rfl (QH _) (aE p p.size B) (by rw[zU];exact z) (b.only ⟨rfl,rfl,rfl,rfl,rfl,rfl,trivial⟩);intro a w' m f b;refine Rn.uu b λa b=> ?_;refine Rn.p rfl (Rn.ends rfl (.inr ⟨_,rfl⟩) (Rn.now ⟨a,_, .sk ((w.alloc (.cells s.cells 119)).heap.size) n n,rfl,b.defers,b.slot 4 _ rfl,_,rfl, ?_,m⟩));rw[←zW];exact f
def lm(p:ByteArray):Nat->ByteArray
 |0=>p
 |c+1=>(lm p c).extract 32 (lm p c).size
theorem tJ(p:ByteArray):∀c,(lm p c).size=p.size- 32*c
 |0=>rfl
 |c+1=>by have:=tJ p c;simp only[lm,ByteArray.size_extract];omega
def dn(n:Nat):Nat->Nat
 |0=>n
 |c+1=>dn n c/2
theorem pW(n:Nat):∀c,dn n c=n/2^c
 |0=>by simp[dn]
 |c+1=>by rw[dn,pW n c,Nat.div_div_eq_div_mul,RX]
theorem Ev{h c:Nat}(b:2^h<=n)(a:c<h):1<dn n c:=by rw[pW];refine(Nat.le_div_iff_mul_le (Nat.two_pow_pos c)).2 ?_;have:2^(c+1)<=2^h:=Qp d_ a;rw[RX]at this;omega
theorem Ew{h:Nat}(a:n<2^(h+1)):¬1<dn n h:=by rw[pW];have:n/2^h<2:=Nat.div_lt_of_lt_mul (by rw[RX]at a;exact a);omega
theorem pV(n:Nat):∀c,dn n c<=n
 |0=>T6 _
 |c+1=>by have:=pV n c;simp only[dn];omega
def Bn(f:Func):Code:= .seq (.seq (rG f 2) (.cond (.tmp 10) .skip (.exit 0))) (.seq (.block 1 (.seq (.seq (rG f 4) (.cond (.tmp 18) .ret .skip)) (rG f 5))) (rG f 3))
theorem Md:Tryz.f122.body=some (.seq (rG Tryz.f122 0) (.seq (rG Tryz.f122 1) (.block 0 (.loop (Bn Tryz.f122))))):=k_
section
variable{y:Operand}
theorem Gi(a:o.op= .fieldAddr 119 x 4)(c:ev x= .pk b 0):(execOp ev o).run lT w= .ok (.value (.pk b 11)) w:=by
 have e:execOp ev o=(do pure (.value (←BY 119 (.pk b 0) 4))):=by simp only[execOp,a,c]
 have d:(do pure (.value (←BY 119 (.pk b 0) 4)):Sem Next).run lT w= .ok (.value (.pk b 11)) w:=k_
 rw[e,d]
theorem nT{t:ByteArray}(a:o.op= .slice 9 x none (some y) none)(c:ev x= .s t)(b:ev y= .i n)(h:n<=t.size):(execOp ev o).run lT w= .ok (.value (.s (t.extract 0 n))) w:=by
 have d:lT.underlying 9=some .string:=k_
 simp[execOp,a,c,b,QG,R0,Qq,run_underlying d,Qx,asIntOf,h]
theorem pI{t:ByteArray}(a:o.op= .slice 9 x (some y) none none)(c:ev x= .s t)(b:ev y= .i n)(h:n<=t.size):(execOp ev o).run lT w= .ok (.value (.s (t.extract n t.size))) w:=by
 have d:lT.underlying 9=some .string:=k_
 simp[execOp,a,c,b,QG,R0,Qq,run_underlying d,Qx,asIntOf,h]
end
section
variable{Inv:Nat->World->Prop}{r:Loop}{p:ByteArray}{h:Nat}(hp:p.size=32*h)(hn:2^h<=n)(hn2:n<2^(h+1))(hn3:n<9223372036854775808)
 (G:sC (aJ true Tryz.prog) Goal cs (λc=>#[.int .i64 (dn n c), .string ((lm p c).extract 0 32)]) h l r Inv)
include hp hn hn2 hn3 G
theorem EE(next:∀a w,Inv h w->a.defers=[]->Rn lT Goal ((base 122).atR a K) cs w):
 ∀(j c:Nat) (a:Act) (w:World),h- c=j->c<=h->Inv c w->Has [(0, .func (.yield l) #[] #[]),(4, .s (lm p c)),(5, .i (dn n c))] 21 [] a->
  Rn lT Goal ((base 122).atR a (.code (Bn Tryz.f122):: .inLoop (Bn Tryz.f122):: .inBlock 0::K)) cs w:=by
 intro j;induction j with
 |zero=>
  intro c a w m q e b;have d:c=h:=o_
  subst d
  iterate 2 refine Rn.uu b λa b=> ?_
  refine Rn.p rfl (Rn.cond _ (b.G 10) ?_);rw[decide_eq_false (by have:=Ew hn2;omega)];exact Rn.p rfl (next a w e b.defers)
 |succ j g=>
  intro c a w m q e b;have d:c<h:=o_
  have r:=Ev hn d;have k:=pV n c;have i:=tJ p c
  iterate 2 refine Rn.uu b λa b=> ?_
  refine Rn.p rfl (Rn.cond _ (b.G 10) ?_);rw[decide_eq_true o_]
  iterate 3 refine Rn.uu b λa b=> ?_
  refine Rn.vv b (λo f=>nT (n:=32) f (b.G 15) rfl o_) λa b=> ?_;refine Rn.given (c:=c) G b 17 13 (xs:=#[.tmp 14, .tmp 16]) (ats:=#[3,9]) d_ k_ rfl (by simp[b.G 14,b.G 16]) d e λa w b e=>Rn.uu b λa b=> ?_;refine Rn.p rfl (Rn.cond false (b.G 18) (Rn.p rfl (Rn.r (L:=[0,1,2]) rfl ?_)));refine Rn.uu b λa b=> ?_;refine Rn.vv b (λo f=>pI (n:=32) f (b.G 19) rfl o_) λa b=> ?_
  iterate 4 refine Rn.uu b λa b=> ?_
  refine Rn.p rfl (Rn.p rfl (g (c+1) a w o_ o_ e (b.only ⟨rfl,rfl, ?_,trivial⟩)));show some _=some _;rw[dn,QU];rfl
end
theorem FO{k:Frame}{b:Nat->World->Prop}{r:Loop}{s:dw}{h bs f:Nat}(m:s.path.size=32*h)(q:2^h<=n)(i:n<2^(h+1))(g:n<9223372036854775808)
 (G:sC lT Goal (k::cs) (λc=>#[.i (dn n c), .s ((lm s.path c).extract 0 32)]) h l r b)  (j:b 0 w) (hs:w.heap[bs]?=some (.cells s.cells 119)) (u:w.heap[f]?=some (.cells #[.i n] 3))
 (e:∀w,b h w->Rn lT Goal (k.finish (.tuple #[])) cs w):
 Rn lT Goal (Qc lT 122 #[.func (.yield l) #[] #[], .pk bs 0, .pk f 0] .normal) (k::cs) w:=by
 rw[bP (N:=21) [.func (.yield l) #[] #[], .pk bs 0, .pk f 0] Lf.func122 Md rfl];have d:=aY [.func (.yield l) #[] #[], .pk bs 0, .pk f 0] 21 s_;refine Rn.vv d (λo p=>Gi p (d.G 1)) λa d=> ?_
 iterate 4 refine Rn.uu d λa d=> ?_
 refine Rn.p rfl (Rn.p rfl (Rn.p rfl ?_));refine EE m q i g G (λa w j t=> ?_) h 0 a w rfl (QH _) j (d.only ⟨rfl,rfl,rfl,trivial⟩);exact Rn.ends rfl (.inl rfl) (Rn.leave (.tuple #[]) rfl t Lf.func122 (results_none rfl _ _ w) (events_results_none rfl _ _) (e w j))
end L1
section
open Go.RowKit Go.Lib Go.Shelf
def Lf.ren156:Go.Shelf.Ren:=⟨λ|156=>93|165=>113|166=>114|169=>115|240=>134|241=>135|276=>167|277=>168|n=>n,λ|31=>43|9=>9|3=>3|4=>4|0=>0|20=>20|72=>171|76=>175|70=>169|37=>83|75=>174|127=>195|164=>198|5=>5|80=>33|n=>n,λ|n=>n⟩
theorem Lf.lays156:Go.Proofs.Lays.n156 (aJ q tP) Lf.ren156:=by
 cases q<;>constructor
 all_goals first|(rw[oa];kernel_rfl)|kernel_rfl|(intro w;kernel_rfl)
theorem Lf.extra156:Builder.Extra (aJ q tP) Lf.ren156:=by
 cases q<;>constructor
 all_goals first|kernel_rfl|(intro w;kernel_rfl)|decide|(constructor<;>first|kernel_rfl|(intro w;kernel_rfl)|decide)
theorem Lf.strings_Join(g o c:Nat)(xs:List ByteArray)(a:ByteArray)(w:World)(b:∀(j:Nat) x,xs[j]?=some x->w.cell? ⟨g,o+j,none⟩=some (.s x))(h:g<w.heap.size)(i:xs.length<=140737488355328)(f:xs.length<=c)(d:(Lib.join (xs.map (·.l)) a.data.toList).length<=140737488355328):
 Calls (aJ q tP) 93 #[.slice (some ⟨g,o,none⟩) xs.length c, .s a] w λe w'=>e= .returned (.string ⟨(Lib.join (xs.map (·.l)) a.data.toList).toArray⟩)/\Bw w w':=Any.strings_Join Lf.lays156 Lf.extra156 g o c xs a w b h i f d
end
section
open Go.Conc Go.RowKit
def ob(n k:Nat):ByteArray:=⟨(da n k).toArray⟩
theorem cE(n k:Nat):(ob n k).size=k:=lr n k
def Bs(n:Nat)(cells:Array Value)(ty:TypeId)(v:Value)(w:World):Prop:=∃p,v= .sk p n n/\w.heap[p]?=some (.cells cells ty)
theorem Bs.mono{cells:Array Value}{ty:TypeId}(h:Bs n cells ty v w)(b:Bw w w'):Bs n cells ty v w':=by obtain⟨p,c,a⟩:=h;exact⟨p,c,(b.block p (gA a).1).trans a⟩
def Bx(N:Nat)(cells:Array Value)(ty:TypeId)(v:Value)(w:World):Prop:=∃p,v= .pk p 0/\N<=p/\w.heap[p]?=some (.cells cells ty)
theorem Bx.mono{cells:Array Value}{ty:TypeId}(h:Bx N cells ty v w)(b:Bw w w'):Bx N cells ty v w':=by obtain⟨p,d,c,a⟩:=h;exact⟨p,d,c,(b.block p (gA a).1).trans a⟩
theorem EL(L:List (List UInt8)):Lib.join L []=L.flatten:=by
 cases L with
 |nil=>rfl
 |cons x r=>rw[Lib.join_cons,Lib.joinTail];simp
end
namespace L1
open Go.Conc Go.RowKit
section
variable{y z u v:Operand}
theorem jh(j k:Nat)(d:(j=0/\k=0)\/(j=1/\k=8)\/(j=2/\k=9))(a:o.op= .fieldAddr 119 x j)(c:ev x= .pk b 0):(execOp ev o).run lT w= .ok (.value (.pk b k)) w:=by
 have e:execOp ev o=(do pure (.value (←BY 119 (.pk b 0) j))):=by simp only[execOp,a,c]
 have f:(do pure (.value (←BY 119 (.pk b 0) j)):Sem Next).run lT w= .ok (.value (.pk b k)) w:=by rcases d with⟨rfl,rfl⟩|⟨rfl,rfl⟩|⟨rfl,rfl⟩<;>kernel_rfl
 rw[e,f]
theorem CF{d c b a:ByteArray}(f:o.op= .buildSlice 43 4 #[(0,x),(1,y),(2,z),(3,u)])(j:ev x= .s d)(g:ev y= .s c)(i:ev z= .s b)(h:ev u= .s a):
 (execOp ev o).run lT w= .ok (.value (.sk w.heap.size 4 4)) (w.alloc (.cells #[.s d, .s c, .s b, .s a] 9)):=by
 have e:execOp ev o=(do pure (.value (←Instr.buildSlice 43 4 #[(0, .s d),(1, .s c),(2, .s b),(3, .s a)]))):=by simp[execOp,f,j,g,i,h]
 have g:(do pure (.value (←Instr.buildSlice 43 4 #[(0, .s d),(1, .s c),(2, .s b),(3, .s a)])):Sem Next).run lT w= .ok (.value (.sk w.heap.size 4 4)) (w.alloc (.cells #[.s d, .s c, .s b, .s a] 9)):=k_
 rw[e,g]
theorem CG{f d c b a:ByteArray}(g:o.op= .buildSlice 43 5 #[(0,x),(1,y),(2,z),(3,u),(4,v)])(l:ev x= .s f)(h:ev y= .s d)(k:ev z= .s c)(j:ev u= .s b)(i:ev v= .s a):
 (execOp ev o).run lT w= .ok (.value (.sk w.heap.size 5 5)) (w.alloc (.cells #[.s f, .s d, .s c, .s b, .s a] 9)):=by
 have e:execOp ev o=(do pure (.value (←Instr.buildSlice 43 5 #[(0, .s f),(1, .s d),(2, .s c),(3, .s b),(4, .s a)]))):=by simp[execOp,g,l,h,k,j,i]
 have h:(do pure (.value (←Instr.buildSlice 43 5 #[(0, .s f),(1, .s d),(2, .s c),(3, .s b),(4, .s a)])):Sem Next).run lT w= .ok (.value (.sk w.heap.size 5 5)) (w.alloc (.cells #[.s f, .s d, .s c, .s b, .s a] 9)):=k_
 rw[e,h]
theorem pU(KS:List Int)(a:List ByteArray)(i:Array Value)(w:World)(p n:Nat)(f:i=(a.map Value.string).toArray)(l:n=a.length)(j:w.heap[p]?=some (.cells i 9))(o:w.rangeAt 0 0 (aM KS))(g:KS.length=64)(c:(a.flatMap λp=>p.data.toList).length<=576460752303423488)(d:a.length<=10):
 Calls lT 91 #[.sk p n n] w λe w'=>∃v,e= .returned v/\v= .string ⟨(dU KS (a.flatMap λp=>p.data.toList)).toArray⟩/\Bw w w':=by
 subst l;subst f;have b:ey a a.length=a.flatMap λp=>p.data.toList:=by simp[ey]
 refine(GE KS a a.length w p (gA j).1 (λk m=> ?_) o g (by rw[b];exact c) o_).mono λe w' h=>⟨_,h.1,by rw[b],h.2⟩;rw[aH j];simp[m]
end
theorem Fi(s:dw):∀i,i<8->s.cells[i]?=s.key[i]?:=by intro i a;rcases(o_:i=0\/i=1\/i=2\/i=3\/i=4\/i=5\/i=6\/i=7)with rfl|rfl|rfl|rfl|rfl|rfl|rfl|rfl<;>rfl
theorem eH(KS:List Int)(L:List UInt8):(⟨(dU KS L).toArray⟩:ByteArray).size=32:=by show(dU KS L).toArray.size=32;simp[dU]
def N8(s:dw)(wd sh n q N:Nat)(msg Qb:ByteArray):Nat->Value->World->Prop
 |0,v,_=>v= .pk N 0
 |1,v,_=>v= .agg s.key
 |2,v,_=>v= .pk N 0
 |3,v,_=>v= .pk N 2
 |4,v,_=>v= .string (s.id)
 |5,v,_=>v= .string (ob q 4)
 |6,v,_=>v= .string (ob 33153 2)
 |7,v,_=>v= .pk N 9
 |8,v,_=>v= .string (s.salt)
 |9,v,_=>v= .string (msg)
 |10,v,w=>Bs 5 #[.string s.id, .string (ob q 4), .string (ob 33153 2), .string s.salt, .string msg] 9 v w
 |11,v,_=>v= .string Qb
 |12,v,w=>ij n (λc=>dl (ib Qb.data.toList wd sh) wd c) v w
 |_,v,w=>ij n (λc=>dl (ib Qb.data.toList wd sh) wd c) v w
theorem EV{s:dw}{wd sh q:Nat}{Qb:ByteArray}(k:Nat)(v:Value)(w w':World)(a:N8 s wd sh n q N msg Qb k v w)(b:Bw w w'):N8 s wd sh n q N msg Qb k v w':=by
 match k,a with
 |0,a|1,a|2,a|3,a|4,a|5,a|6,a|7,a|8,a|9,a=>exact a
 |10,a=>exact Bs.mono a b
 |11,a=>exact a
 |12,a=>exact ij.mono a b
 |k+13,a=>exact ij.mono a b
theorem K4{s:dw}{wd sh q:Nat}{Qb:ByteArray}(z:Qb=⟨(dU KS ([s.id,ob q 4,ob 33153 2,s.salt,msg].flatMap λp=>p.data.toList)).toArray⟩)(O:KS.length=64)(V:qn wd)(C:s.width=wd)(I:s.shift=sh)(t:sh<=8)(X:s.count=n)(L:1<=n)(J:n<=34*(8/wd))(y:([s.id,ob q 4,ob 33153 2,s.salt,msg].flatMap λp=>p.data.toList).length<=576460752303423488)(hK:w.rangeAt 0 0 (aM KS))(h0:0<w.heap.size)(r:w.heap[N]?=some (.cells s.cells 119))
 (Q:Has [(1, .s (msg)),(2, .pt N),(5, .s (ob q 4))] 81 ds a)
 (next:∀a w',(Bw w w'/\∃v,ij n (λc=>dl (ib Qb.data.toList wd sh) wd c) v w'/\Has [(6,v),(1, .s msg),(2, .pt N),(5, .s (ob q 4))] 81 ds a)->Rn lT Goal (fr.atR a K) cs w'):
 Rn lT Goal (fr.atR a (.code (rD Tryz.f71 2)::K)) cs w:=by
 refine Rn.grows (fx:=[(1, .s (msg)),(2, .pt N),(5, .s (ob q 4))]) (ds:=[17,18,19,20,21,22,23,24,25,26,27,28,29,6]) (N:=81) (df:=ds) (G:=N8 s wd sh n q N msg Qb) k_ k_ EV (λm o a w' S f T l b=> ?_)
  (λm a w'=>m=14/\Bw w w'/\∃v,ij n (λc=>dl (ib Qb.data.toList wd sh) wd c) v w'/\Has [(6,v),(1, .s msg),(2, .pt N),(5, .s (ob q 4))] 81 ds a) (λa w' A=> ?_) (λm o a w' R S f M Z=> ?_) (λa w' M=> ?_) Q.defers Q.size (Q.all s_)
 ·have j:=(T.block N (gA r).1).trans r;have Y:m<14:=S;rcases(o_:m=0\/m=1\/m=2\/m=3\/m=4\/m=5\/m=6\/m=7\/m=8\/m=9\/m=10\/m=11\/m=12\/m=13)with rfl|rfl|rfl|rfl|rfl|rfl|rfl|rfl|rfl|rfl|rfl|rfl|rfl|rfl
  ·have d:=oS f;exact aF (jh 0 0 d_ d (aA (l _ (mG (i:=1) rfl)))) ⟨rfl,bR⟩
  ·have d:=oS f;obtain⟨u,g,rfl⟩:=nE b 0 17;exact aF (iy (s:=s) d (aA g) j (Fi s)) ⟨rfl,bR⟩
  ·have d:=oS f;exact aF (jh 0 0 d_ d (aA (l _ (mG (i:=1) rfl)))) ⟨rfl,bR⟩
  ·have d:=oS f;obtain⟨u,g,rfl⟩:=nE b 2 19;exact aF (eG 2 d_ d (aA g)) ⟨rfl,bR⟩
  ·have d:=oS f;obtain⟨u,g,rfl⟩:=nE b 3 20;exact aF (aN bA d (aA g) ((aH j 2).trans rfl)).1 ⟨rfl,bR⟩
  ·have d:=oS f;exact mp (.inl d) (l _ (mG (i:=2) rfl)) ⟨rfl,bR⟩
  ·have d:=oS f;have x:=bG (w:=w') d (show(#[Operand.const (.i 33153)]:Array Operand).map a.eval=#[.i ((33153:Nat):Int)]from by simp;rfl) (rI (P:=aJ true tP) Lf.func92 _);exact .inr ⟨_,_,x.1,(nP 33153 d_ w').mono λe B h=>⟨_,h.1,rfl,h.2⟩⟩
  ·have d:=oS f;exact aF (jh 2 9 d_ d (aA (l _ (mG (i:=1) rfl)))) ⟨rfl,bR⟩
  ·have d:=oS f;obtain⟨u,g,rfl⟩:=nE b 7 24;exact aF (aN bA d (aA g) ((aH j 9).trans rfl)).1 ⟨rfl,bR⟩
  ·have d:=oS f;exact mp (.inl d) (l _ (mG (i:=0) rfl)) ⟨rfl,bR⟩
  ·have d:=oS f;obtain⟨u0,H,rfl⟩:=nE b 4 21;obtain⟨u1,F,rfl⟩:=nE b 5 22;obtain⟨U,k,rfl⟩:=nE b 6 23;obtain⟨u3,E,rfl⟩:=nE b 8 25;obtain⟨u4,D,rfl⟩:=nE b 9 26;exact aF (CG d (aA H) (aA F) (aA k) (aA E) (aA D)) ⟨⟨w'.heap.size,rfl,aP w' _⟩,PK w' _⟩
  ·have d:=oS f;obtain⟨u,g,p,rfl,W⟩:=nE b 10 27;have x:=bG (w:=w') d (show(#[Operand.tmp 27]:Array Operand).map a.eval=#[.sk p 5 5]from by simp[aA g]) (rI (P:=aJ true tP) Lf.func91 _);exact .inr ⟨_,_,x.1,(pU KS [s.id,ob q 4,ob 33153 2,s.salt,msg] _ w' p 5 rfl rfl W (Pq h0 T hK) O y s_).mono λe B ⟨v,h1,h2,h3⟩=>⟨v,h1,h2.trans (by rw[z]),h3⟩⟩
  ·have d:=oS f;obtain⟨u,g,rfl⟩:=nE b 1 18;obtain⟨U,k,rfl⟩:=nE b 11 28;have x:=bG (w:=w') d (show(#[Operand.tmp 18, .tmp 28]:Array Operand).map a.eval=#[.agg s.key, .s Qb]from by simp[aA g,aA k]) (rI (P:=aJ true tP) Lf.func90 _);exact .inr ⟨_,_,x.1,xA s wd sh n Qb w' V C I t X L J (by rw[z];exact eH KS _)⟩
  ·have d:=oS f;obtain⟨u,g,A⟩:=nE b 12 29;exact mp (.inr d) g ⟨A,bR⟩
 ·obtain⟨u,g,k⟩:=A.come 13 6 rfl trivial;exact⟨rfl,A.old,u,k,A.base.more g⟩
 ·exact absurd (gA f).1 (by obtain⟨rfl,_⟩:=M;decide)
 ·exact next a w' M.2
theorem F3(KS:List Int)(s:dw)(dg:Nat->Int)(n:Nat):Lib.join (((Q8 n).map λc=>ki KS s c (dg c) (s.links.extract (c*32) ((c+1)*32))).map (·.l)) ([]:List UInt8)=lB KS s dg n:=by rw[EL,lB,List.flatMap_def,List.map_map];rfl
theorem wm(KS:List Int)(a:List UInt8):∀(n j:Nat) (x:List UInt8),x.length=32->(jc KS a n j x).length=32
 |0,_,_,h=>h
 |n+1,j,_,_=>wm KS a n (j+1) _ (pC _ _ _ _)
theorem JY(KS:List Int)(s:dw)(c:Nat)(d:Int)(link:ByteArray)(h:link.size=32):(ki KS s c d link).data.toList.length=32:=by
 have a:link.data.toList.length=32:=by simpa using h
 simpa[ki]using wm KS (jM s c) (cU s.width.toNat- d.toNat) d.toNat link.data.toList a
theorem ue(KS:List Int)(s:dw)(dg:Nat->Int):∀n,n*32<=s.links.size->(lB KS s dg n).length=32*n
 |0,_=>by simp[lB]
 |n+1,h=>by have a:=ue KS s dg n o_;have b:=JY KS s n (dg n) (s.links.extract (n*32) ((n+1)*32)) (by rw[ByteArray.size_extract];omega);unfold lB at a⊢;rw[Sb,List.flatMap_append,List.length_append,a,List.flatMap_singleton,b];omega
def N7(KS:List Int)(s:dw)(n q N:Nat)(dg:Nat->Nat)(vg:Value)(En Xn:ByteArray):Nat->Value->World->Prop
 |0,v,_=>v= .pk N 0
 |1,v,_=>v= .pk N 2
 |2,v,_=>v= .string (s.id)
 |3,v,_=>v= .string (ob q 4)
 |4,v,_=>v= .string (ob 32896 2)
 |5,v,_=>v= .agg s.cells
 |6,v,_=>v=vg
 |7,v,w=>Bs n (Array.ofFn λc:Fin n=>wW KS s (λc=>(dg c:Nat)) c.val) 9 v w
 |8,v,_=>v= .string En
 |9,v,w=>Bs 4 #[.string s.id, .string (ob q 4), .string (ob 32896 2), .string En] 9 v w
 |10,v,_=>v= .string Xn
 |_,v,_=>v= .string Xn
theorem EU{s:dw}{q:Nat}{dg:Nat->Nat}{b:Value}{En Xn:ByteArray}(k:Nat)(v:Value)(w w':World)(a:N7 KS s n q N dg b En Xn k v w)(c:Bw w w'):N7 KS s n q N dg b En Xn k v w':=by
 match k,a with
 |0,a|1,a|2,a|3,a|4,a|5,a|6,a=>exact a
 |7,a=>exact Bs.mono a c
 |8,a=>exact a
 |9,a=>exact Bs.mono a c
 |10,a|k+11,a=>exact a
theorem K3{s:dw}{q:Nat}{dg:Nat->Nat}{D:Value}{En Xn:ByteArray}(a1:En=⟨(lB KS s (λc=>(dg c:Nat)) n).toArray⟩)(hX:Xn=⟨(dU KS ([s.id,ob q 4,ob 32896 2,En].flatMap λp=>p.data.toList)).toArray⟩)(I:KS.length=64)(Q:0<=s.width/\s.width<9)(U:0<=s.q/\s.q<4294967296)(X:s.id.size<65536)(hn:s.count=n)(W:1<=n)(V:n<65537)(E:n*32<=s.links.size)(a0:∀c,dg c<256)(F:([s.id,ob q 4,ob 32896 2,En].flatMap λp=>p.data.toList).length<=576460752303423488)(hK:w.rangeAt 0 0 (aM KS))(h0:0<w.heap.size)(C:ij n dg D w)(x:w.heap[N]?=some (.cells s.cells 119))
 (hF:Has [(2, .pt N),(5, .s (ob q 4)),(6,D)] 81 ds a)
 (next:∀a w',(Bw w w'/\Has [(7, .s Xn),(2, .pt N),(5, .s (ob q 4)),(6,D)] 81 ds a)->Rn lT Goal (fr.atR a K) cs w'):
 Rn lT Goal (fr.atR a (.code (rD Tryz.f71 3)::K)) cs w:=by
 refine Rn.grows (fx:=[(2, .pt N),(5, .s (ob q 4)),(6,D)]) (ds:=[30,31,32,33,34,35,36,37,38,39,40,7]) (N:=81) (df:=ds) (G:=N7 KS s n q N dg D En Xn) k_ k_ EU (λm o a w' hm f H t b=> ?_)
  (λm a w'=>m=12/\Bw w w'/\Has [(7, .s Xn),(2, .pt N),(5, .s (ob q 4)),(6,D)] 81 ds a) (λa w' J=> ?_) (λm o a w' a2 hm f hS a5=> ?_) (λa w' hS=> ?_) hF.defers hF.size (hF.all s_)
 ·have l:=(H.block N (gA x).1).trans x;have a3:m<12:=hm;rcases(o_:m=0\/m=1\/m=2\/m=3\/m=4\/m=5\/m=6\/m=7\/m=8\/m=9\/m=10\/m=11)with rfl|rfl|rfl|rfl|rfl|rfl|rfl|rfl|rfl|rfl|rfl|rfl
  ·have d:=oS f;exact aF (jh 0 0 d_ d (aA (t _ (mG (i:=0) rfl)))) ⟨rfl,bR⟩
  ·have d:=oS f;obtain⟨u,g,rfl⟩:=nE b 0 30;exact aF (eG 2 d_ d (aA g)) ⟨rfl,bR⟩
  ·have d:=oS f;obtain⟨u,g,rfl⟩:=nE b 1 31;exact aF (aN bA d (aA g) ((aH l 2).trans rfl)).1 ⟨rfl,bR⟩
  ·have d:=oS f;exact mp (.inl d) (t _ (mG (i:=1) rfl)) ⟨rfl,bR⟩
  ·have d:=oS f;have B:=bG (w:=w') d (show(#[Operand.const (.i 32896)]:Array Operand).map a.eval=#[.i ((32896:Nat):Int)]from by simp;rfl) (rI (P:=aJ true tP) Lf.func92 _);exact .inr ⟨_,_,B.1,(nP 32896 d_ w').mono λe A h=>⟨_,h.1,rfl,h.2⟩⟩
  ·have d:=oS f;exact aF (l6 (ex:=#[]) d (aA (t _ (mG (i:=0) rfl))) (by rw[Array.append_empty];exact l)).1 ⟨rfl,bR⟩
  ·have d:=oS f;exact mp (.inl d) (t _ (mG (i:=2) rfl)) ⟨rfl,bR⟩
  ·have d:=oS f;obtain⟨u,g,rfl⟩:=nE b 5 35;obtain⟨u2,k,rfl⟩:=nE b 6 36;obtain⟨gb,z,rfl,Y,Z⟩:=C.mono H;have B:=bG (w:=w') d (show(#[Operand.tmp 35, .tmp 36]:Array Operand).map a.eval=#[.agg s.cells, .sk gb n z]from by simp[aA g,aA k]) (rI (P:=aJ true tP) rU _);exact .inr ⟨_,_,B.1,(HI KS I s n gb n z (λc=>(dg c:Nat)) w' (Pq h0 H hK) (T7 h0 H.size) hn W V Q U X E Y (T6 _) (λc hc=>⟨⟨o_,by have:=a0 c;omega⟩,Z c hc⟩)).mono λe A ⟨bL,h1,h2,h3⟩=>⟨_,h1,⟨bL,rfl,h2⟩,h3⟩⟩
  ·have d:=oS f;obtain⟨u,g,p,rfl,L⟩:=nE b 7 37;have B:=bG (w:=w') d (show(#[Operand.tmp 37, .const (.string ⟨#[]⟩)]:Array Operand).map a.eval=#[.sk p n n, .string ⟨#[]⟩]from by simp[aA g];rfl) (rI (P:=aJ true tP) Lf.func93 _);refine .inr ⟨_,_,B.1, ?_⟩;have M:=F3 KS s (λc=>(dg c:Nat)) n;have a4:=ue KS s (λc=>(dg c:Nat)) n E;have r:((Q8 n).map λc=>ki KS s c ((dg c:Nat):Int) (s.links.extract (c*32) ((c+1)*32))).length=n:=s_;have hJ:=Lf.strings_Join (q:=true) p 0 n ((Q8 n).map λc=>ki KS s c ((dg c:Nat):Int) (s.links.extract (c*32) ((c+1)*32))) ⟨#[]⟩ w' (λj y O=>by have M:j<n:=(by have:=(Tf.1 O).1;rw[r]at this;exact this);rw[IS,aH L];simp[M]at O⊢;rw[←O];rfl) (gA L).1 (by rw[r];omega) (by rw[r];exact T6 _) (by rw[M];omega)
   rw[r,M]at hJ;exact hJ.mono λe A h=>⟨_,h.1,congrArg Value.string a1.symm,h.2⟩
  ·have d:=oS f;obtain⟨u0,T,rfl⟩:=nE b 2 32;obtain⟨u1,S,rfl⟩:=nE b 3 33;obtain⟨u2,k,rfl⟩:=nE b 4 34;obtain⟨u3,R,rfl⟩:=nE b 8 38;exact aF (CF d (aA T) (aA S) (aA k) (aA R)) ⟨⟨w'.heap.size,rfl,aP w' _⟩,PK w' _⟩
  ·have d:=oS f;obtain⟨u,g,p,rfl,L⟩:=nE b 9 39;have B:=bG (w:=w') d (show(#[Operand.tmp 39]:Array Operand).map a.eval=#[.sk p 4 4]from by simp[aA g]) (rI (P:=aJ true tP) Lf.func91 _);exact .inr ⟨_,_,B.1,(pU KS [s.id,ob q 4,ob 32896 2,En] _ w' p 4 rfl rfl L (Pq h0 H hK) I F s_).mono λe A ⟨v,h1,h2,h3⟩=>⟨v,h1,h2.trans (by rw[hX]),h3⟩⟩
  ·have d:=oS f;obtain⟨u,g,J⟩:=nE b 10 40;exact mp (.inr d) g ⟨J,bR⟩
 ·obtain⟨u,g,k⟩:=J.come 11 7 rfl trivial;obtain rfl:=k;exact⟨rfl,J.old,J.base.more g⟩
 ·exact absurd (gA f).1 (by obtain⟨rfl,_⟩:=hS;decide)
 ·exact next a w' hS.2
def N6(N h q H2:Nat):Nat->Value->World->Prop
 |0,v,_=>v= .pk N 0
 |1,v,_=>v= .pk N 4
 |2,v,_=>v= .int .i64 h
 |3,v,_=>v= .int .i64 (H2:Int)
 |4,v,_=>v= .pk N 8
 |5,v,_=>v= .int .i64 q
 |6,v,_=>v= .int .i64 ((H2+q:Nat):Int)
 |_,v,_=>v= .int .i64 ((H2+q:Nat):Int)
theorem ET{h q H2:Nat}(k:Nat)(v:Value)(w w':World)(a:N6 N h q H2 k v w)(_:Bw w w'):N6 N h q H2 k v w':=by
 match k,a with
 |0,a|1,a|2,a|3,a|4,a|5,a|6,a|k+7,a=>exact a
theorem K2{s:dw}{h q H2:Nat}{p:Value}(t:H2=2^h)(F:s.height=h)(E:h<=8)(J:H2<=256)(C:s.q=q)(B:q<4294967296)(g:w.heap[N]?=some (.cells s.cells 119))
 (x:Has [(2, .pt N),(7,p)] 81 ds a)
 (next:∀a w',(Bw w w'/\Has [(8, .i ((H2+q:Nat):Int)),(2, .pt N),(7,p)] 81 ds a)->Rn lT Goal (fr.atR a K) cs w'):
 Rn lT Goal (fr.atR a (.code (rD Tryz.f71 4)::K)) cs w:=by
 refine Rn.grows (fx:=[(2, .pt N),(7,p)]) (ds:=[41,42,43,44,45,46,47,8]) (N:=81) (df:=ds) (G:=N6 N h q H2) k_ k_ ET (λm o a w' A f I l b=> ?_)
  (λm a w'=>m=8/\Bw w w'/\Has [(8, .i ((H2+q:Nat):Int)),(2, .pt N),(7,p)] 81 ds a) (λa w' n=> ?_) (λm o a w' y A f r H=> ?_) (λa w' r=> ?_) x.defers x.size (x.all s_)
 ·have e:=(I.block N (gA g).1).trans g;have D:m<8:=A;rcases(o_:m=0\/m=1\/m=2\/m=3\/m=4\/m=5\/m=6\/m=7)with rfl|rfl|rfl|rfl|rfl|rfl|rfl|rfl
  ·have c:=oS f;exact aF (jh 0 0 d_ c (aA (l _ (mG (i:=0) rfl)))) ⟨rfl,bR⟩
  ·have c:=oS f;obtain⟨u,d,rfl⟩:=nE b 0 41;exact aF (eG 4 d_ c (aA d)) ⟨rfl,bR⟩
  ·have c:=oS f;obtain⟨u,d,rfl⟩:=nE b 1 42;exact aF (aN (v:= .i h) cq c (aA d) ((aH e 4).trans (by rw[←F];rfl))).1 ⟨rfl,bR⟩
  ·have c:=oS f;obtain⟨u,d,rfl⟩:=nE b 2 43;have z:(1:Int)*2^h=(H2:Int):=(by rw[Int.one_mul,t,Q1];rfl);refine aF (iz (m:=1) (k:=h) c rfl (aA d) o_ (by rw[z];omega)) ⟨?_,bR⟩;rw[z];rfl
  ·have c:=oS f;exact aF (jh 1 8 d_ c (aA (l _ (mG (i:=0) rfl)))) ⟨rfl,bR⟩
  ·have c:=oS f;obtain⟨u,d,rfl⟩:=nE b 4 45;exact aF (aN (v:= .i q) cq c (aA d) ((aH e 8).trans (by rw[←C];rfl))).1 ⟨rfl,bR⟩
  ·have c:=oS f;obtain⟨u,d,rfl⟩:=nE b 3 44;obtain⟨L,j,rfl⟩:=nE b 5 46;refine aF (iA c (aA d) (aA j) o_) ⟨?_,bR⟩;rw[←Int.natCast_add];rfl
  ·have c:=oS f;obtain⟨u,d,n⟩:=nE b 6 47;exact mp (.inr c) d ⟨n,bR⟩
 ·obtain⟨u,d,j⟩:=n.come 7 8 rfl trivial;obtain rfl:=j;exact⟨rfl,n.old,n.base.more d⟩
 ·exact absurd (gA f).1 (by obtain⟨rfl,_⟩:=r;decide)
 ·exact next a w' r.2
end L1
end Go.Proofs.YtkmoglhgkcnalaaGreatDoor
