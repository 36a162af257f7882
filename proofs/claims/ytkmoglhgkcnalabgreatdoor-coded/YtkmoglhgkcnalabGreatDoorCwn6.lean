/- A part of what the last text of the claim imports: texts laid together, and made small, by a program. -/
import Derived.Laws.Panics
import Derived.Test.YtkmoglhgkcnalabGreatDoorProg
import Derived.Conc.WgGenN3
import Derived.Test.YtkmoglhgkcnalabGreatDoorCwn5
set_option maxHeartbeats 16000000
set_option maxRecDepth 100000
open Array renaming getElem?_eq_getElem->a4_,getElem?_setIfInBounds_self_of_lt->a40,replicate->a41,getD_eq_getD_getElem?->a43,getElem?_replicate->Fh,getElem?_append_left->Pk,ofFn->Wn,ext->Wq
open Bool renaming false_eq_true->a45
open ByteArray renaming size_extract->a52
open Go.Act renaming put->Rf
open Go.Builtin renaming len_->Pr
open Go.Conc.Lib renaming WgLink->Z3,WgLib->Zh
open Go.ConcR.Gen renaming body_wait->Yu,body_add->YG
open Go.Frame renaming enter->a49,finish_atR->BR,eval_atR->Iu,round->OX
open Go.Instr renaming loadAt->a47,fieldAt->a53,alloc->Ee,field->Ef,buildSlice->Fi,sureAddr->NK,makeSlice->Po
open Go.IntKind renaming wrap_i64->a5_,i64->A8,u64->LX,wrap_u64->PQ
open Go.Item renaming code->Ws
open Go.Next renaming value->Z0
open Go.Operand renaming tmp->Ft
open Go.Region renaming wanted->a39,linearise->Bt,schedule->Nu,departs->YN
open Go.Result renaming andThen_ok->Vp,ok->XQ
open Go.Sem renaming run_bind->K8
open Go.Value renaming agg->Wa
open Go.World renaming cell?->AB,setCell->BO,frozen?->Hv
open Int renaming natCast_add->NY,toNat_of_nonneg->R1,toNat_natCast->VC,natCast_mul->VI,not_lt->ZT
open List renaming lookup->a51,not_mem_nil->Af,mem_cons->AI,mem_toArray->MB
open Nat renaming le_refl->a36,lt_of_lt_of_le->a38,zero_add->a46,mod_one->ZB
open Option renaming bind_some->Hk
namespace Go.Proofs.YtkmoglhgkcnalabGreatDoor
open Go
variable{n b i N l m k j b3 b4 b7 b9 Wg wd:Nat}{w w' w0 wL wM wE:World}{fr:Frame}{v:Value}{cs:List Frame}{args cv:Array Value}{V RO D V0:Nat->Prop}{q main listen ql:Bool}{g:Goroutine}{a:Act}{K:List Item}{P PL PM:Program}{x:Operand}{ops:Array Oper}{KS:List Int}{t u:TypeId}{o:Oper}{f:FuncId}{es:Array Event}{Goal:Goroutine->World->Prop}{fn:Func}{rest:List Nat}{ds:List Deferred}{X:bS}{F:List (Nat×Value)}{e:Event}{listed:Array Bool}{c:Int}{s msg key sig:ByteArray}{ρ:Nat->Nat}{ev:Operand->Value}{Post:Value->World->Prop}
namespace L1
open Go.Proofs.YtkmoglhgkcnalabGreatDoor
section

open Go.RowKit
theorem Nl(n:Nat)(c:n<9223372036854775808)(w:World):
 Calls (aI ql tP) 134 #[.i n] w λe w'=>e= .returned (.string ⟨(cQ n 1).toArray⟩)/\Bw w w':=by
 have b:LX.wrap (n:Int)=n:=by rw[PQ];omega
 go_enter Lf.func134,Tryz.ntmps134
 go_wp2_with (go_at_call 68;refine(pI n 1 _ o_).mono ?_;rintro e w' ⟨rfl,a⟩)
 go_ret
 exact⟨rfl,a⟩
theorem lX(n:Nat)(c:n<9223372036854775808)(w:World):
 Calls (aI ql tP) 64 #[.i n] w λe w'=>e= .returned (.string ⟨(cQ n 2).toArray⟩)/\Bw w w':=by
 have b:LX.wrap (n:Int)=n:=by rw[PQ];omega
 go_enter Lf.func64,Tryz.ntmps64
 go_wp2_with (go_at_call 68;refine(pI n 2 _ o_).mono ?_;rintro e w' ⟨rfl,a⟩)
 go_ret
 exact⟨rfl,a⟩
theorem t3(n:Nat)(c:n<9223372036854775808)(w:World):
 Calls (aI ql tP) 102 #[.i n] w λe w'=>e= .returned (.string ⟨(cQ n 4).toArray⟩)/\Bw w w':=by
 have b:LX.wrap (n:Int)=n:=by rw[PQ];omega
 go_enter Lf.func102,Tryz.ntmps102
 go_wp2_with (go_at_call 68;refine(pI n 4 _ o_).mono ?_;rintro e w' ⟨rfl,a⟩)
 go_ret
 exact⟨rfl,a⟩
theorem Dy(s:dk)(n:Nat)(b:s.width=n)(c:n<=8)(w:World):
 Calls (aI ql tP) 108 #[.agg s.key] w λe w'=>e= .returned (.i (eB n))/\Bw w w':=by
 have a:n=0\/n=1\/n=2\/n=3\/n=4\/n=5\/n=6\/n=7\/n=8:=o_
 unfold dk.key;rw[b];rcases a with rfl|rfl|rfl|rfl|rfl|rfl|rfl|rfl|rfl
 all_goals
  go_enter Lf.func108,Tryz.ntmps108
  go_wp2
  go_ret
  exact⟨by simp[eB],aZ w _⟩
end
section

open Go Go.Conc Go.RowKit
theorem Pw:Tryz.f114.body=some (.seq (rG Tryz.f114 0) (.seq (rD Tryz.f114 1) (.seq (.seq (rG Tryz.f114 2)
 (.block 0 (.rangeFunc (.tmp 24) #[25] (rG Tryz.f114 3) (.block 1 (rD Tryz.f114 4))))) (.seq (rG Tryz.f114 5) .ret)))):=k_
theorem F9(a:Array Value)(d:Int)(w:World):
 Calls (aI ql tP) 133 #[.agg a, .i d] w λe w'=>e= .returned (.func (.func 144) #[] #[.pk (w.heap.size+1) 0, .pk w.heap.size 0])/\w'=(w.alloc (.cells a 145)).alloc (.cells #[.i d] 3):=by
 go_enter Lf.func133,Tryz.ntmps133
 go_wp2
 go_ret
 exact⟨s_,rfl⟩
section
variable{s:dk}{y:Operand}
theorem Qo(a:o.op= .fieldAddr 145 x 2)(c:ev x= .pk b 0):Yl (aI ql tP) ev o w (.pk b 2) #[]:=by
 have e:execOp ev o=(do pure (.value (←a53 145 (.pk b 0) 2))):=by simp only[execOp,a,c]
 unfold Yl;rw[e];constructor<;>kernel_rfl
theorem RQ(a:o.op= .fieldAddr 149 x 1)(c:ev x= .pk b 0):Yl (aI ql tP) ev o w (.pk b 8) #[]:=by
 have e:execOp ev o=(do pure (.value (←a53 149 (.pk b 0) 1))):=by simp only[execOp,a,c]
 unfold Yl;rw[e];constructor<;>kernel_rfl
theorem ir{cs:Array Value}(c:o.op= .load 145 x)(n:ev x= .pk b 0)(h:w.heap[b]?=some (.cells cs t))(a:∀i,i<8->cs[i]?=s.key[i]?):(execOp ev o).run (aI ql tP) w= .ok (.value (.agg s.key)) w:=by
 have q:(isAgg 145).run (aI ql tP) w= .ok true w:=k_
 have p:=aK h;have m:=a 0 d_;have l:=a 1 d_;have k:=a 2 d_;have j:=a 3 d_;have g:=a 4 d_;have f:=a 5 d_;have e:=a 6 d_;have d:=a 7 d_;simp[dk.key]at m l k j g f e d;simp[execOp,c,n,a47,loadVar,q,loadCells,loadCellsFrom,Addr.add,p,m,l,k,j,g,f,e,d,dk.key,go_sem]
theorem bI{t u:ByteArray}{z:TypeId}(a:o.op= .binOp .add 9 x y z)(c:ev x= .s t)(b:ev y= .s u)(h:t.size+u.size<=9223372036854775807):(execOp ev o).run (aI ql tP) w= .ok (.value (.s (t++u))) w:=by simp[execOp,a,c,b,h,go_sem]
theorem rf(a:o.op= .alloc 9):Mk (aI ql tP) ev o w #[.string ⟨#[]⟩] 9:=by
 have e:execOp ev o=(do pure (.value (←Ee 9 true (.tuple #[])))):=by simp only[execOp,a]
 unfold Mk;rw[e];constructor<;>kernel_rfl
end
end
section

open Go Go.Conc Go.RowKit
theorem Vb:Ev (bX Tryz.f114 1)=true:=k_
section
variable{s:dk}{d:Int}{k:List Item}
theorem S3{link:ByteArray}(D:Dr s i d link)(h4:w.heap[b4]?=some (.cells s.cells 149))(hF:∀p∈Lo b4 b7 i d,a.tmps[p.1]?=some p.2)(hz:33<=a.tmps.size)(a3:a.defers=[])
 (next:∀a' w' b9,aW [(9, .pt b9),(1, .i i),(2, .i d),(4, .pt b4),(7, .pt b7)] 33 [] a'->Bw w w'->w.heap.size<=b9->w'.heap[b9]?=some (.cells #[.s (AR s i)] 9)->Rn (aI ql tP) Goal ((base 114).atR a' k) cs w'):
 Rn (aI ql tP) Goal ((base 114).atR a (.code (rD Tryz.f114 1)::k)) cs w:=by
 have hq:(s.q.toNat:Int)=s.q:=R1 D.q.1;have a5:=D.q.2;refine Rn.draw λt=> ?_;have O:Nu (((aI ql tP)).follows .mixedOrders) (bX Tryz.f114 1) t=Bt .any (bX Tryz.f114 1) t:=by unfold Nu;rw[show YN (bX Tryz.f114 1)=false from k_];simp
 rw[O];refine Rn.ordered (CY Vb) (λf a w'=>gu (Lo b4 b7 i d) (F2 s b4 i) 33 f a/\Bw w w'/\Al w (AR s i) 9 f a w'/\(f[11]?=some true->∀n,n<11->f[n]?=some true)) (λf a w' M h=> ?_) (λf a w' m o L a4 g hm j h r=> ?_) t a _ ⟨⟨a3,hz,hF,λp H hl=> ?_⟩,jS w,λh=> ?_,λh=> ?_⟩
 ·obtain⟨z,E,I,u⟩:=h;obtain⟨p,K,H,x,N,W⟩:=I (M 10 d_);rw[W (M 11 d_)]at N;refine Rn.p rfl (next a w' p ⟨z.defers,z.size,λe v J=> ?_⟩ E H N);by_cases q9:e=9
  ·subst q9;simp only[a51,beq_self_eq_true,Option.some.injEq]at J;subst J;exact K
  by_cases q1:e=1
  ·subst q1;simp[a51]at J;subst J;exact z.fixed _ (mG (i:=0) rfl)
  by_cases q2:e=2
  ·subst q2;simp[a51]at J;subst J;exact z.fixed _ (mG (i:=1) rfl)
  by_cases q4:e=4
  ·subst q4;simp[a51]at J;subst J;exact z.fixed _ (mG (i:=2) rfl)
  by_cases q7:e=7
  ·subst q7;simp[a51]at J;subst J;exact z.fixed _ (mG (i:=3) rfl)
  simp[a51,show(e==9)=false from by simpa using q9,show(e==1)=false from by simpa using q1,show(e==2)=false from by simpa using q2,show(e==4)=false from by simpa using q4,show(e==7)=false from by simpa using q7]at J
 ·obtain⟨z,E,I,u⟩:=h;have a6:m<12:=(gA g).1;have T:w'.heap[b4]?=some (.cells s.cells 149):=(E.block b4 (gA h4).1).trans h4;have G:w.heap.size<=w'.heap.size:=E.size;have l:∀{m:Nat} {o:Oper} {e:Nat} (v:Value),(m,e,v)∈F2 s b4 i->o.dst=some e->(∀y,a39 o y=true)->(∀c,o.op≠ .defer c)->(m≠10/\m≠11)->e≠9->(bX Tryz.f114 1)[m]?=some o->(execOp a.eval o).run (aI ql tP) w'= .ok (.value v) w'->
   (∀a' C,gu (Lo b4 b7 i d) (F2 s b4 i) 33 (f.setIfInBounds m true) a'/\Bw w C/\Al w (AR s i) 9 (f.setIfInBounds m true) a' C/\((f.setIfInBounds m true)[11]?=some true->∀n,n<11->(f.setIfInBounds m true)[n]?=some true)->Rn (aI ql tP) Goal ((base 114).atR a' (.inRegion (bX Tryz.f114 1) L::k)) cs C)->
   Rn (aI ql tP) Goal ((base 114).atR a (.inRegion (bX Tryz.f114 1) (m::L)::k)) cs w':=λ{m o e} v S B A a0 Q a2 g V r=>by refine Rn.ran g (A _) a0 V ?_;rw[B];exact r _ _ ⟨NV z S,E,I.step Q a2 (bR),nw Q.2 u⟩
  rcases(o_:m=0\/m=1\/m=2\/m=3\/m=4\/m=5\/m=6\/m=7\/m=8\/m=9\/m=10\/m=11)with rfl|rfl|rfl|rfl|rfl|rfl|rfl|rfl|rfl|rfl|rfl|rfl
  ·obtain⟨B,q,A⟩:=cC (d:=some 11) (p:= .fieldAddr 149 (.tmp 4) 0) g k_;refine l (m:=0) _ (mG (i:=0) rfl) B A (by rw[q];simp) d_ d_ g ?_ r;exact(tn q (aD (z.fixed _ (mG (i:=2) rfl)))).1
  ·obtain⟨B,q,A⟩:=cC (d:=some 12) (p:= .fieldAddr 145 (.tmp 11) 2) g k_;refine l (m:=1) _ (mG (i:=1) rfl) B A (by rw[q];simp) d_ d_ g ?_ r;exact(Qo q (aD (z.come _ (mG (i:=0) rfl) (p5 (n:=1) (k:=0) k_ g j)))).1
  ·obtain⟨B,q,A⟩:=cC (d:=some 13) (p:= .load 9 (.tmp 12)) g k_;refine l (m:=2) _ (mG (i:=2) rfl) B A (by rw[q];simp) d_ d_ g ?_ r;exact(aP bM q (aD (z.come _ (mG (i:=1) rfl) (p5 (n:=2) (k:=1) k_ g j))) (by rw[aK T];rfl)).1
  ·obtain⟨B,q,A⟩:=cC (d:=some 14) (p:= .fieldAddr 149 (.tmp 4) 1) g k_;refine l (m:=3) _ (mG (i:=3) rfl) B A (by rw[q];simp) d_ d_ g ?_ r;exact(RQ q (aD (z.fixed _ (mG (i:=2) rfl)))).1
  ·obtain⟨B,q,A⟩:=cC (d:=some 15) (p:= .load 3 (.tmp 14)) g k_;refine l (m:=4) _ (mG (i:=4) rfl) B A (by rw[q];simp) d_ d_ g ?_ r;exact(aP cp q (aD (z.come _ (mG (i:=3) rfl) (p5 (n:=4) (k:=3) k_ g j))) (by rw[aK T];show some (Value.i s.q)=_;rw[hq])).1
  ·obtain⟨B,q,A⟩:=cC (d:=some 16) (p:= .call {callee:= .value (.func 102),args:=#[.tmp 15],argTypes:=#[3]}) g k_;have a1:=(aD (z.come _ (mG (i:=4) rfl) (p5 (n:=5) (k:=4) k_ g j)));have Z:=bU (w:=w') q (show(#[Ft 15]:Array Operand).map a.eval=#[.i s.q.toNat]from by simp[a1]) (dq (P:=(aI ql tP)) Lf.func102 k_ k_ _);refine Rn.call g (A _) (by rw[q];simp) Z.1 (R:=λv C=>v= .string ⟨(cQ s.q.toNat 4).toArray⟩/\Bw w' C) ?_ λv C X=> ?_
   ·refine(t3 s.q.toNat o_ w').mono ?_;rintro e C ⟨rfl,hb⟩;exact⟨_,rfl,rfl,hb⟩
   ·obtain⟨rfl,F⟩:=X;rw[B];exact r _ _ ⟨NV z (mG (i:=5) rfl),aB E G F,I.step d_ d_ F,nw d_ u⟩
  ·obtain⟨B,q,A⟩:=cC (d:=some 17) (p:= .binOp .add 9 (.tmp 13) (.tmp 16) 9) g k_;refine l (m:=6) _ (mG (i:=6) rfl) B A (by rw[q];simp) d_ d_ g ?_ r;exact bI q (aD (z.come _ (mG (i:=2) rfl) (p5 (n:=6) (k:=2) k_ g j))) (aD (z.come _ (mG (i:=5) rfl) (p5 (n:=6) (k:=5) k_ g j))) (by rw[lB];have:=D.id;omega)
  ·obtain⟨B,q,A⟩:=cC (d:=some 18) (p:= .move (.tmp 1)) g k_;refine l (m:=7) _ (mG (i:=7) rfl) B A (by rw[q];simp) d_ d_ g ?_ r;have V:=(cz (ev:=a.eval) (o:=o) (w:=w') (aI ql tP) (.inl q)).1;rw[(aD (z.fixed _ (mG (i:=0) rfl)))]at V;exact V
  ·obtain⟨B,q,A⟩:=cC (d:=some 19) (p:= .call {callee:= .value (.func 64),args:=#[.tmp 18],argTypes:=#[3]}) g k_;have a1:=(aD (z.come _ (mG (i:=7) rfl) (p5 (n:=8) (k:=7) k_ g j)));have Z:=bU (w:=w') q (show(#[Ft 18]:Array Operand).map a.eval=#[.i i]from by simp[a1]) (dq (P:=(aI ql tP)) Lf.func64 k_ k_ _);refine Rn.call g (A _) (by rw[q];simp) Z.1 (R:=λv C=>v= .string ⟨(cQ i 2).toArray⟩/\Bw w' C) ?_ λv C X=> ?_
   ·refine(lX i (by have:=D.i;omega) w').mono ?_;rintro e C ⟨rfl,hb⟩;exact⟨_,rfl,rfl,hb⟩
   ·obtain⟨rfl,F⟩:=X;rw[B];exact r _ _ ⟨NV z (mG (i:=8) rfl),aB E G F,I.step d_ d_ F,nw d_ u⟩
  ·obtain⟨B,q,A⟩:=cC (d:=some 20) (p:= .binOp .add 9 (.tmp 17) (.tmp 19) 9) g k_;refine l (m:=9) _ (mG (i:=9) rfl) B A (by rw[q];simp) d_ d_ g ?_ r;exact bI q (aD (z.come _ (mG (i:=6) rfl) (p5 (n:=9) (k:=6) k_ g j))) (aD (z.come _ (mG (i:=8) rfl) (p5 (n:=9) (k:=8) k_ g j))) (by rw[ByteArray.size_append,lB,lB];have:=D.id;omega)
  ·obtain⟨B,q,A⟩:=cC (d:=some 9) (p:= .alloc 9) g k_;refine Rn.ran g (A _) (by rw[q];simp) (rf q).1 ?_;rw[B];refine r _ _ ⟨z.aside (λp H=> ?_) (λp H=> ?_),aB E G (aZ w' _),λ_=>⟨w'.heap.size, ?_,G,_,bJ w' _,λU=> ?_⟩,nw d_ u⟩
   ·simp only[Lo,AI,Af,or_false]at H;rcases H with rfl|rfl|rfl|rfl<;>simp
   ·simp only[F2,AI,Af,or_false]at H;rcases H with rfl|rfl|rfl|rfl|rfl|rfl|rfl|rfl|rfl|rfl<;>simp
   ·exact a40 (a38 d_ z.size)
   ·rw[sN d_]at U;exact absurd (u U 10 d_) (by rw[hm];simp)
  ·obtain⟨B,q,A⟩:=cC (d:=none) (p:= .store 9 (.tmp 9) (.tmp 20)) g k_;obtain⟨p,K,H,x,N,_⟩:=I (p5 (n:=11) (k:=10) k_ g j);have Y:=eK (ql:=ql) (w:=w') (b:=p) (k:=0) (v:= .s (AR s i)) (v0:= .s x) rfl rfl k_ q (aD K) (aD (z.come _ (mG (i:=9) rfl) (p5 (n:=11) (k:=9) k_ g j))) (by rw[aK N];rfl) (by unfold Hv;rw[show w'.heap[(⟨p,0,none⟩:Addr).block]?=_ from N];simp);refine Rn.did g (A _) (by rw[q];simp) Y.1 ?_;rw[B];refine r _ _ ⟨z.pass (λp H=> ?_) _,E.trans (ea w' _ _ H),λ_=>⟨p,K,H,_,jv N,λ_=>rfl⟩,λ_ n hn=> ?_⟩
   ·simp only[F2,AI,Af,or_false]at H;rcases H with rfl|rfl|rfl|rfl|rfl|rfl|rfl|rfl|rfl|rfl<;>simp
   ·rw[sN o_];exact uJ g j k_ n hn
 ·simp[Fh]at hl
 ·simp[Fh]at h
 ·simp[Fh]at h
end
end
section

open Go Go.Conc Go.RowKit
theorem Rk:Ev (bX Tryz.f114 4)=true:=k_
theorem Fq{y z:Operand}{t u v:ByteArray}(a:o.op= .buildSlice 25 3 #[(0,x),(1,y),(2,z)])(d:ev x= .s t)(c:ev y= .s u)(b:ev z= .s v):
 (execOp ev o).run (aI ql tP) w= .ok (.value (.sk w.heap.size 3 3)) (w.alloc (.cells #[.s t, .s u, .s v] 9)):=by
 have e:execOp ev o=(do pure (.value (←Fi 25 3 #[(0, .s t),(1, .s u),(2, .s v)]))):=by simp[execOp,a,d,c,b]
 have f:(do pure (.value (←Fi 25 3 #[(0, .s t),(1, .s u),(2, .s v)])):Sem Next).run (aI ql tP) w= .ok (.value (.sk w.heap.size 3 3)) (w.alloc (.cells #[.s t, .s u, .s v] 9)):=k_
 rw[e,f]
section
variable{s:dk}{x:List UInt8}{k:List Item}
theorem V4(a6:KS.length=64)(a9:s.id.size<65536)(hj:j<256)(hx:x.length=32)(hK:w.rangeAt 0 0 (aH KS))(h0:0<w.heap.size)(h7:w.heap[b7]?=some (.cells #[.string ⟨x.toArray⟩] 9))(h9:w.heap[b9]?=some (.cells #[.s (AR s i)] 9))
 (hF:∀p∈vm b7 b9 j,a.tmps[p.1]?=some p.2) (hz:33<=a.tmps.size) (a4:a.defers=[])
 (next:∀a' w1,Bw w w1->Rn (aI ql tP) Goal ((rb 114 l).atR a' k) cs (w1.setCell ⟨b7,0,none⟩ (.string ⟨(kj KS (jE s i) j x).toArray⟩))):
 Rn (aI ql tP) Goal ((rb 114 l).atR a (.code (rD Tryz.f114 4)::k)) cs w:=by
 refine Rn.draw λt=> ?_;have V:Nu (((aI ql tP)).follows .mixedOrders) (bX Tryz.f114 4) t=Bt .any (bX Tryz.f114 4) t:=by unfold Nu;rw[show YN (bX Tryz.f114 4)=false from k_];simp
 rw[V];refine Rn.ordered (CY Rk) (λf a g=>gu (vm b7 b9 j) (pJ s i j x) 33 f a/\Rv w b7 (.string ⟨(kj KS (jE s i) j x).toArray⟩) f g/\A4 #[.s (AR s i), .string ⟨(cQ j 1).toArray⟩, .string ⟨x.toArray⟩] 9 f a g/\A5 (.string ⟨(kj KS (jE s i) j x).toArray⟩) f a/\(f[6]?=some true->∀n,n<6->f[n]?=some true))
  (λf a g Z h=> ?_) (λf a g m o S a0 q hm z h C=> ?_) t a _ ⟨⟨a4,hz,hF,λp A hl=> ?_⟩, .inl ⟨by rfl,jS w⟩,λh=> ?_,λh=> ?_,λh=> ?_⟩
 ·obtain⟨F,O,_⟩:=h;rcases O with⟨J,_⟩|⟨_,w1,a5,rfl⟩
  ·rw[Z 6 d_]at J;cases J
  ·exact Rn.p rfl (next a w1 a5)
 ·obtain⟨F,O,N,M,u⟩:=h;have X:m<7:=(gA q).1;have J:m<7->f[6]?=some false:=λ_=>by
   rcases O with⟨J,_⟩|⟨J,_⟩
   ·exact J
   ·exfalso;by_cases e:m=6
    ·subst e;rw[hm]at J;cases J
    ·have:=u J m o_;rw[hm]at this;cases this
  have D:Bw w g:=by
   rcases O with⟨_,Y⟩|⟨h,_⟩
   ·exact Y
   ·rw[J X]at h;cases h
  have Q:g.heap[b7]?=some (.cells #[.string ⟨x.toArray⟩] 9):=(D.block b7 (gA h7).1).trans h7;have a7:g.heap[b9]?=some (.cells #[.s (AR s i)] 9):=(D.block b9 (gA h9).1).trans h9;have K:w.heap.size<=g.heap.size:=D.size;have G:∀{m:Nat} {o:Oper} {e:Nat} (v:Value),(m,e,v)∈pJ s i j x->o.dst=some e->(∀y,a39 o y=true)->(∀c,o.op≠ .defer c)->(m≠4/\m≠5/\m≠6)->(e≠30/\e≠31)->(bX Tryz.f114 4)[m]?=some o->(execOp a.eval o).run (aI ql tP) g= .ok (.value v) g->
   (∀a' r,gu (vm b7 b9 j) (pJ s i j x) 33 (f.setIfInBounds m true) a'/\Rv w b7 (.string ⟨(kj KS (jE s i) j x).toArray⟩) (f.setIfInBounds m true) r/\A4 #[.s (AR s i), .string ⟨(cQ j 1).toArray⟩, .string ⟨x.toArray⟩] 9 (f.setIfInBounds m true) a' r/\A5 (.string ⟨(kj KS (jE s i) j x).toArray⟩) (f.setIfInBounds m true) a'/\((f.setIfInBounds m true)[6]?=some true->∀n,n<6->(f.setIfInBounds m true)[n]?=some true)->
    Rn (aI ql tP) Goal ((rb 114 l).atR a' (.inRegion (bX Tryz.f114 4) S::k)) cs r)->
   Rn (aI ql tP) Goal ((rb 114 l).atR a (.inRegion (bX Tryz.f114 4) (m::S)::k)) cs g:=λ{m o e} v W I H a3 U he q hy C=>by refine Rn.ran q (H _) a3 hy ?_;rw[I];exact C _ _ ⟨MA F W, .inl ⟨by rw[sN U.2.2];exact J X,D⟩,N.step U.1 he.1 (bR),M.step U.2.1 he.2,nw U.2.2 u⟩
  rcases(o_:m=0\/m=1\/m=2\/m=3\/m=4\/m=5\/m=6)with rfl|rfl|rfl|rfl|rfl|rfl|rfl
  ·obtain⟨I,B,H⟩:=cC (d:=some 26) (p:= .load 9 (.tmp 9)) q k_;refine G (m:=0) _ (mG (i:=0) rfl) I H (by rw[B];simp) ⟨d_,d_,d_⟩ ⟨d_,d_⟩ q ?_ C;exact(aP bM B (aD (F.fixed _ (mG (i:=1) rfl))) (by rw[aK a7];rfl)).1
  ·obtain⟨I,B,H⟩:=cC (d:=some 27) (p:= .move (.tmp 10)) q k_;refine G (m:=1) _ (mG (i:=1) rfl) I H (by rw[B];simp) ⟨d_,d_,d_⟩ ⟨d_,d_⟩ q ?_ C;have hy:=(cz (ev:=a.eval) (o:=o) (w:=g) (aI ql tP) (.inl B)).1;rw[(aD (F.fixed _ (mG (i:=2) rfl)))]at hy;exact hy
  ·obtain⟨I,B,H⟩:=cC (d:=some 28) (p:= .call {callee:= .value (.func 134),args:=#[.tmp 27],argTypes:=#[3]}) q k_;have a1:=(aD (F.come _ (mG (i:=1) rfl) (p5 (n:=2) (k:=1) k_ q z)));have hr:=bU (w:=g) B (show(#[Ft 27]:Array Operand).map a.eval=#[.i j]from by simp[a1]) (dq (P:=(aI ql tP)) Lf.func134 k_ k_ _);refine Rn.call q (H _) (by rw[B];simp) hr.1 (R:=λv r=>v= .string ⟨(cQ j 1).toArray⟩/\Bw g r) ?_ λv r hv=> ?_
   ·refine(Nl j o_ g).mono ?_;rintro e r ⟨rfl,Y⟩;exact⟨_,rfl,rfl,Y⟩
   ·obtain⟨rfl,E⟩:=hv;rw[I];exact C _ _ ⟨MA F (mG (i:=2) rfl), .inl ⟨by rw[sN d_];exact J d_,aB D K E⟩,N.step d_ d_ E,M.step d_ d_,nw d_ u⟩
  ·obtain⟨I,B,H⟩:=cC (d:=some 29) (p:= .load 9 (.tmp 7)) q k_;refine G (m:=3) _ (mG (i:=3) rfl) I H (by rw[B];simp) ⟨d_,d_,d_⟩ ⟨d_,d_⟩ q ?_ C;exact(aP bM B (aD (F.fixed _ (mG (i:=0) rfl))) (by rw[aK Q];rfl)).1
  ·obtain⟨I,B,H⟩:=cC (d:=some 30) (p:= .buildSlice 25 3 #[(0, .tmp 26),(1, .tmp 28),(2, .tmp 29)]) q k_;refine Rn.ran q (H _) (by rw[B];simp) (Fq B (aD (F.come _ (mG (i:=0) rfl) (p5 (n:=4) (k:=0) k_ q z))) (aD (F.come _ (mG (i:=2) rfl) (p5 (n:=4) (k:=2) k_ q z))) (aD (F.come _ (mG (i:=3) rfl) (p5 (n:=4) (k:=3) k_ q z)))) ?_;rw[I];refine C _ _ ⟨F.aside (λp A=> ?_) (λp A=> ?_), .inl ⟨by rw[sN d_];exact J d_,aB D K (aZ g _)⟩,λ_=>⟨g.heap.size, ?_,bJ g _⟩,M.step d_ d_,nw d_ u⟩
   ·simp only[vm,AI,Af,or_false]at A;rcases A with rfl|rfl|rfl<;>simp
   ·simp only[pJ,AI,Af,or_false]at A;rcases A with rfl|rfl|rfl|rfl<;>simp
   ·exact a40 (a38 d_ F.size)
  ·obtain⟨I,B,H⟩:=cC (d:=some 31) (p:= .call {callee:= .value (.func 28),args:=#[.tmp 30],argTypes:=#[25]}) q k_;obtain⟨p,L,A⟩:=N (p5 (n:=5) (k:=4) k_ q z);have a1:=aD L;have hr:=bU (w:=g) B (show(#[Ft 30]:Array Operand).map a.eval=#[.sk p 3 3]from by simp[a1]) (dq (P:=(aI ql tP)) Lf.func28 k_ k_ _);refine Rn.call q (H _) (by rw[B];simp) hr.1 (R:=λv r=>v= .string ⟨(kj KS (jE s i) j x).toArray⟩/\Bw g r) ?_ λv r hv=> ?_
   ·have T:dP [AR s i,⟨(cQ j 1).toArray⟩,⟨x.toArray⟩] 3=jE s i++cQ j 1++x:=(by simp[dP,Jl]);have a8:(jE s i++cQ j 1++x).length<=65600:=by have:s.id.data.toList.length=s.id.size:=s_;simp[jE,cU,hx];omega
    refine(Cd KS [AR s i,⟨(cQ j 1).toArray⟩,⟨x.toArray⟩] 3 g p (gA A).1 (λk hk=> ?_) (aS D h0 hK) a6 (by rw[show[AR s i,⟨(cQ j 1).toArray⟩,(⟨x.toArray⟩:ByteArray)].length=3 from rfl,T];omega) s_).mono ?_
    ·rw[aK A];have h3:k=0\/k=1\/k=2:=(by simp at hk;omega);rcases h3 with rfl|rfl|rfl<;>rfl
    ·rintro e r ⟨rfl,Y⟩;refine⟨_,rfl, ?_,Y⟩;rw[show[AR s i,⟨(cQ j 1).toArray⟩,(⟨x.toArray⟩:ByteArray)].length=3 from rfl,T];rfl
   ·obtain⟨rfl,E⟩:=hv;rw[I];refine C _ _ ⟨F.aside (λp A=> ?_) (λp A=> ?_), .inl ⟨by rw[sN d_];exact J d_,aB D K E⟩,N.step d_ d_ E,λ_=> ?_,nw d_ u⟩
    ·simp only[vm,AI,Af,or_false]at A;rcases A with rfl|rfl|rfl<;>simp
    ·simp only[pJ,AI,Af,or_false]at A;rcases A with rfl|rfl|rfl|rfl<;>simp
    ·exact a40 (a38 d_ F.size)
  ·obtain⟨I,B,H⟩:=cC (d:=none) (p:= .store 9 (.tmp 7) (.tmp 31)) q k_;have a2:=eK (ql:=ql) (w:=g) (b:=b7) (k:=0) (v:= .string ⟨(kj KS (jE s i) j x).toArray⟩) (v0:= .string ⟨x.toArray⟩) rfl rfl k_ B (aD (F.fixed _ (mG (i:=0) rfl))) (aD (M (p5 (n:=6) (k:=5) k_ q z))) (by rw[aK Q];rfl) (by unfold Hv;rw[show g.heap[(⟨b7,0,none⟩:Addr).block]?=_ from Q];simp);refine Rn.did q (H _) (by rw[B];simp) a2.1 ?_;rw[I];refine C _ _ ⟨F.pass (λp A=> ?_) _, .inr ⟨a40 (by rw[a0];decide),g,D,rfl⟩,λh4=> ?_,λh5=> ?_,λ_ n U=> ?_⟩
   ·simp only[pJ,AI,Af,or_false]at A;rcases A with rfl|rfl|rfl|rfl<;>simp
   ·rw[sN d_]at h4;obtain⟨p,L,A⟩:=N h4;refine⟨p,L,(cx g _ (λe=> ?_)).trans A⟩;have e:p=b7:=e;subst e;rw[Q]at A;cases A
   ·rw[sN d_]at h5;exact M h5
   ·rw[sN o_];exact uJ q z k_ n U
 ·simp[Fh]at hl
 ·simp[Fh]at h
 ·simp[Fh]at h
 ·simp[Fh]at h
end
end
section

open Go Go.Conc Go.RowKit
theorem M4:Tryz.f144.body=some (.seq (rG Tryz.f144 0) (.block 0 (.loop (mq Tryz.f144)))):=k_
section
variable{s:dk}{k2 ld:Nat}{x:List UInt8}{T:Array Value}{cf:Frame}
theorem Km(hKl:KS.length=64)(hid:s.id.size<65536)(hK:w0.rangeAt 0 0 (aH KS))(h0:0<w0.heap.size)(hT:aW [(7, .pt b7),(9, .pt b9)] 33 [] ⟨T,[]⟩)(hf:xu b7 b9 k2 l ld w0)(hj:j<256)(hx:x.length=32)
 (hC:Ch s i b7 b9 k2 l ld (TC Tryz.f114 114 T ld) 9 145 w0 .ready x w)
 (next:∀w',Ch s i b7 b9 k2 l ld (TC Tryz.f114 114 T ld) 9 145 w0 .ready (kj KS (jE s i) j x) w'->Rn (aI ql tP) Goal (cf.finish (.bool true)) cs w'):
 Rn (aI ql tP) Goal (OX l 114 (((#[25]:Array Tmp).zip #[.i j]).foldl (λtmps (t,a)=>tmps.setIfInBounds t a) T) (rG Tryz.f114 3) (.block 1 (rD Tryz.f114 4)) .normal) (cf::cs) w:=by
 have hF:=hT.put (d:=25) d_ (.i j);have ez:((#[25]:Array Tmp).zip #[.i j]).foldl (λ(tmps:Array Value) (x:Tmp×Value)=>match x with|(t,a)=>tmps.setIfInBounds t a) T=T.setIfInBounds 25 (.i j):=s_
 rw[ez];show Rn _ Goal ((rb 114 l).atR (Rf ⟨T,[]⟩ (some 25) (.i j)) [.code (rG Tryz.f114 3), .beginRound, .code (.block 1 (rD Tryz.f114 4))]) (cf::cs) w;revert hF;generalize Rf ⟨T,[]⟩ (some 25) (.i j)=a;intro hF;have m0:=λo (ho:o.op= .assign (.tmp 25))=>(cz (ev:=a.eval) (o:=o) (w:=w) (aI ql tP) (.inr ho)).1;rw[hF.G 25]at m0;refine Rn.r (L:=[0]) rfl (Rn.op hF 10 (.assign (.tmp 25)) d_ k_ s_ m0 λa hF=> ?_);refine Rn.p rfl (Rn.rounds (r:=TC Tryz.f114 114 T ld .ready) rfl hC.loop rfl ?_);have hC1:=hC.turn hf .busy;have hs1:=hC1.old.size;refine Rn.p rfl (V4 (b9:=b9) (s:=s) (i:=i) (x:=x) hKl hid hj hx (aS hC1.old h0 hK) (a38 h0 hs1) hC1.seven hC1.nine (λp hp=> ?_) hF.size hF.defers λa' w1 hb1=> ?_)
 ·simp only[vm,AI,Af,or_false]at hp;rcases hp with rfl|rfl|rfl
  ·exact hF.slot 7 _ rfl
  ·exact hF.slot 9 _ rfl
  ·exact hF.slot 10 _ rfl
 have hC2:=(hC1.below hb1).put hf (kj KS (jE s i) j x);exact Rn.p rfl (Rn.through rfl rfl hC2.loop (next _ (hC2.turn hf .ready)))
theorem Hb(hKl:KS.length=64)(hid:s.id.size<65536)(hwd:s.width=n)(hn:n<=8)(ht:eB n<=255)(hK:w0.rangeAt 0 0 (aH KS))(h0:0<w0.heap.size)(hT:aW [(7, .pt b7),(9, .pt b9)] 33 [] ⟨T,[]⟩)(hf:xu b7 b9 k2 l ld w0){fin:List UInt8}
 (hend:∀w',Ch s i b7 b9 k2 l ld (TC Tryz.f114 114 T ld) 9 145 w0 .ready fin w'->Rn (aI ql tP) Goal (cf.finish (.tuple #[])) cs w')
 (j:Nat) (x:List UInt8) (a:Act) (w:World) (hj:j<257) (hx:x.length=32) (hfin:iG KS (jE s i) (eB n- j) j x=fin) (hF:aW [(0, .func (.yield l) #[] #[]),(2, .pt k2),(4, .i j)] 16 [] a)
 (hC:Ch s i b7 b9 k2 l ld (TC Tryz.f114 114 T ld) 9 145 w0 .ready x w)
 (again:j<eB n->∀a w,aW [(0, .func (.yield l) #[] #[]),(2, .pt k2),(4, .i (j+1:Nat))] 16 [] a->Ch s i b7 b9 k2 l ld (TC Tryz.f114 114 T ld) 9 145 w0 .ready (kj KS (jE s i) j x) w->
   Rn (aI ql tP) Goal ((base 144).atR a [.code (mq Tryz.f144), .inLoop (mq Tryz.f144), .inBlock 0]) (cf::cs) w):
 Rn (aI ql tP) Goal ((base 144).atR a [.code (mq Tryz.f144), .inLoop (mq Tryz.f144), .inBlock 0]) (cf::cs) w:=by
 refine Rn.p rfl (Rn.p rfl (Rn.r (L:=[0,1,2,3]) rfl ?_));have m1:=λo (ho:o.op= .move (.tmp 4))=>(cz (ev:=a.eval) (o:=o) (w:=w) (aI ql tP) (.inl ho)).1;rw[hF.G 4]at m1;refine Rn.op hF 6 (.move (.tmp 4)) d_ k_ s_ m1 λa hF=> ?_;refine Rn.op hF 7 (.load 145 (.tmp 2)) d_ k_ s_ (λo ho=>ir (s:=s) ho (hF.G 2) hC.key λ_ _=>rfl) λa hF=> ?_;cases ho:(bX Tryz.f144 1)[2]? with
 |none=>exact absurd ho (by simp;decide)
 |some o=>
 obtain⟨e1,e2,e3⟩:=cC (d:=some 8) (p:= .call {callee:= .value (.func 108),args:=#[.tmp 7],argTypes:=#[145]}) ho k_;have hr:=bU (w:=w) e2 (show(#[Ft 7]:Array Operand).map a.eval=#[.agg s.key]from by simp[hF.G 7]) (dq (P:=(aI ql tP)) Lf.func108 k_ k_ _);refine Rn.call ho (e3 _) (by rw[e2];simp) hr.1 (R:=λv w'=>v= .i (eB n)/\Bw w w') ((Dy s n hwd hn w).mono λe w' h=>⟨_,h.1,rfl,h.2⟩) λv w1 hv=> ?_;obtain⟨rfl,hb1⟩:=hv;rw[e1];have hC:=hC.below hb1;have hF:=hF.put (d:=8) d_ (.i (eB n));revert hF;generalize a.put (some 8) (.i (eB n))=a;intro hF;clear e1 e2 e3 ho hr hb1;refine Rn.op hF 9 (.binOp .lss 3 (.tmp 6) (.tmp 8) 3) d_ k_ s_ (λo ho=>(dw ho (hF.G 6) (hF.G 8)).1) λa hF=> ?_;refine Rn.p rfl (Rn.cond (decide ((j:Int)<eB n)) (hF.G 9) ?_);by_cases hlt:j<eB n
 ·have e:decide ((j:Int)<eB n)=true:=decide_eq_true o_;rw[e];refine Rn.p rfl (Rn.p rfl (Rn.p rfl (Rn.p rfl (Rn.r (L:=[0,1,2,3]) rfl ?_))));have m2:=λo (ho:o.op= .move (.tmp 0))=>(cz (ev:=a.eval) (o:=o) (w:=w1) (aI ql tP) (.inl ho)).1;rw[hF.G 0]at m2;refine Rn.op hF 12 (.move (.tmp 0)) d_ k_ s_ m2 λa hF=> ?_;have m3:=λo (ho:o.op= .move (.tmp 4))=>(cz (ev:=a.eval) (o:=o) (w:=w1) (aI ql tP) (.inl ho)).1;rw[hF.G 4]at m3;refine Rn.op hF 13 (.move (.tmp 4)) d_ k_ s_ m3 λa hF=> ?_;cases ho:(bX Tryz.f144 3)[2]? with
  |none=>exact absurd ho (by simp;decide)
  |some o=>
  obtain⟨e1,e2,e3⟩:=cC (d:=some 14) (p:= .call {callee:= .value (.tmp 12),args:=#[.tmp 13],argTypes:=#[3]}) ho k_;refine Rn.yields (args:=#[.i j]) ho (e3 _) (by rw[e2];simp) hC.loop rfl (λw=>jw e2 (hF.G 12) (by simp[hF.G 13]) w) ?_;refine Km hKl hid hK h0 hT hf o_ hx hC λw2 hC2=> ?_;rw[BR,ho,Hk,e1];have hF:=hF.put (d:=14) d_ (.bool true);revert hF;generalize a.put (some 14) (.bool true)=a;intro hF;clear e1 e2 e3 ho;refine Rn.op hF 15 (.unOp .not 4 (.tmp 14)) d_ k_ s_ (λo ho=>(tl ho (hF.G 14)).1) λa hF=> ?_;refine Rn.p rfl (Rn.cond false (hF.G 15) ?_);refine Rn.p rfl (Rn.p rfl (Rn.r (L:=[0,1,2]) rfl ?_));have m4:=λo (ho:o.op= .move (.tmp 4))=>(cz (ev:=a.eval) (o:=o) (w:=w2) (aI ql tP) (.inl ho)).1;rw[hF.G 4]at m4;refine Rn.op hF 10 (.move (.tmp 4)) d_ k_ s_ m4 λa hF=> ?_;refine Rn.op hF 11 (.binOp .add 3 (.tmp 10) (.const (.i 1)) 3) d_ k_ s_ (λo ho=>(oP (m:=j) (n:=1) ho (hF.G 10) rfl o_).1) λa hF=> ?_;have m5:=λo (ho:o.op= .assign (.tmp 11))=>(cz (ev:=a.eval) (o:=o) (w:=w2) (aI ql tP) (.inr ho)).1;rw[hF.G 11]at m5;refine Rn.op hF 4 (.assign (.tmp 11)) d_ k_ s_ m5 λa hF=> ?_;refine Rn.p rfl (Rn.p rfl (again hlt a w2 ⟨hF.defers,hF.size,λd v hd=> ?_⟩ hC2));have h3:d=0\/d=2\/d=4:=by
   by_cases h0:d=0
   ·exact .inl h0
   ·by_cases h2:d=2
    ·exact .inr (.inl h2)
    ·by_cases h4:d=4
     ·exact .inr (.inr h4)
     ·simp[a51,show(d==0)=false from by simpa using h0,show(d==2)=false from by simpa using h2,show(d==4)=false from by simpa using h4]at hd
  rcases h3 with rfl|rfl|rfl
  ·exact hF.slot 0 v hd
  ·exact hF.slot 2 v hd
  ·refine(hF.slot 4 _ rfl).trans ?_;rw[←hd];simp[a51]
 ·have e:decide ((j:Int)<eB n)=false:=decide_eq_false o_;rw[e];rw[show eB n- j=0 from o_]at hfin;have hfin:x=fin:=hfin;subst hfin;exact Rn.p rfl (Rn.ends rfl (.inl rfl) (Rn.leave (.tuple #[]) rfl hF.defers Lf.func144 (results_none rfl _ _ w1) (events_results_none rfl _ _) (hend w1 hC)))
theorem Oi(hKl:KS.length=64)(hid:s.id.size<65536)(hwd:s.width=n)(hn:n<=8)(hK:w0.rangeAt 0 0 (aH KS))(h0:0<w0.heap.size)(hT:aW [(7, .pt b7),(9, .pt b9)] 33 [] ⟨T,[]⟩)(hf:xu b7 b9 k2 l ld w0){fin:List UInt8}
 (hend:∀w',Ch s i b7 b9 k2 l ld (TC Tryz.f114 114 T ld) 9 145 w0 .ready fin w'->Rn (aI ql tP) Goal (cf.finish (.tuple #[])) cs w'):
 ∀(fuel j:Nat) (x:List UInt8) (a:Act) (w:World),eB n- j<=fuel->j<257->x.length=32->iG KS (jE s i) (eB n- j) j x=fin->aW [(0, .func (.yield l) #[] #[]),(2, .pt k2),(4, .i j)] 16 [] a->
  Ch s i b7 b9 k2 l ld (TC Tryz.f114 114 T ld) 9 145 w0 .ready x w->
  Rn (aI ql tP) Goal ((base 144).atR a [.code (mq Tryz.f144), .inLoop (mq Tryz.f144), .inBlock 0]) (cf::cs) w:=by
 have ht:eB n<=255:=by
  unfold eB;have h8:n=0\/n=1\/n=2\/n=3\/n=4\/n=5\/n=6\/n=7\/n=8:=o_
  rcases h8 with rfl|rfl|rfl|rfl|rfl|rfl|rfl|rfl|rfl<;>decide
 intro fuel;induction fuel with
 |zero=>exact λj x a w hfu hj hx hfin hF hC=>Hb hKl hid hwd hn ht hK h0 hT hf hend j x a w hj hx hfin hF hC λh=>o_
 |succ fuel ih=>exact λj x a w hfu hj hx hfin hF hC=>Hb hKl hid hwd hn ht hK h0 hT hf hend j x a w hj hx hfin hF hC λh a w hF hC=>ih (j+1) _ a w o_ o_ (pK _ _ _ _) (by rw[←TB _ _ _ _ _ h];exact hfin) hF hC
end
end
section

open Go Go.Conc Go.RowKit
theorem Eu(KS:List Int)(s:dk)(i:Nat)(d:Int)(link:ByteArray)(m:Dr s i d link)(w:World)(hK:w.rangeAt 0 0 (aH KS))(K:KS.length=64)(h0:0<w.heap.size):
 Calls (aI ql tP) 114 #[.agg s.cells, .i i, .i d, .s link] w λe w'=>e= .returned (.s (kR KS s i d link))/\Bw w w':=by
 obtain⟨n,hn⟩:∃n:Nat,s.width=n:=⟨s.width.toNat,(R1 m.width.1).symm⟩;obtain⟨j,hj⟩:∃j:Nat,d=j:=⟨d.toNat,(R1 m.d.1).symm⟩;subst hj;have I:n<=8:=by have:=m.width.2;omega
 have J:j<256:=by have:=m.d.2;omega
 refine aT (t:=8) Lf.func114 rfl λcs=> ?_;rw[show(#[.agg s.cells, .i i, .i j, .s link]:Array Value)=[.agg s.cells, .i i, .i j, .s link].toArray from rfl,aV (N:=33) _ Lf.func114 Pw rfl];have b:=aN [.agg s.cells, .i i, .i j, .s link] 33 s_;revert b;generalize (Act.mk (([.agg s.cells, .i i, .i j, .s link]:List Value).toArray++a41 (33-([.agg s.cells, .i i, .i j, .s link]:List Value).toArray.size) undef) [])=a;intro b;refine Rn.p rfl (Rn.r (L:=[0,1,2]) rfl ?_);have b1:=λ(o:Oper) (q:o.op= .box 149 (.tmp 0))=>(mo (ev:=a.eval) (w:=w) (aI ql tP) q).1;rw[b.G 0]at b1;refine Rn.op b 4 (.box 149 (.tmp 0)) d_ k_ s_ b1 λa b=> ?_;have b2:=λ(o:Oper) (q:o.op= .box 9 (.tmp 3))=>(mo (ev:=a.eval) (w:=w.alloc (.cells (Wa s.cells).cells 149)) (aI ql tP) q).1;rw[b.G 3]at b2;refine Rn.op b 7 (.box 9 (.tmp 3)) d_ k_ s_ b2 λa b=> ?_;have G:((w.alloc (.cells (Wa s.cells).cells 149)).alloc (.cells (Value.string link).cells 9)).heap[w.heap.size]?=some (.cells s.cells 149):=(cN _ _ (by rw[aQ];omega)).trans (bJ w _);have S:((w.alloc (.cells (Wa s.cells).cells 149)).alloc (.cells (Value.string link).cells 9)).heap[w.heap.size+1]?=some (.cells #[.s link] 9):=by have:=bJ (w.alloc (.cells (Wa s.cells).cells 149)) (.cells (Value.string link).cells 9);rw[aQ]at this;exact this
 have O:Bw w ((w.alloc (.cells (Wa s.cells).cells 149)).alloc (.cells (Value.string link).cells 9)):=aB (aZ w _) (by rw[aQ];omega) (aZ _ _);have fs:((w.alloc (.cells (Wa s.cells).cells 149)).alloc (.cells (Value.string link).cells 9)).heap.size=w.heap.size+2:=by rw[aQ,aQ]
 rw[aQ]at b;revert G S O fs;generalize (w.alloc (.cells (Wa s.cells).cells 149)).alloc (.cells (Value.string link).cells 9)=w1;intro G S O fs;refine Rn.op b 8 (.assign (.const (.string ⟨#[]⟩))) d_ k_ s_ (λo q=>(cz (ev:=a.eval) (w:=w1) (aI ql tP) (.inr q)).1) λa b=> ?_;refine Rn.p rfl (Rn.p rfl (S3 (s:=s) (i:=i) (d:=j) (b4:=w.heap.size) (b7:=w.heap.size+1) (link:=link) m G (λp hp=> ?_) b.size b.defers λa f b9 b y a1 Q=> ?_))
 ·simp only[Lo,AI,Af,or_false]at hp;rcases hp with rfl|rfl|rfl|rfl
  ·exact b.slot 1 _ rfl
  ·exact b.slot 2 _ rfl
  ·exact b.slot 4 _ rfl
  ·exact b.slot 7 _ rfl
 have g4:=(y.block _ o_).trans G;have g7:=(y.block _ o_).trans S;have gb:=aB O o_ y;have gs:=y.size;refine Rn.p rfl (Rn.p rfl (Rn.r (L:=[0,1,2,3]) rfl ?_));refine Rn.op b 21 (.fieldAddr 149 (.tmp 4) 0) d_ k_ s_ (λo q=>(tn q (b.G 4)).1) λa b=> ?_;refine Rn.op b 22 (.load 145 (.tmp 21)) d_ k_ s_ (λo q=>ir (s:=s) q (b.G 21) g4 (λk hk=> ?_)) λa b=> ?_
 ·have h8:k=0\/k=1\/k=2\/k=3\/k=4\/k=5\/k=6\/k=7:=o_
  rcases h8 with rfl|rfl|rfl|rfl|rfl|rfl|rfl|rfl<;>rfl
 have m1:=λo (q:o.op= .move (.tmp 2))=>(cz (ev:=a.eval) (o:=o) (w:=f) (aI ql tP) (.inl q)).1;rw[b.G 2]at m1;refine Rn.op b 23 (.move (.tmp 2)) d_ k_ s_ m1 λa b=> ?_;cases q:(bX Tryz.f114 2)[3]? with
 |none=>exact absurd q (by simp;decide)
 |some o=>
 obtain⟨e1,U,e3⟩:=cC (d:=some 24) (p:= .call {callee:= .value (.func 133),args:=#[.tmp 22, .tmp 23],argTypes:=#[145,3]}) q k_;have hr:=bU (w:=f) U (show(#[Ft 22, .tmp 23]:Array Operand).map a.eval=#[.agg s.key, .i j]from by simp[b.G 22,b.G 23]) (dq (P:=(aI ql tP)) Lf.func133 k_ k_ _);refine Rn.call q (e3 _) (by rw[U];simp) hr.1 (R:=λv w'=>v= .func (.func 144) #[] #[.pk (f.heap.size+1) 0, .pk f.heap.size 0]/\w'=(f.alloc (.cells s.key 145)).alloc (.cells #[.i j] 3)) ((F9 s.key j f).mono λe w' h=>⟨_,h.1,rfl,h.2⟩) λv c hv=> ?_;obtain⟨rfl,r⟩:=hv;rw[e1];have b:=b.put (d:=24) d_ (.func (.func 144) #[] #[.pk (f.heap.size+1) 0, .pk f.heap.size 0]);revert b;generalize a.put (some 24) (.func (.func 144) #[] #[.pk (f.heap.size+1) 0, .pk f.heap.size 0])=a;intro b;clear e1 U e3 q hr;have H:Bw f c:=by rw[r];exact aB (aZ f _) (by rw[aQ];omega) (aZ _ _)
 have ks:c.heap.size=f.heap.size+2:=by rw[r,aQ,aQ]
 have kk:c.heap[f.heap.size]?=some (.cells s.key 145):=by rw[r];exact(cN _ _ (by rw[aQ];omega)).trans (bJ f _)
 have kd:c.heap[f.heap.size+1]?=some (.cells #[.i j] 3):=by rw[r];have:=bJ (f.alloc (.cells s.key 145)) (.cells #[.i j] 3);rw[aQ]at this;exact this
 have k7:=(H.block _ o_).trans g7;have k9:=(H.block _ (gA Q).1).trans Q;have a0:=(gA Q).1;clear r;refine Rn.p rfl (Rn.p rfl ?_);refine Rn.rangeAs (TC Tryz.f114 114 a.tmps c.heap.size .ready) (args:=[.func (.yield (c.heap.size+1)) #[] #[], .pk (f.heap.size+1) 0, .pk f.heap.size 0].toArray) rfl rfl Lf.func144 k_ k_ (b.G 24) s_ ?_;have u:Bw w (cT c (TC Tryz.f114 114 a.tmps c.heap.size .ready)):=aB (aB gb o_ H) o_ (fZ c _);have M:Ch s i (w.heap.size+1) b9 f.heap.size (c.heap.size+1) c.heap.size (TC Tryz.f114 114 a.tmps c.heap.size) 9 145 w .ready link.data.toList (cT c (TC Tryz.f114 114 a.tmps c.heap.size .ready)):=
  ⟨u,(bK c _ o_).trans (by rw[k7]),(bK c _ o_).trans k9,(bK c _ o_).trans kk,eM c _,eN c _⟩
 have B:xu (w.heap.size+1) b9 f.heap.size (c.heap.size+1) c.heap.size w:=⟨⟨o_,o_,o_⟩,⟨o_,o_,o_,o_⟩,⟨o_,o_,o_⟩⟩;have C:(cT c (TC Tryz.f114 114 a.tmps c.heap.size .ready)).heap[f.heap.size+1]?=some (.cells #[.i j] 3):=(bK c _ o_).trans kd;revert M C u;generalize cT c (TC Tryz.f114 114 a.tmps c.heap.size .ready)=W;intro u M C;rw[aV (N:=16) _ Lf.func144 M4 rfl];have z:=aN [.func (.yield (c.heap.size+1)) #[] #[], .pk (f.heap.size+1) 0, .pk f.heap.size 0] 16 s_;revert z;generalize (Act.mk (([.func (.yield (c.heap.size+1)) #[] #[], .pk (f.heap.size+1) 0, .pk f.heap.size 0]:List Value).toArray++a41 (16-([.func (.yield (c.heap.size+1)) #[] #[], .pk (f.heap.size+1) 0, .pk f.heap.size 0]:List Value).toArray.size) undef) [])=g;intro z;refine Rn.p rfl (Rn.r (L:=[0,1]) rfl ?_);refine Rn.op z 5 (.load 3 (.tmp 1)) d_ k_ s_ (λo q=>(aP (v:= .i j) cp q (z.G 1) (by rw[aK C];rfl)).1) λg z=> ?_;have m2:=λo (q:o.op= .assign (.tmp 5))=>(cz (ev:=g.eval) (o:=o) (w:=W) (aI ql tP) (.inr q)).1;rw[z.G 5]at m2;refine Rn.op z 4 (.assign (.tmp 5)) d_ k_ s_ m2 λg z=> ?_;refine Rn.p rfl (Rn.p rfl (Rn.p rfl ?_));have E:link.data.toList.length=32:=by have:=m.link;simpa using this
 refine Oi (s:=s) (i:=i) (KS:=KS) (n:=n) (T:=a.tmps) (l:=c.heap.size+1) (ld:=c.heap.size) (k2:=f.heap.size) (b7:=w.heap.size+1) (b9:=b9) (w0:=w) K m.id hn I hK h0 ⟨rfl,b.size,λe v A=> ?_⟩ B (fin:=iG KS (jE s i) (eB n- j) j link.data.toList) (λV F=> ?_) (eB n- j) j link.data.toList g W (a36 _) o_ E rfl (z.sub λe v A=> ?_) M
 ·by_cases Y:e=7
  ·subst Y;exact b.slot 7 v A
  by_cases X:e=9
  ·subst X;exact b.slot 9 v A
  simp[a51,show(e==7)=false from by simpa using Y,show(e==9)=false from by simpa using X]at A
 ·show Rn (aI ql tP) _ ((base 114).atR ⟨a.tmps,{target:= .collected c.heap.size,args:=#[]}::a.defers⟩ (.endRangeFunc (c.heap.size+1)::_)) cs V;refine Rn.rangeOver F.loop rfl rfl ?_;have D:=F.turn B .exhausted;have x:aW ((24, .func (.func 144) #[] #[.pk (f.heap.size+1) 0, .pk f.heap.size 0])::(23, .i j)::(22, .agg s.key)::(21, .pt w.heap.size)::[(9, .pt b9),(1, .i i),(2, .i j),(4, .pt w.heap.size),(7, .pt (w.heap.size+1))]) 33 [{target:= .collected c.heap.size,args:=#[]}] ⟨a.tmps,{target:= .collected c.heap.size,args:=#[]}::a.defers⟩:=⟨by rw[b.defers],b.size,b.slot⟩;revert x;generalize (Act.mk a.tmps ({target:= .collected c.heap.size,args:=#[]}::a.defers))=a2;intro x;refine Rn.p rfl (Rn.p rfl (Rn.r (L:=[0,1]) rfl ?_));refine Rn.op x 32 (.load 9 (.tmp 7)) d_ k_ s_ (λo q=>(aP (v:= .string ⟨(iG KS (jE s i) (eB n- j) j link.data.toList).toArray⟩) bM q (x.G 7) ((aK D.seven 0).trans rfl)).1) λa3 x=> ?_;have m3:=λo (q:o.op= .assign (.tmp 32))=>(cz (ev:=a3.eval) (o:=o) (w:=bP V (c.heap.size+1) (TC Tryz.f114 114 a.tmps c.heap.size .exhausted)) (aI ql tP) (.inr q)).1;rw[x.G 32]at m3;refine Rn.op x 8 (.assign (.tmp 32)) d_ k_ s_ m3 λa4 x=> ?_;refine Rn.p rfl (Rn.ends rfl (.inr ⟨_,rfl⟩) (Rn.take (ds:=[]) x.defers D.list (Rn.now ⟨⟨a4.tmps,[]⟩,_, .string ⟨(iG KS (jE s i) (eB n- j) j link.data.toList).toArray⟩,rfl,rfl,x.slot 8 _ rfl, ?_,D.old.trans (fN _ _ o_)⟩)));unfold kR;rw[hn,VC,VC]
 ·by_cases q0:e=0
  ·subst q0;exact A
  by_cases q2:e=2
  ·subst q2;exact A
  by_cases Z:e=4
  ·subst Z;exact A
  simp[a51,show(e==0)=false from by simpa using q0,show(e==2)=false from by simpa using q2,show(e==4)=false from by simpa using Z]at A
end
end L1
namespace L1
open Go.Conc Go.RowKit
def Mn(P:Program)(ev:Operand->Value)(o:Oper)(w:World):Prop:=∃x w',(execOp ev o).run P w= .halt x w'/\((∃s,x= .stuck s)\/x= .unsupported .addressObserved)
theorem Iw(a:o.op=gp n)(b:ev (.tmp n)= .s s):(execOp ev o).run lT w= .ok (.value (.i s.size)) w:=by
 have c:lT.underlying 9=some .string:=k_
 simp[execOp,a,gp,resolve,b,invoke,builtin,Pr,run_underlying c,goInt]
theorem FV(a:o.op=gp n)(b:ev (.tmp n)=v):(∃s:ByteArray,v= .s s/\(execOp ev o).run lT w= .ok (.value (.i s.size)) w)\/Mn lT ev o w:=by
 have c:lT.underlying 9=some .string:=k_
 cases v with
 |string s=>exact .inl ⟨s,rfl,by simp[execOp,a,gp,resolve,b,invoke,builtin,Pr,run_underlying c,goInt]⟩
 |_=>exact .inr ⟨_,w,by simp[execOp,a,gp,resolve,b,invoke,builtin,Pr,run_underlying c];rfl, .inl ⟨_,rfl⟩⟩
theorem FL(a:o.op=gI n c)(b:ev (.tmp n)=v)(d:ev (.const (.i c))= .i c):(∃m:Int,v= .i m/\eX ev o w (.bool (decide (m<c))))\/Mn lT ev o w:=by
 cases v with
 |int k m=>
  by_cases e:k= .i64
  ·subst e;exact .inl ⟨m,rfl,(dw a b d).1⟩
  ·exact .inr ⟨_,w,by simp[execOp,a,gI,b,d,eqGuard,binOp,e];rfl, .inl ⟨_,rfl⟩⟩
 |pointer p=>exact .inr ⟨.unsupported .addressObserved,w,by simp[execOp,a,gI,b,d,eqGuard,binOp], .inr rfl⟩
 |_=>exact .inr ⟨_,w,by simp[execOp,a,gI,b,d,eqGuard,binOp];rfl, .inl ⟨_,rfl⟩⟩
theorem LQ{cs:Array Value}(h:12<=cs.size):∃n m k j i g f e d c b a r,cs=(n::m::k::j::i::g::f::e::d::c::b::a::r:List Value).toArray:=by
 obtain⟨l⟩:=cs
 match l,h with
 |n::m::k::j::i::g::f::e::d::c::b::a::r,_=>exact⟨n,m,k,j,i,g,f,e,d,c,b,a,r,rfl⟩
theorem CB(a:o.op= .field 149 x 4)(b:ev x=v):(∃cs:Array Value,v= .agg cs/\12<=cs.size/\∃u,(execOp ev o).run lT w= .ok (.value u) w)\/Mn lT ev o w:=by
 have k:∃e,lT.underlying 149=some (.struct e)/\∃f,e[4]?=some f/\f.type=9/\f.offset=11:=⟨_,(bY _).trans Tryz.underlying149,_,rfl,rfl,rfl⟩;obtain⟨e,c,f,d,g,i⟩:=k;have j:(isAgg 9).run lT w= .ok false w:=k_
 cases v with
 |agg cs=>
  by_cases h:12<=cs.size
  ·refine .inl ⟨cs,rfl,h,cs[11], ?_⟩;simp[execOp,a,b,Ef,run_underlying c,d,part,asAgg,g,i,j,a4_ (show 11<cs.size by omega)]
  ·refine .inr ⟨.stuck "part: no such cell",w, ?_, .inl ⟨_,rfl⟩⟩;simp[execOp,a,b,Ef,run_underlying c,d,part,asAgg,g,i,j,Array.getElem?_eq_none (show cs.size<=11 by omega)]
 |_=>exact .inr ⟨_,w,by simp[execOp,a,b,Ef,run_underlying c,d,asAgg];rfl, .inl ⟨_,rfl⟩⟩
section
variable{c0 c1 c2 c3 c4 c5 c6 c7 c8 c9 c10 c11:Value}
theorem fs0(a:o.op= .field 149 x 0)(b:ev x= .agg #[c0,c1,c2,c3,c4,c5,c6,c7,c8,c9,c10,c11]):(execOp ev o).run lT w= .ok (.value (.agg #[c0,c1,c2,c3,c4,c5,c6,c7])) w:=by
 have e:execOp ev o=(do pure (.value (←Ef 149 (.agg #[c0,c1,c2,c3,c4,c5,c6,c7,c8,c9,c10,c11]) 0))):=by simp only[execOp,a,b]
 have c:(do pure (.value (←Ef 149 (.agg #[c0,c1,c2,c3,c4,c5,c6,c7,c8,c9,c10,c11]) 0)):Sem Next).run lT w= .ok (.value (.agg #[c0,c1,c2,c3,c4,c5,c6,c7])) w:=k_
 rw[e,c]
theorem fs1(a:o.op= .field 149 x 1)(b:ev x= .agg #[c0,c1,c2,c3,c4,c5,c6,c7,c8,c9,c10,c11]):(execOp ev o).run lT w= .ok (.value c8) w:=by
 have e:execOp ev o=(do pure (.value (←Ef 149 (.agg #[c0,c1,c2,c3,c4,c5,c6,c7,c8,c9,c10,c11]) 1))):=by simp only[execOp,a,b]
 have c:(do pure (.value (←Ef 149 (.agg #[c0,c1,c2,c3,c4,c5,c6,c7,c8,c9,c10,c11]) 1)):Sem Next).run lT w= .ok (.value c8) w:=k_
 rw[e,c]
theorem fs2(a:o.op= .field 149 x 2)(b:ev x= .agg #[c0,c1,c2,c3,c4,c5,c6,c7,c8,c9,c10,c11]):(execOp ev o).run lT w= .ok (.value c9) w:=by
 have e:execOp ev o=(do pure (.value (←Ef 149 (.agg #[c0,c1,c2,c3,c4,c5,c6,c7,c8,c9,c10,c11]) 2))):=by simp only[execOp,a,b]
 have c:(do pure (.value (←Ef 149 (.agg #[c0,c1,c2,c3,c4,c5,c6,c7,c8,c9,c10,c11]) 2)):Sem Next).run lT w= .ok (.value c9) w:=k_
 rw[e,c]
theorem fs3(a:o.op= .field 149 x 3)(b:ev x= .agg #[c0,c1,c2,c3,c4,c5,c6,c7,c8,c9,c10,c11]):(execOp ev o).run lT w= .ok (.value c10) w:=by
 have e:execOp ev o=(do pure (.value (←Ef 149 (.agg #[c0,c1,c2,c3,c4,c5,c6,c7,c8,c9,c10,c11]) 3))):=by simp only[execOp,a,b]
 have c:(do pure (.value (←Ef 149 (.agg #[c0,c1,c2,c3,c4,c5,c6,c7,c8,c9,c10,c11]) 3)):Sem Next).run lT w= .ok (.value c10) w:=k_
 rw[e,c]
theorem Sw(a:o.op= .field 149 x 4)(b:ev x= .agg #[c0,c1,c2,c3,c4,c5,c6,c7,c8,c9,c10,c11]):(execOp ev o).run lT w= .ok (.value c11) w:=by
 have e:execOp ev o=(do pure (.value (←Ef 149 (.agg #[c0,c1,c2,c3,c4,c5,c6,c7,c8,c9,c10,c11]) 4))):=by simp only[execOp,a,b]
 have c:(do pure (.value (←Ef 149 (.agg #[c0,c1,c2,c3,c4,c5,c6,c7,c8,c9,c10,c11]) 4)):Sem Next).run lT w= .ok (.value c11) w:=k_
 rw[e,c]
theorem fk0(a:o.op= .field 145 x 0)(b:ev x= .agg #[c0,c1,c2,c3,c4,c5,c6,c7]):(execOp ev o).run lT w= .ok (.value c0) w:=by
 have e:execOp ev o=(do pure (.value (←Ef 145 (.agg #[c0,c1,c2,c3,c4,c5,c6,c7]) 0))):=by simp only[execOp,a,b]
 have c:(do pure (.value (←Ef 145 (.agg #[c0,c1,c2,c3,c4,c5,c6,c7]) 0)):Sem Next).run lT w= .ok (.value c0) w:=k_
 rw[e,c]
theorem fk1(a:o.op= .field 145 x 1)(b:ev x= .agg #[c0,c1,c2,c3,c4,c5,c6,c7]):(execOp ev o).run lT w= .ok (.value c1) w:=by
 have e:execOp ev o=(do pure (.value (←Ef 145 (.agg #[c0,c1,c2,c3,c4,c5,c6,c7]) 1))):=by simp only[execOp,a,b]
 have c:(do pure (.value (←Ef 145 (.agg #[c0,c1,c2,c3,c4,c5,c6,c7]) 1)):Sem Next).run lT w= .ok (.value c1) w:=k_
 rw[e,c]
theorem fk2(a:o.op= .field 145 x 2)(b:ev x= .agg #[c0,c1,c2,c3,c4,c5,c6,c7]):(execOp ev o).run lT w= .ok (.value c2) w:=by
 have e:execOp ev o=(do pure (.value (←Ef 145 (.agg #[c0,c1,c2,c3,c4,c5,c6,c7]) 2))):=by simp only[execOp,a,b]
 have c:(do pure (.value (←Ef 145 (.agg #[c0,c1,c2,c3,c4,c5,c6,c7]) 2)):Sem Next).run lT w= .ok (.value c2) w:=k_
 rw[e,c]
theorem fk3(a:o.op= .field 145 x 3)(b:ev x= .agg #[c0,c1,c2,c3,c4,c5,c6,c7]):(execOp ev o).run lT w= .ok (.value c3) w:=by
 have e:execOp ev o=(do pure (.value (←Ef 145 (.agg #[c0,c1,c2,c3,c4,c5,c6,c7]) 3))):=by simp only[execOp,a,b]
 have c:(do pure (.value (←Ef 145 (.agg #[c0,c1,c2,c3,c4,c5,c6,c7]) 3)):Sem Next).run lT w= .ok (.value c3) w:=k_
 rw[e,c]
theorem fk4(a:o.op= .field 145 x 4)(b:ev x= .agg #[c0,c1,c2,c3,c4,c5,c6,c7]):(execOp ev o).run lT w= .ok (.value c4) w:=by
 have e:execOp ev o=(do pure (.value (←Ef 145 (.agg #[c0,c1,c2,c3,c4,c5,c6,c7]) 4))):=by simp only[execOp,a,b]
 have c:(do pure (.value (←Ef 145 (.agg #[c0,c1,c2,c3,c4,c5,c6,c7]) 4)):Sem Next).run lT w= .ok (.value c4) w:=k_
 rw[e,c]
theorem fk5(a:o.op= .field 145 x 5)(b:ev x= .agg #[c0,c1,c2,c3,c4,c5,c6,c7]):(execOp ev o).run lT w= .ok (.value c5) w:=by
 have e:execOp ev o=(do pure (.value (←Ef 145 (.agg #[c0,c1,c2,c3,c4,c5,c6,c7]) 5))):=by simp only[execOp,a,b]
 have c:(do pure (.value (←Ef 145 (.agg #[c0,c1,c2,c3,c4,c5,c6,c7]) 5)):Sem Next).run lT w= .ok (.value c5) w:=k_
 rw[e,c]
theorem fk6(a:o.op= .field 145 x 6)(b:ev x= .agg #[c0,c1,c2,c3,c4,c5,c6,c7]):(execOp ev o).run lT w= .ok (.value c6) w:=by
 have e:execOp ev o=(do pure (.value (←Ef 145 (.agg #[c0,c1,c2,c3,c4,c5,c6,c7]) 6))):=by simp only[execOp,a,b]
 have c:(do pure (.value (←Ef 145 (.agg #[c0,c1,c2,c3,c4,c5,c6,c7]) 6)):Sem Next).run lT w= .ok (.value c6) w:=k_
 rw[e,c]
theorem fk7(a:o.op= .field 145 x 7)(b:ev x= .agg #[c0,c1,c2,c3,c4,c5,c6,c7]):(execOp ev o).run lT w= .ok (.value c7) w:=by
 have e:execOp ev o=(do pure (.value (←Ef 145 (.agg #[c0,c1,c2,c3,c4,c5,c6,c7]) 7))):=by simp only[execOp,a,b]
 have c:(do pure (.value (←Ef 145 (.agg #[c0,c1,c2,c3,c4,c5,c6,c7]) 7)):Sem Next).run lT w= .ok (.value c7) w:=k_
 rw[e,c]
theorem It{r:List Value}(hop:o.op= .load 149 x)(hx:ev x= .pk b 0)(h:w.heap[b]?=some (.cells (c0::c1::c2::c3::c4::c5::c6::c7::c8::c9::c10::c11::r:List Value).toArray 149)):(execOp ev o).run lT w= .ok (.value (.agg #[c0,c1,c2,c3,c4,c5,c6,c7,c8,c9,c10,c11])) w:=by
 have h1:(isAgg 149).run lT w= .ok true w:=k_
 have hc:=aK h;simp[execOp,hop,hx,a47,loadVar,h1,loadCells,loadCellsFrom,Addr.add,hc,go_sem]
end
theorem He(h:(args++a41 k undef)[i]?=some v)(hv:v≠undef):args[i]?=some v:=by
 by_cases a:i<args.size
 ·rwa [Pk a]at h
 ·rw[Array.getElem?_append_right o_,Fh]at h;split at h
  ·cases h;exact absurd rfl hv
  ·cases h
section
variable{Stop:Goroutine->World->Prop}(hS:∀g w,Stop g w->g.frame.mode= .returning/\g.callers=[]){Q:Prop}{g0:Goroutine}{b:Frame}{k:List Item}
include hS
theorem oU(j:aW F N ds a)(d x:Nat)(q:d<N)(g:F.lookup x=some v)(h:(ops[m]?).map (λo=>(o.dst,o.op,o.guard))=some (some d,gp x,none))
 (next:∀s:ByteArray,v= .s s->∀a',aW ((d, .i s.size)::F) N ds a'->Tk lT Stop Q g0 w0 (b.atR a' (.inRegion ops rest::k)) cs w):Tk lT Stop Q g0 w0 (b.atR a (.inRegion ops (m::rest)::k)) cs w:=by
 cases f:ops[m]? with
 |none=>rw[f]at h;simp at h
 |some o=>
  obtain⟨r,n,l⟩:=cC f h;have e:∀c,o.op≠ .defer c:=λc=>by rw[n];simp[gp]
  rcases FV (w:=w) n (j.get g)with⟨s,p,i⟩|⟨x,t,i,g⟩
  ·refine Tk.ran hS f (l _) e i ?_;rw[r];exact next s p _ (j.put q _)
  ·exact Tk.stuck hS f (l _) e i g
theorem jt(l:aW F N ds a)(d x:Nat)(c:Int)(r:d<N)(g:F.lookup x=some v)(h:(ops[m]?).map (λo=>(o.dst,o.op,o.guard))=some (some d,gI x c,none))
 (next:∀i:Int,v= .i i->∀a',aW ((d, .bool (decide (i<c)))::F) N ds a'->Tk lT Stop Q g0 w0 (b.atR a' (.inRegion ops rest::k)) cs w):Tk lT Stop Q g0 w0 (b.atR a (.inRegion ops (m::rest)::k)) cs w:=by
 cases f:ops[m]? with
 |none=>rw[f]at h;simp at h
 |some o=>
  obtain⟨t,p,n⟩:=cC f h;have e:∀c,o.op≠ .defer c:=λc=>by rw[p];simp[gI]
  rcases FL (w:=w) p (l.get g) rfl with⟨s,q,j⟩|⟨x,u,j,g⟩
  ·refine Tk.ran hS f (n _) e j ?_;rw[t];exact next s q _ (l.put r _)
  ·exact Tk.stuck hS f (n _) e j g
theorem K6(l:aW F N ds a)(d x:Nat)(r:d<N)(g:F.lookup x=some v)(h:(ops[m]?).map (λo=>(o.dst,o.op,o.guard))=some (some d, .field 149 (.tmp x) 4,none))
 (next:∀cells:Array Value,v= .agg cells->12<=cells.size->∀a' u,aW ((d,u)::F) N ds a'->Tk lT Stop Q g0 w0 (b.atR a' (.inRegion ops rest::k)) cs w):Tk lT Stop Q g0 w0 (b.atR a (.inRegion ops (m::rest)::k)) cs w:=by
 cases f:ops[m]? with
 |none=>rw[f]at h;simp at h
 |some o=>
  obtain⟨t,p,n⟩:=cC f h;have e:∀c,o.op≠ .defer c:=λc=>by rw[p];simp
  rcases CB (w:=w) p (l.get g)with⟨s,q,j,u,i⟩|⟨x,y,i,g⟩
  ·refine Tk.ran hS f (n _) e i ?_;rw[t];exact next s q j _ u (l.put r _)
  ·exact Tk.stuck hS f (n _) e i g
theorem za{x:Nat}(d:aW F N ds a)(c:F.lookup x=some (.bool q))(next:q=true→Tk lT Stop Q g0 w0 (b.atR a k) cs w):Tk lT Stop Q g0 w0 (b.atR a (.code (.cond (.tmp x) .skip (.refuse ""))::k)) cs w:=by
 refine Tk.cond hS q (d.get c) ?_;cases q with
 |true=>exact Tk.plain hS rfl (next rfl)
 |false=>exact Tk.refuse hS
theorem im{x:Nat}(d:aW F N ds a)(c:F.lookup x=some (.bool q))(next:q=false→Tk lT Stop Q g0 w0 (b.atR a k) cs w):Tk lT Stop Q g0 w0 (b.atR a (.code (.cond (.tmp x) (.refuse "") .skip)::k)) cs w:=by
 refine Tk.cond hS q (d.get c) ?_;cases q with
 |false=>exact Tk.plain hS rfl (next rfl)
 |true=>exact Tk.refuse hS
theorem RS{v0 v1:Value}(c:aW [(0,v0),(1,v1)] 36 [] a)
 (next:∀(s:dk) (ex:List Value) (a':Act),v0= .agg (s.cells++ex.toArray)->1<=s.count->s.count<65537->0<=s.width/\s.width<9->0<=s.q/\s.q<4294967296->s.id.size<65536->aW [(1,v1),(3, .agg s.cells),(10, .i s.count),(13, .string s.links)] 36 [] a'->
   Tk lT Stop Q g0 w0 (b.atR a' (.code (.seq (.region 6 RU false) (.seq (.cond (.tmp 22) (.refuse "") .skip) (.seq (.cond (.tmp 27) (.refuse "") .skip) (.seq (.cond (.tmp 28) (.refuse "") .skip) (.seq (.region 1 RX false) (.seq (.block 0 (.loop oZ)) (.seq (.region 5 RV false) .ret)))))))::k)) cs (w.alloc (.cells (s.cells++ex.toArray) 149))):
 Tk lT Stop Q g0 w0 (b.atR a (.code mY::k)) cs w:=by
 refine Tk.plain hS rfl (Tk.region hS (L:=[0,1,2,3,4,5,6,7,8,9,10,11,12,13,14,15,16,17,18,19,20,21,22,23,24,25,26,27,28,29,30,31]) rfl ?_);refine K6 hS c 6 0 d_ rfl rfl λZ f S a u c=> ?_;obtain⟨c0,c1,c2,c3,c4,c5,c6,c7,c8,c9,C,B,r,rfl⟩:=LQ S;refine Tk.op hS c 2 (.box 149 (.tmp 0)) d_ rfl s_ (v:= .pk w.heap.size 0) (w':=w.alloc (.cells (c0::c1::c2::c3::c4::c5::c6::c7::c8::c9::C::B::r:List Value).toArray 149)) (λo e=> ?_) λa c=> ?_
 ·have h:=(mo lT (w:=w) (ev:=a.eval) e).1;rw[c.G 0,f]at h;exact h
 have R:=bJ w (.cells (c0::c1::c2::c3::c4::c5::c6::c7::c8::c9::C::B::r:List Value).toArray 149);refine Tk.op hS c 3 (.load 149 (.tmp 2)) d_ rfl s_ (λo e=>It e (c.G 2) R) λa c=> ?_;refine Tk.op hS c 5 (.field 149 (.tmp 3) 0) d_ rfl s_ (λo e=>fs0 e (c.G 3)) λa c=> ?_;refine Tk.op hS c 6 (.field 145 (.tmp 5) 0) d_ rfl s_ (λo e=>fk0 e (c.G 5)) λa c=> ?_;refine oU hS c 7 6 d_ rfl rfl λH e0 a c=> ?_;subst e0;refine Tk.op hS c 6 (.field 145 (.tmp 5) 1) d_ rfl s_ (λo e=>fk1 e (c.G 5)) λa c=> ?_;refine oU hS c 7 6 d_ rfl rfl λG e1 a c=> ?_;subst e1;refine Tk.op hS c 8 (.field 145 (.tmp 5) 2) d_ rfl s_ (λo e=>fk2 e (c.G 5)) λa c=> ?_;refine oU hS c 9 8 d_ rfl rfl λD e2 a c=> ?_;subst e2;refine Tk.op hS c 6 (.field 145 (.tmp 5) 3) d_ rfl s_ (λo e=>fk3 e (c.G 5)) λa c=> ?_;refine oU hS c 7 6 d_ rfl rfl λF e3 a c=> ?_;subst e3;refine Tk.op hS c 6 (.field 145 (.tmp 5) 4) d_ rfl s_ (λo e=>fk4 e (c.G 5)) λa c=> ?_;refine jt hS c 7 6 0 d_ rfl rfl λP e4 a c=> ?_;subst e4;refine Tk.op hS c 11 (.field 145 (.tmp 5) 5) d_ rfl s_ (λo e=>fk5 e (c.G 5)) λa c=> ?_;refine jt hS c 16 11 0 d_ rfl rfl λO e5 a c=> ?_;subst e5;refine Tk.op hS c 10 (.field 145 (.tmp 5) 6) d_ rfl s_ (λo e=>fk6 e (c.G 5)) λa c=> ?_;refine jt hS c 15 10 65537 d_ rfl rfl λi6 e6 a c=> ?_;subst e6;refine Tk.op hS c 6 (.field 145 (.tmp 5) 7) d_ rfl s_ (λo e=>fk7 e (c.G 5)) λa c=> ?_;refine jt hS c 7 6 0 d_ rfl rfl λN e7 a c=> ?_;subst e7;refine Tk.op hS c 12 (.field 149 (.tmp 3) 1) d_ rfl s_ (λo e=>fs1 e (c.G 3)) λa c=> ?_;refine jt hS c 18 12 0 d_ rfl rfl λM e8 a c=> ?_;subst e8;refine Tk.op hS c 6 (.field 149 (.tmp 3) 2) d_ rfl s_ (λo e=>fs2 e (c.G 3)) λa c=> ?_;refine oU hS c 7 6 d_ rfl rfl λE e9 a c=> ?_;subst e9;refine Tk.op hS c 13 (.field 149 (.tmp 3) 3) d_ rfl s_ (λo e=>fs3 e (c.G 3)) λa c=> ?_;refine oU hS c 7 13 d_ rfl rfl λj Y a c=> ?_;subst Y;refine Tk.op hS c 6 (.field 149 (.tmp 3) 4) d_ rfl s_ (λo e=>Sw e (c.G 3)) λa c=> ?_;refine oU hS c 7 6 d_ rfl rfl λi X a c=> ?_;subst X;refine jt hS c 14 10 1 d_ rfl rfl λa3 W a c=> ?_;cases W;refine jt hS c 17 11 9 d_ rfl rfl λa2 V a c=> ?_;cases V;refine jt hS c 19 12 4294967296 d_ rfl rfl λa1 U a c=> ?_;cases U;refine jt hS c 20 9 65536 d_ rfl rfl λa0 T a c=> ?_;cases T;refine Tk.plain hS rfl (Tk.plain hS rfl ?_);refine im hS c (x:=14) rfl λK=>Tk.plain hS rfl ?_;refine za hS c (x:=15) rfl λJ=>Tk.plain hS rfl ?_;refine im hS c (x:=16) rfl λq=>Tk.plain hS rfl ?_;refine za hS c (x:=17) rfl λp=>Tk.plain hS rfl ?_;refine im hS c (x:=18) rfl λm=>Tk.plain hS rfl ?_;refine za hS c (x:=19) rfl λl=>Tk.plain hS rfl ?_;refine za hS c (x:=20) rfl λI=> ?_;simp only[decide_eq_true_eq,decide_eq_false_iff_not,ZT]at K J q p m l I;obtain⟨n,hn⟩:∃n:Nat,i6=n:=⟨i6.toNat,(R1 o_).symm⟩;subst hn;have z:(dk.mk H G D F P O n N M E j i).cells++r.toArray=(.string H:: .string G:: .string D:: .string F:: .i P:: .i O:: .i n:: .i N:: .i M:: .string E:: .string j:: .string i::r:List Value).toArray:=by simp[dk.cells]
 have g:=next ⟨H,G,D,F,P,O,n,N,M,E,j,i⟩ r a (f.trans (by rw[z])) (by show 1<=n;omega) (by show n<65537;omega) ⟨q,p⟩ ⟨m,l⟩ (by show D.size<65536;omega)
 rw[z]at g;refine g ?_;refine c.sub λd v A=> ?_;by_cases q1:d=1
 ·subst q1;exact A
 by_cases q3:d=3
 ·subst q3;exact A
 by_cases y:d=10
 ·subst y;exact A
 by_cases t:d=13
 ·subst t;exact A
 simp[a51,show(d==1)=false from by simpa using q1,show(d==3)=false from by simpa using q3,show(d==10)=false from by simpa using y,show(d==13)=false from by simpa using t]at A
end
section
variable{y:Operand}
theorem Cy(c:o.op= .call {callee:= .builtin .len,args:=#[.tmp 1],argTypes:=#[22]})(d:ev (.tmp 1)=v):(∃a b cap,v= .slice a b cap/\(execOp ev o).run lT w= .ok (.value (.i (b:Nat))) w)\/Mn lT ev o w:=by
 have e:lT.underlying 22=some (.slice 3):=k_
 cases v with
 |slice a b cap=>exact .inl ⟨a,b,cap,rfl,by simp[execOp,c,resolve,d,invoke,builtin,Pr,run_underlying e,goInt]⟩
 |_=>exact .inr ⟨_,w,by simp[execOp,c,resolve,d,invoke,builtin,Pr,run_underlying e];rfl, .inl ⟨_,rfl⟩⟩
theorem Ld{a:Option Addr}{b cap:Nat}(c:o.op= .call {callee:= .builtin .len,args:=#[.tmp 1],argTypes:=#[22]})(d:ev (.tmp 1)= .slice a b cap):(execOp ev o).run lT w= .ok (.value (.i (b:Nat))) w:=by
 have e:lT.underlying 22=some (.slice 3):=k_
 simp[execOp,c,resolve,d,invoke,builtin,Pr,run_underlying e,goInt]
theorem Au{p:Option Addr}{c:Nat}(b:o.op= .binOp .eql 22 (.tmp 1) (.const (.slice none 0 0)) 22)(f:ev (.tmp 1)= .slice p l c)(d:ev (.const (.slice none 0 0))= .slice none 0 0):(execOp ev o).run lT w= .ok (.value (.bool p.isNone)) w:=by
 have e:execOp ev o=(do pure (.value (←(do eqGuard .eql 22 (.tmp 1) (.const (.slice none 0 0)) (.slice p l c) (.slice none 0 0);binOp .eql 22 (.slice p l c) (.slice none 0 0))))):=by simp only[execOp,b,f,d]
 have h:(do pure (.value (←(do eqGuard .eql 22 (.tmp 1) (.const (.slice none 0 0)) (.slice none l c) (.slice none 0 0);binOp .eql 22 (.slice none l c) (.slice none 0 0)))):Sem Next).run lT w= .ok (.value (.bool true)) w:=k_
 have g (a:Addr):(do pure (.value (←(do eqGuard .eql 22 (.tmp 1) (.const (.slice none 0 0)) (.slice (some a) l c) (.slice none 0 0);binOp .eql 22 (.slice (some a) l c) (.slice none 0 0)))):Sem Next).run lT w= .ok (.value (.bool false)) w:=k_
 rw[e];cases p with
 |none=>exact h
 |some a=>exact g a
theorem CF{len cap:Nat}{a:Addr}(b:o.op= .indexAddr 22 x y)(d:ev x= .slice (some a) len cap)(c:ev y= .i n)(h:n<len):eX ev o w (.pointer (some (a.add n))):=
 (eA (w:=w) (k_:lT.underlying 22=some (.slice 3)) (λw=>k_) b d c h).1
theorem FR{a:Addr}{u:Value}(h:(a47 3 (.pointer (some a))).run lT w= .ok u w'):w'=w:=by
 have b:(isAgg 3).run lT w= .ok false w:=k_
 simp only[a47,NK,loadVar,pure_bind,K8,b,Vp]at h;simp only[a45,↓reduceIte]at h;unfold load at h;rw[Sem.run]at h;split at h
 ·cases h;rfl
 ·split at h
  ·cases h;rfl
  ·cases h
theorem Lc{a:Addr}{v:Value}(h:(a47 3 (.pointer (some a))).run lT w= .halt (.panic v) w'):False:=by
 have c:(isAgg 3).run lT w= .ok false w:=k_
 simp only[a47,NK,loadVar,pure_bind,K8,c,Vp]at h;simp only[a45,↓reduceIte]at h;unfold load at h;rw[Sem.run]at h;split at h
 ·cases h
 ·split at h
  ·cases h
  ·rename_i b;simp only[Result.halt.injEq]at h;exact pm b _ h.1
theorem Cw{a:Addr}(f:bE w)(c:o.op= .load 3 x)(d:ev x= .pointer (some a)):(∃u,(a47 3 (.pointer (some a))).run lT w= .ok u w/\(execOp ev o).run lT w= .ok (.value u) w)\/∃h w',(execOp ev o).run lT w= .halt h w'/\eT h:=by
 have e:execOp ev o=(do pure (.value (←a47 3 (.pointer (some a))))):=by simp only[execOp,c,d]
 rw[e];cases b:(a47 3 (.pointer (some a))).run lT w with
 |ok u w'=>
  obtain rfl:=FR b;exact .inl ⟨u,rfl,by simp[b]⟩
 |halt h w'=>
  refine .inr ⟨h,w',by simp[b],(dz (gO (ρ:=id) tO.same 3 (.pointer (some a))) w f h w' b).resolve_right λ⟨v,e⟩=>Lc (by rw[b,e])⟩
theorem Ea(g:0<n)(k:n<=65536)(a:o.op= .makeSlice 25 x y)(e:ev x= .i n)(d:ev y= .i n):
 (execOp ev o).run lT w= .ok (.value (.sk w.heap.size n n)) (w.alloc (.cells (a41 n (.string ⟨#[]⟩)) 9)):=by
 have f:lT.underlying 25=some (.slice 9):=k_
 have b:A8.wrap (n:Int)=n:=by rw[a5_];omega
 have h:Tryz.t9.bytes=16:=k_
 have c:¬(281474976710656<16*(n:Int)):=o_
 have j:¬n=0:=o_
 simp[execOp,a,e,d,Po,run_underlying f,b,c,askRoom,newRow,h,j,go_sem];refine congrArg (λz=>XQ (Z0 (Value.sk w.heap.size n n)) (w.alloc (Obj.cells z 9))) (Wq s_ λi m l=> ?_);simp[ZB]
end
def xz(KS:List Int)(s:dk)(dig:Nat->Int)(c:Nat):Value:= .string (kR KS s c (dig c) (s.links.extract (c*32) ((c+1)*32)))
def mP(KS:List Int)(s:dk)(dig:Nat->Int)(n i:Nat):Array Value:=Wn λc:Fin n=>if c.val<i then xz KS s dig c.val else .string ⟨#[]⟩
def Sz(v1:Value)(wE:World)(dig:Nat->Int)(c:Nat):Prop:=∃ga glen gcap,v1= .slice (some ga) glen gcap/\c<glen/\(0<=dig c/\dig c<256)/\∃wc,Bw wE wc/\(a47 3 (.pointer (some (ga.add c)))).run (aI true Tryz.prog) wc= .ok (.int .i64 (dig c)) wc
theorem AU(KS:List Int)(s:dk)(dig:Nat->Int)(n:Nat):mP KS s dig n 0=a41 n (.string ⟨#[]⟩):=by
 apply Wq
 ·simp[mP]
 ·intro i b a;simp[mP]
theorem AW(KS:List Int)(s:dk)(dig:Nat->Int)(n:Nat):mP KS s dig n n=Wn λc:Fin n=>xz KS s dig c.val:=by
 apply Wq
 ·simp[mP]
 ·intro i b a;simp[mP]
theorem AV{s:dk}{dig dig':Nat->Int}(h:∀c,c<i->dig' c=dig c):(mP KS s dig n i).setIfInBounds i (xz KS s dig' i)=mP KS s dig' n (i+1):=by
 apply Wq
 ·simp[mP]
 ·intro j f d;have b:j<n:=by simpa[mP]using d
  rw[Array.getElem_setIfInBounds (by simpa[mP]using b)];simp only[mP,Array.getElem_ofFn];by_cases e:i=j
  ·subst e;simp
  ·rw[if_neg e];by_cases a:j<i
   ·rw[if_pos a,if_pos o_];unfold xz;rw[h j a]
   ·rw[if_neg a,if_neg o_]
theorem lr{cs:Array Value}(h:w.heap[b]?=some (.cells cs t)):(w.setCell ⟨b,i,none⟩ v).heap[b]?=some (.cells (cs.setIfInBounds i v) t):=by simp only[BO];rw[Array.getElem?_modify,h];simp
theorem SA(c:0<w.heap.size)(b:Bw w w')(h:w.rangeAt 0 0 (aH KS)):w'.rangeAt 0 0 (aH KS):=λj v a=>by have:=h j v a;unfold AB at this⊢;rw[b.block 0 c];exact this
section
variable{Stop:Goroutine->World->Prop}(hstop:∀g w,Stop g w->∀τ d,∃o w1 es,stepG (aI true Tryz.prog) true g (lx w τ d)= .ended o w1 es)(hS:∀g w,Stop g w->g.frame.mode= .returning/\g.callers=[]){Q:Prop}{g0:Goroutine}
 (hq:∀g2 w2,StepsIn (λ_=>True) (aI true Tryz.prog) (solo g0 w0) (solo g2 w2)->bE w2)
 {b:Frame} {k:List Item} {cs:List Frame} {KS:List Int} (hKl:KS.length=64) {wE:World} (hK:wE.rangeAt 0 0 (aH KS)) (h0:0<wE.heap.size) {s:dk} {n bL:Nat} {v1:Value}
 (hn:s.count=n) {ga:Addr} {glen gcap:Nat} (hv1:v1= .slice (some ga) glen gcap) (hgl:n<=glen) (hn1:1<=n) (hn2:n<65537) (hwd:0<=s.width/\s.width<9) (hqq:0<=s.q/\s.q<4294967296) (hid:s.id.size<65536) (hlk:n*32<=s.links.size) (hbL:wE.heap.size<=bL)
include hstop hS hq hKl hK h0 hn hv1 hgl hn1 hn2 hwd hqq hid hlk hbL
theorem Kc(next:∀(dig:Nat->Int) (a:Act) (w:World),(∀c,c<n->Sz v1 wE dig c)->Bw wE w->w.heap[bL]?=some (.cells (mP KS s dig n n) 9)->aW [(23, .sk bL n n)] 36 [] a->Tk (aI true tP) Stop Q g0 w0 (b.atR a k) cs w):
 ∀(j i:Nat) (dig:Nat->Int) (a:Act) (w:World),n- i=j->i<=n->(∀c,c<i->Sz v1 wE dig c)->Bw wE w->w.heap[bL]?=some (.cells (mP KS s dig n i) 9)->
  aW [(1,v1),(3, .agg s.cells),(10, .int .i64 n),(13, .s s.links),(23, .sk bL n n),(24, .int .i64 i)] 36 [] a->Tk (aI true tP) Stop Q g0 w0 (b.atR a (.code oZ:: .inLoop oZ:: .inBlock 0::k)) cs w:=by
 intro j;induction j with
 |zero=>
  intro i dig a w hj hi q g l f;have p:i=n:=o_
  subst p;refine Tk.plain hS rfl (Tk.plain hS rfl (Tk.region hS (L:=[0]) rfl ?_));refine Tk.op hS f 25 (.binOp .lss 3 (.tmp 24) (.tmp 10) 3) d_ rfl s_ (λo m=>(dw m (f.get (d:=24) rfl) (f.get (d:=10) rfl)).1) λa f=> ?_;refine Tk.plain hS rfl (Tk.cond hS (decide ((i:Int)<i)) (f.get (d:=25) rfl) ?_);rw[show(decide ((i:Int)<i))=false by simp];refine Tk.plain hS rfl (next dig a w q g l (f.sub λd v hd=> ?_));by_cases U:d=23
  ·subst U;exact hd
  simp[a51,show(d==23)=false from by simpa using U]at hd
 |succ j ih=>
  intro i dig a w hj hi q g l f;have p:i<n:=o_
  refine Tk.plain hS rfl (Tk.plain hS rfl (Tk.region hS (L:=[0]) rfl ?_));refine Tk.op hS f 25 (.binOp .lss 3 (.tmp 24) (.tmp 10) 3) d_ rfl s_ (λo m=>(dw m (f.get (d:=24) rfl) (f.get (d:=10) rfl)).1) λa f=> ?_;refine Tk.plain hS rfl (Tk.cond hS (decide ((i:Int)<n)) (f.get (d:=25) rfl) ?_);rw[show(decide ((i:Int)<n))=true by simpa using p];refine Tk.plain hS rfl (Tk.plain hS rfl (Tk.region hS (L:=[0,1,2,3]) rfl ?_));have z:i<glen:=o_
  have Z:=CF (w:=w) (ev:=a.eval) (o:=eY (some 26) (.indexAddr 22 (.tmp 1) (.tmp 24))) (x:= .tmp 1) (y:= .tmp 24) rfl ((f.get (d:=1) rfl).trans hv1) (f.get (d:=24) rfl) z;refine Tk.ran hS (o:=eY (some 26) (.indexAddr 22 (.tmp 1) (.tmp 24))) rfl rfl (by simp[eY]) Z ?_;have f:=f.put (d:=26) d_ (.pointer (some (ga.add i)));refine Tk.calm hq λG=> ?_;refine(Cw (w:=w) (ev:=(a.put (some 26) (.pointer (some (ga.add i)))).eval) (o:=eY (some 27) (.load 3 (.tmp 26))) (x:= .tmp 26) G rfl (f.get (d:=26) rfl)).elim (λ⟨u,Y,X⟩=> ?_) λ⟨x,T,Z,hx⟩=>Tk.dead hS (o:=eY (some 27) (.load 3 (.tmp 26))) rfl rfl (by simp[eY]) Z hx;refine Tk.ran hS (o:=eY (some 27) (.load 3 (.tmp 26))) rfl rfl (by simp[eY]) X ?_;have f:=f.put (d:=27) d_ u;refine jt hS f 28 27 0 d_ rfl rfl λd e a f=> ?_;subst e;refine jt hS f 29 27 256 d_ rfl rfl λd2 e a f=> ?_;cases e;refine Tk.plain hS rfl (Tk.plain hS rfl ?_);refine im hS f (x:=28) rfl λB=>Tk.plain hS rfl ?_;refine za hS f (x:=29) rfl λA=> ?_;simp only[decide_eq_true_eq,decide_eq_false_iff_not,ZT]at B A;refine Tk.region hS (L:=[0,1,2,3,4,5,6,7]) rfl ?_;refine Tk.op hS f 30 (.binOp .mul 3 (.tmp 24) (.const (.int .i64 32)) 3) d_ rfl s_ (λo m=>(mS m (f.get (d:=24) rfl) rfl o_).1) λa f=> ?_;refine Tk.op hS f 31 (.binOp .add 3 (.tmp 24) (.const (.int .i64 1)) 3) d_ rfl s_ (λo m=>(oP m (f.get (d:=24) rfl) rfl o_).1) λa f=> ?_;refine Tk.op hS f 32 (.binOp .mul 3 (.tmp 31) (.const (.int .i64 32)) 3) d_ rfl s_ (λo m=>(mS m (f.get (d:=31) rfl) rfl o_).1) λa f=> ?_;have a4:a.eval (.tmp 30)= .int .i64 ((i*32:Nat):Int):=(f.get (d:=30) rfl).trans (by rw[VI];rfl);have a3:a.eval (.tmp 32)= .int .i64 (((i+1)*32:Nat):Int):=(f.get (d:=32) rfl).trans (by rw[VI,NY];rfl);refine Tk.op hS f 33 (.slice 9 (.tmp 13) (some (.tmp 30)) (some (.tmp 32)) none) d_ rfl s_ (λo m=>(fA m (f.get (d:=13) rfl) a4 a3 o_ o_).1) λa f=> ?_;have D:Dr s i d (s.links.extract (i*32) ((i+1)*32)):=⟨hwd,hqq,hid,o_,⟨B,A⟩,by rw[a52];omega⟩;have H:(execOp a.eval (eY (some 34) (.call {callee:= .value (.func 114),args:=#[.tmp 3, .tmp 24, .tmp 27, .tmp 33],argTypes:=#[149,3,3,9]}))).run (aI true tP) w= .ok (.enter 114 #[.agg s.cells, .int .i64 i, .int .i64 d, .s (s.links.extract (i*32) ((i+1)*32))]) w:=
   (bU (w:=w) (o:=eY (some 34) _) rfl (by simp[f.get (d:=3) rfl,f.get (d:=24) rfl,f.get (d:=27) rfl,f.get (d:=33) rfl]) (dq (P:=aI true tP) Lf.func114 k_ k_ _)).1
  refine Tk.call hstop hS (o:=eY (some 34) _) rfl rfl (by simp[eY]) H (R:=λv T=>v= .s (kR KS s i d (s.links.extract (i*32) ((i+1)*32)))/\Bw w T) (λcs=> ?_) λv V hv=> ?_
  ·obtain⟨e,T,fr,⟨U,q2⟩,q3⟩:=Eu KS s i d _ D w (SA h0 g hK) hKl (a38 h0 g.size) cs;exact⟨e,T,fr,⟨_,U,rfl,q2⟩,q3⟩
  obtain⟨rfl,r⟩:=hv;have f:=f.put (d:=34) d_ (.s (kR KS s i d (s.links.extract (i*32) ((i+1)*32))));have h:=(r.block bL (gA l).1).trans l;have a0:=(eA (ql:=true) (w:=V) (ev:=(a.put (eY (some 34) (.call {callee:= .value (.func 114),args:=#[.tmp 3, .tmp 24, .tmp 27, .tmp 33],argTypes:=#[149,3,3,9]})).dst (.s (kR KS s i d (s.links.extract (i*32) ((i+1)*32))))).eval) (o:=eY (some 35) (.indexAddr 25 (.tmp 23) (.tmp 24))) (t:=25) (e:=9) k_ (λw=>k_) rfl (f.get (d:=23) rfl) (f.get (d:=24) rfl) p).1;refine Tk.ran hS (o:=eY (some 35) (.indexAddr 25 (.tmp 23) (.tmp 24))) rfl rfl (by simp[eY]) a0 ?_;have f:=f.put (d:=35) d_ (.pointer (some ((⟨bL,0,none⟩:Addr).add i)));have W:=(eK (ql:=true) (w:=V) (ev:=((a.put (some 34) (.s (kR KS s i d (s.links.extract (i*32) ((i+1)*32))))).put (some 35) (.pointer (some ((⟨bL,0,none⟩:Addr).add i)))).eval) (o:=eY none (.store 9 (.tmp 35) (.tmp 34))) (t:=9) (b:=bL) (k:=i) (v:= .s (kR KS s i d (s.links.extract (i*32) ((i+1)*32)))) (v0:= .string ⟨#[]⟩) rfl rfl k_ rfl
   ((f.get (d:=35) rfl).trans (by rw[uS,a46])) (f.get (d:=34) rfl) (by rw[aK h];simp[mP,p]) (by simp[Hv,h])).1
  refine Tk.did hS (o:=eY none (.store 9 (.tmp 35) (.tmp 34))) rfl rfl (by simp[eY]) W ?_;have K:=λ(o:Oper) (m:o.op= .move (.tmp 31))=>(cz (w:=V.setCell ⟨bL,i,none⟩ (.s (kR KS s i d (s.links.extract (i*32) ((i+1)*32))))) (ev:=((a.put (some 34) (.s (kR KS s i d (s.links.extract (i*32) ((i+1)*32))))).put (some 35) (.pointer (some ((⟨bL,0,none⟩:Addr).add i)))).eval) (aI true tP) (.inl m)).1;rw[f.get (d:=31) rfl]at K;refine Tk.op hS f 24 (.move (.tmp 31)) d_ rfl s_ K λa f=> ?_;refine Tk.plain hS rfl (Tk.plain hS rfl ?_);have C:∀c,c<i->(λc=>if c=i then d else dig c) c=dig c:=λc hc=>by dsimp only;rw[if_neg o_]
  refine ih (i+1) (λc=>if c=i then d else dig c) a _ o_ o_ (λc hc=> ?_) ((aB g g.size r).trans (ea _ _ _ hbL)) ?_ (f.sub λe v E=> ?_)
  ·by_cases F:c=i
   ·subst F;exact⟨ga,glen,gcap,hv1,z,by simpa using⟨B,A⟩,w,g,by simpa using Y⟩
   ·obtain⟨a2,I,J,x1,x2,x3,wc,x4,x5⟩:=q c o_;exact⟨a2,I,J,x1,x2,by dsimp only;rw[if_neg F];exact x3,wc,x4,by dsimp only;rw[if_neg F];exact x5⟩
  ·rw[lr h,←AV C];unfold xz;simp
  ·by_cases M:e=24
   ·subst M;have a1:some (.int .i64 ((i+1:Nat):Int))=some v:=E;rw[←a1,NY];rfl
   by_cases e1:e=1
   ·subst e1;exact E
   by_cases e3:e=3
   ·subst e3;exact E
   by_cases S:e=10
   ·subst S;exact E
   by_cases O:e=13
   ·subst O;exact E
   by_cases N:e=23
   ·subst N;exact E
   simp[a51,show(e==24)=false from by simpa using M,show(e==1)=false from by simpa using e1,show(e==3)=false from by simpa using e3,show(e==10)=false from by simpa using S,show(e==13)=false from by simpa using O,show(e==23)=false from by simpa using N]at E
end
structure JK (PL:Program) (KS:List Int) (Stop:Goroutine->World->Prop) (args:Array Value) (wE:World) (c:Frame) (cs:List Frame) (s:dk) (ex:List Value) (ga:Addr) (glen gcap:Nat) (dig:Nat->Int) (bL:Nat) (w2:World):Prop where
 a0:args[0]?=some (.agg (s.cells++ex.toArray))
 a1:args[1]?=some (.slice (some ga) glen gcap)
 pos:1<=s.count
 small:s.count<=65536
 glen:s.count<=glen
 links:s.count*32<=s.links.size
 fine:∀i,i<s.count->Dr s i (dig i) (s.links.extract (i*32) ((i+1)*32))
 digs:∀i,i<s.count->∃wc,Bw wE wc/\(a47 3 (.pointer (some (ga.add i)))).run PL wc= .ok (.int .i64 (dig i)) wc
 keep:Bw wE w2
 low:wE.heap.size<=bL
 list:w2.heap[bL]?=some (.cells (Wn λi:Fin s.count=>xz KS s dig i.val) 9)
 steps:StepsIn (λ_=>True) PL (solo (cd PL 105 args (c::cs)) wE) (solo (gB (c.finish (.sk bL s.count s.count)) cs) w2)
 tree:gE PL Stop (gB (c.finish (.sk bL s.count s.count)) cs) w2
theorem wC(c:N<=args.size+(N- args.size))(b:i<N)(h:(Act.mk (args++a41 (N- args.size) undef) []).eval (.tmp i)=v)(hv:v≠undef):args[i]?=some v:=by
 refine He (k:=N- args.size) ?_ hv;have a:i<(args++a41 (N- args.size) undef).size:=by simp;omega
 rw[a4_ a];have e:(args++a41 (N- args.size) undef).getD i undef=v:=h;rw[a43,a4_ a]at e;exact congrArg some e
theorem Qh{j:Goroutine->World->Prop}(r:∀g w,j g w->∀τ d,∃o w1 es,stepG (aI true tP) true g (lx w τ d)= .ended o w1 es)(f:∀g w,j g w->g.frame.mode= .returning/\g.callers=[]){c:Frame}
 (hq:∀g2 z,StepsIn (λ_=>True) (aI true tP) (solo (cd (aI true tP) 105 args (c::cs)) wE) (solo g2 z)->bE z)  (a5:KS.length=64) (hK:wE.rangeAt 0 0 (aH KS)) (h0:0<wE.heap.size)
 (ht:gE (aI true tP) j (cd (aI true tP) 105 args (c::cs)) wE):∃s ex ga glen gcap dig bL z,JK (aI true tP) KS j args wE c cs s ex ga glen gcap dig bL z:=by
 have p:cd (aI true tP) 105 args (c::cs)=gB ((base 105).atR ⟨args++a41 (36- args.size) undef,[]⟩ [.code mY]) (c::cs):=by unfold cd;rw[enter_at args so rfl];rfl
 suffices h:Tk (aI true tP) j (∃s ex ga glen gcap dig bL z,JK (aI true tP) KS j args wE c cs s ex ga glen gcap dig bL z) (cd (aI true tP) 105 args (c::cs)) wE ((base 105).atR ⟨args++a41 (36- args.size) undef,[]⟩ [.code mY]) (c::cs) wE by
  refine h ?_ ?_
  ·rw[←p];exact ht
  ·rw[←p];exact .refl _
 have b:aW [(0,(Act.mk (args++a41 (36- args.size) undef) []).eval (.tmp 0)),(1,(Act.mk (args++a41 (36- args.size) undef) []).eval (.tmp 1))] 36 [] ⟨args++a41 (36- args.size) undef,[]⟩:=by
  have m:36<=(args++a41 (36- args.size) undef).size:=by simp;omega
  refine⟨rfl,m,λd v B=> ?_⟩;have C:∀d,d<36->(args++a41 (36- args.size) undef)[d]?=some ((args++a41 (36- args.size) undef).getD d undef):=λd B=>by rw[a43,a4_ o_];rfl
  by_cases V:d=0
  ·subst V;have:some _=some v:=B;rw[←this];exact C 0 o_
  by_cases U:d=1
  ·subst U;have:some _=some v:=B;rw[←this];exact C 1 o_
  simp[a51,show(d==0)=false from by simpa using V,show(d==1)=false from by simpa using U]at B
 refine RS f b λs ex a V G a1 D F J b=> ?_;have a4:args[0]?=some (.agg (s.cells++ex.toArray)):=wC o_ o_ V (by simp[undef]);refine Tk.plain f rfl (Tk.region f (L:=[0,1,2,3,4,5]) rfl ?_);refine Tk.op f b 21 (.binOp .mul 3 (.tmp 10) (.const (.int .i64 32)) 3) d_ rfl s_ (λo k=>(mS k (b.get (d:=10) rfl) rfl o_).1) λa b=> ?_;refine Tk.op f b 7 (gp 13) d_ rfl (by simp[gp]) (λo k=>Iw k (b.get (d:=13) rfl)) λa b=> ?_;refine Tk.op f b 22 (FM 7 21) d_ rfl (by simp[FM]) (λo k=>(dw k (b.get (d:=7) rfl) (b.get (d:=21) rfl)).1) λa b=> ?_;refine(Cy (w:=wE.alloc (.cells (s.cells++ex.toArray) 149)) (ev:=a.eval) (o:=eY (some 26) (.call {callee:= .builtin .len,args:=#[.tmp 1],argTypes:=#[22]})) rfl (b.get (d:=1) rfl)).elim (λ⟨O,glen,gcap,l,A⟩=> ?_) λ⟨x,w',A,hx⟩=>Tk.stuck f (o:=eY (some 26) (.call {callee:= .builtin .len,args:=#[.tmp 1],argTypes:=#[22]})) rfl rfl (by simp[eY]) A hx;refine Tk.ran f (o:=eY (some 26) (.call {callee:= .builtin .len,args:=#[.tmp 1],argTypes:=#[22]})) rfl rfl (by simp[eY]) A ?_;have b:=b.put (d:=26) d_ (.int .i64 (glen:Nat));refine Tk.op f b 27 (FM 26 10) d_ rfl (by simp[FM]) (λo k=>(dw k (b.get (d:=26) rfl) (b.get (d:=10) rfl)).1) λa b=> ?_;refine Tk.op f b 28 (.binOp .eql 22 (.tmp 1) (.const (.slice none 0 0)) 22) d_ rfl s_ (λo k=>Au k ((b.get (d:=1) rfl).trans l) rfl) λa b=> ?_;refine Tk.plain f rfl (Tk.plain f rfl ?_);refine im f b (x:=22) rfl λY=>Tk.plain f rfl ?_;refine im f b (x:=27) rfl λX=>Tk.plain f rfl ?_;refine im f b (x:=28) rfl λW=> ?_;obtain⟨ga,rfl⟩:∃ga,O=some ga:=by cases O with|none=>cases W|some g=>exact⟨g,rfl⟩
 simp only[decide_eq_false_iff_not,ZT]at Y X;have I:s.count*32<=s.links.size:=o_
 have K:s.count<=glen:=o_
 refine Tk.plain f rfl (Tk.region f (L:=[0,1]) rfl ?_);refine Tk.op f b 23 (.makeSlice 25 (.tmp 10) (.tmp 10)) d_ rfl s_ (λo k=>Ea o_ o_ k (b.get (d:=10) rfl) (b.get (d:=10) rfl)) λa b=> ?_;refine Tk.op f b 24 (.move (.const (.int .i64 0))) d_ rfl s_ (λo k=>(cz (aI true tP) (.inl k)).1) λa b=> ?_;refine Tk.plain f rfl (Tk.plain f rfl (Tk.plain f rfl (Tk.plain f rfl ?_)));have m:=aQ wE (.cells (s.cells++ex.toArray) 149);have N:=aZ wE (.cells (s.cells++ex.toArray) 149);have a3:=aZ (wE.alloc (.cells (s.cells++ex.toArray) 149)) (.cells (a41 s.count (.string ⟨#[]⟩)) 9);have a2:=bJ (wE.alloc (.cells (s.cells++ex.toArray) 149)) (.cells (a41 s.count (.string ⟨#[]⟩)) 9);refine Kc r f hq a5 hK h0 rfl l K G a1 D F J I (bL:=(wE.alloc (.cells (s.cells++ex.toArray) 149)).heap.size) (by rw[m];omega) (n:=s.count) (v1:=(Act.mk (args++a41 (36- args.size) undef) []).eval (.tmp 1)) ?_ s.count 0 (λ_=>0) a _ rfl (Nat.zero_le _) (λc hc=>absurd hc (Nat.not_lt_zero c)) (aB N N.size a3) (by rw[AU];exact a2) (b.sub λe v y=> ?_)
 ·intro dig a w q M u b;refine Tk.plain f rfl (Tk.region f (L:=[0]) rfl ?_);have H:=λ(o:Oper) (k:o.op= .move (.tmp 23))=>(cz (w:=w) (ev:=a.eval) (aI true tP) (.inl k)).1;rw[b.get (d:=23) rfl]at H;refine Tk.op f b 4 (.move (.tmp 23)) d_ rfl s_ H λa b=> ?_;have A:=pR (P:=aI true tP) (fn:=tH) (t:=4) rfl (b.slot 4 _ rfl) w;refine Tk.plain f rfl (Tk.ends f rfl (.inr ⟨_,rfl⟩) (Tk.leave f (.sk ((wE.alloc (.cells (s.cells++ex.toArray) 149)).heap.size) s.count s.count) rfl b.defers so A.1 A.2 ?_));intro Z a0;refine⟨s,ex,ga,glen,gcap,dig,_,w,⟨a4,wC o_ o_ l (by simp[undef]),G,o_,K,I,λi hi=> ?_,λi hi=> ?_,M,by rw[m];omega, ?_,a0,Z⟩⟩
  ·obtain⟨_,_,_,_,_,B,_⟩:=q i hi;exact⟨D,F,J,o_,B,by rw[a52];omega⟩
  ·obtain⟨a8,a6,a7,E,_,_,wc,q1,q2⟩:=q i hi;have e:=l.symm.trans E;cases e;exact⟨wc,q1,q2⟩
  ·rw[←AW];exact u
 ·by_cases Q:e=24
  ·subst Q;exact y
  by_cases U:e=1
  ·subst U;exact y
  by_cases e3:e=3
  ·subst e3;exact y
  by_cases T:e=10
  ·subst T;exact y
  by_cases S:e=13
  ·subst S;exact y
  by_cases R:e=23
  ·subst R;exact y
  simp[a51,show(e==24)=false from by simpa using Q,show(e==1)=false from by simpa using U,show(e==3)=false from by simpa using e3,show(e==10)=false from by simpa using T,show(e==13)=false from by simpa using S,show(e==23)=false from by simpa using R]at y
end L1
section
open Go Go.Conc Go.RowKit
open Go.ConcN (WgLive)
abbrev g9(P:Program)(ty Wg C n:Nat)(val:Nat->Value)(RO:Nat->Prop):bS:={P:=P,ty:=ty,Wg:=Wg,C:=C,ety:=9,n:=n,val:=val,RO:=RO,mine:=λi c=>c%8=i/\c<n}
structure fg where
 s:dk
 /-- what may stand behind its cells-/
 ex:Array Value
 bs:Nat
 bg:Nat
 be:Nat
 ga:Addr
 glen:Nat
 gcap:Nat
 dig:Nat->Int
 /-- where the digits lie-/
 gr:Nat->Prop
 wL:World
 G:Nat
def Qa(N:fg)(n:Nat)(w:World):Prop:=∀w':World,(∀b,N.gr b->w'.heap[b]?=w.heap[b]?)->∀c,c<n->
 (a47 3 (.pointer (some (N.ga.add c)))).run Tryz.prog w'= .ok (.int .i64 (N.dig c)) w'/\∀e∈(a47 3 (.pointer (some (N.ga.add c)))).events Tryz.prog w' #[],∃a:Addr,e=⟨.cell a,false,false⟩/\N.gr a.block
structure Dp (N:fg) (C n:Nat) (w:World):Prop where
 sig:w.heap[N.bs]?=some (.cells (N.s.cells++N.ex) 149)
 gone:w.heap[N.bg]?=some (.cells #[.slice (some N.ga) N.glen N.gcap] 22)
 ends:w.heap[N.be]?=some (.cells #[.sk C n n] 25)
 digs:Qa N n w
 tab:ji N.wL w
 size:N.G<=w.heap.size
 zero:∃v0,w.cell? ⟨0,0,none⟩=some v0
theorem lz{N:fg}{ty Wg C:Nat}{val:Nat->Value}(h:RO N.bs/\RO N.bg/\RO N.be/\(∀b,N.gr b->RO b)/\RO 0):EL (g9 Tryz.prog ty Wg C n val RO) (Dp N C n):=λw r d o a=>by
 refine⟨(d _ h.1).trans a.sig,(d _ h.2.1).trans a.gone,(d _ h.2.2.1).trans a.ends,λi p=>a.digs i λb g=>(p b g).trans (d b (h.2.2.2.1 b g)), ?_,Nat.le_trans a.size o, ?_⟩
 ·obtain⟨c,e,f,m,l,k⟩:=a.tab;exact⟨c,e,f,m,l,(d _ h.2.2.2.2).trans k⟩
 ·obtain⟨j,q⟩:=a.zero;refine⟨j, ?_⟩;rw[←q];unfold AB;rw[d _ h.2.2.2.2]
structure rM (N:fg) (n:Nat) (val:Nat->Value) (PL:Program):Prop where
 env:kh PL Tryz.prog N.G
 same:∀f (fn:Func),PL.funcs[f]?=some fn->fn.body.isSome=true->jc PL Tryz.prog f
 here:∃fn fn',PL.funcs[114]?=some fn/\Tryz.prog.funcs[114]?=some fn'/\fn.ntmps=fn'.ntmps/\fn.body=fn'.body/\∃c,fn.body=some c/\pE 114 c=true
 calm:bE N.wL
 low:2<=N.G/\N.G<=N.wL.heap.size
 tree:∀c,c<n->gE PL (nX 114 8 (· =val c)) (cd PL 114 #[.agg N.s.cells, .int .i64 c, .int .i64 (N.dig c), .string (N.s.links.extract (c*32) ((c+1)*32))] []) N.wL
 plain:∀c,c<n->∃t,val c= .string t
 glen:n<=N.glen
 count:N.s.count=n
 small:n<=65536
 links:n*32<=N.s.links.size
section
variable{N:fg}{ty C:Nat}{val:Nat->Value}{done:Nat->Prop}{k:List Item}
def MN(N:fg)(c:Nat):List (Nat×Value):=[(1, .pt N.bs),(3, .pt N.bg),(4, .pt N.be),(5, .int .i64 c),(6, .string (N.s.links.extract (c*32) ((c+1)*32)))]
def TX(N:fg)(C n:Nat)(val:Nat->Value)(c:Nat):List (Nat×Nat×Value):=[(0,12, .sk C n n),(1,13, .int .i64 c),(2,14, .agg N.s.cells),(3,15, .int .i64 c),(4,16, .slice (some N.ga) N.glen N.gcap),(5,17, .int .i64 c),
 (6,18, .pointer (some (N.ga.add c))),(7,19, .int .i64 (N.dig c)),(8,20, .string (N.s.links.extract (c*32) ((c+1)*32))),(9,21,val c),(10,22, .pointer (some ((⟨C,0,none⟩:Addr).add c)))]
theorem Sf:Ev (bX Tryz.f111 4)=true:=k_
theorem Qs(N:fg)(C n:Nat)(val:Nat->Value)(c:Nat):∀p∈TX N C n val c,∀q∈TX N C n val c,p.2.1=q.2.1\/p.1=q.1->p=q:=by intro p b q a h;simp only[TX,AI,Af,or_false]at b a;rcases b with rfl|rfl|rfl|rfl|rfl|rfl|rfl|rfl|rfl|rfl|rfl<;>rcases a with rfl|rfl|rfl|rfl|rfl|rfl|rfl|rfl|rfl|rfl|rfl<;>first|rfl|(exfalso;simp at h)
theorem Da(N:fg)(C n:Nat)(val:Nat->Value)(c:Nat):∀p∈TX N C n val c,p.2.1<23/\p.1≠11/\∀q∈MN N c,q.1≠p.2.1:=by intro p b;simp only[TX,AI,Af,or_false]at b;rcases b with rfl|rfl|rfl|rfl|rfl|rfl|rfl|rfl|rfl|rfl|rfl<;>refine⟨s_,s_,λq a=> ?_⟩<;>simp only[MN,AI,Af,or_false]at a<;>rcases a with rfl|rfl|rfl|rfl|rfl<;>simp
theorem QN{c:Nat}(h:gu (MN N c) (TX N C n val c) 23 listed a){d:Nat}(b:(m,d,v)∈TX N C n val c):gu (MN N c) (TX N C n val c) 23 (listed.setIfInBounds m true) (a.put (some d) v):=
 h.put (Da N C n val c _ b).1 (Da N C n val c _ b).2.2 λp f e=>Qs N C n val c p f _ b e
theorem KX:(∀w:World,(sizeOf 3).run Tryz.prog w= .ok 1 w)/\(∀w:World,(sizeOf 9).run Tryz.prog w= .ok 1 w):=⟨λ_=>k_,λ_=>k_⟩
theorem cI{ev:Operand->Value}{V RO:Nat->Prop}(h:Yl P ev o w v #[]):(execOp ev o).run P w= .ok (.value v) w/\∀e∈(execOp ev o).events P w #[],gv V RO e:=⟨h.1,λe a=>by rw[h.2]at a;simp at a⟩
theorem sy{ev:Operand->Value}{V RO:Nat->Prop}{ad:Addr}(b:V ad.block\/RO ad.block)(h:Yl P ev o w v #[⟨.cell ad,false,false⟩]):(execOp ev o).run P w= .ok (.value v) w/\∀e∈(execOp ev o).events P w #[],gv V RO e:=⟨h.1,λe a=>by rw[h.2]at a;simp only[MB,List.mem_singleton]at a;subst a;exact⟨rfl,b.imp id λh=>⟨h,rfl⟩⟩⟩
theorem IY{ev:Operand->Value}{V RO:Nat->Prop}(c:V b\/RO b)(h:Yl P ev o w v (mh b)):(execOp ev o).run P w= .ok (.value v) w/\∀e∈(execOp ev o).events P w #[],gv V RO e:=⟨h.1,λe a=>by rw[h.2]at a;obtain⟨k,rfl⟩:=C4 a;exact⟨rfl,c.imp id λh=>⟨h,rfl⟩⟩⟩
theorem Fe(s:dk):bO (.agg s.cells)=true:=rfl
def GM(X:bS)(i:Nat)(V:Nat->Prop)(c:Nat)(w0:World)(listed:Array Bool)(w:World):Prop:=(listed[11]?=some false/\w=w0)\/(listed[11]?=some true/\∃w1,bT X i V w0 w1/\w=w1.setCell (X.at c) (X.val c))
theorem GM.other{c:Nat}(a:m≠11)(h:GM X i V c w0 listed w):GM X i V c w0 (listed.setIfInBounds m true) w:=by unfold GM;rw[sN a];exact h
theorem Uw(D:rM N n val PL)(S:RO N.bs/\RO N.bg/\RO N.be/\(∀b,N.gr b->RO b)/\RO 0){c:Nat}(K:c%8=i/\c<n)(hS:uX (g9 Tryz.prog ty Wg C n val RO) i (Dp N C n) V done w0)(X:a.defers=[])(hz:23<=a.tmps.size)(hf:∀p∈MN N c,a.tmps[p.1]?=some p.2)
 (Q:∀a' w,bT (g9 Tryz.prog ty Wg C n val RO) i V w0 w->Wk (g9 Tryz.prog ty Wg C n val RO) i V ((rb 111 l).atR a' k) cs (w.setCell ⟨C,c,none⟩ (val c))):
 Wk (g9 Tryz.prog ty Wg C n val RO) i V ((rb 111 l).atR a (.code (rD Tryz.f111 4)::k)) cs w0:=by
 have hL:=lz (ty:=ty) (Wg:=Wg) (C:=C) (n:=n) (val:=val) S;have aa:∀w,bT (g9 Tryz.prog ty Wg C n val RO) i V w0 w->Dp N C n w:=λw r=>(hS.rely hL r).pap;refine Wk.draw λt=> ?_;have T:Nu ((g9 Tryz.prog ty Wg C n val RO).P.follows .mixedOrders) (bX Tryz.f111 4) t=Bt .any (bX Tryz.f111 4) t:=by unfold Nu;rw[show YN (bX Tryz.f111 4)=false from k_];simp
 rw[T];refine Wk.ordered (CY Sf) (λu a w=>gu (MN N c) (TX N C n val c) 23 u a/\GM (g9 Tryz.prog ty Wg C n val RO) i V c w0 u w) (λu a w Y h=> ?_) (λu a w m o M a0 j hm q h x=> ?_) t a w0 ⟨⟨X,hz,hf,λp O hl=> ?_⟩, .inl ⟨by rfl,rfl⟩⟩
 ·obtain⟨B,L⟩:=h;rcases L with⟨L,_⟩|⟨_,w1,r1,rfl⟩
  ·rw[Y 11 d_]at L;cases L
  ·exact Wk.plain rfl (Q a w1 r1)
 ·obtain⟨B,L⟩:=h;have ab:m<12:=(gA j).1;have Z:∃I,uX (g9 Tryz.prog ty Wg C n val RO) i (Dp N C n) V I w:=by
   rcases L with⟨_,rfl⟩|⟨_,w1,r1,rfl⟩
   ·exact⟨_,hS⟩
   ·exact⟨_,(hS.rely hL r1).put hL K.2⟩
  have F:∀f,bT (g9 Tryz.prog ty Wg C n val RO) i V w f->Dp N C n f:=λf r=>(Z.choose_spec.rely hL r).pap;have g:∀{m:Nat} {o:Oper} {d:Nat} (v:Value),(m,d,v)∈TX N C n val c->o.dst=some d->(∀y,a39 o y=true)->(∀c,o.op≠ .defer c)->m≠11->(bX Tryz.f111 4)[m]?=some o->
   (∀f,bT (g9 Tryz.prog ty Wg C n val RO) i V w f->(execOp a.eval o).run Tryz.prog f= .ok (.value v) f/\∀e∈(execOp a.eval o).events Tryz.prog f #[],gv V RO e)->
   (∀a' f,gu (MN N c) (TX N C n val c) 23 (u.setIfInBounds m true) a'/\GM (g9 Tryz.prog ty Wg C n val RO) i V c w0 (u.setIfInBounds m true) f->Wk (g9 Tryz.prog ty Wg C n val RO) i V ((rb 111 l).atR a' (.inRegion (bX Tryz.f111 4) M::k)) cs f)->
   Wk (g9 Tryz.prog ty Wg C n val RO) i V ((rb 111 l).atR a (.inRegion (bX Tryz.f111 4) (m::M)::k)) cs w:=λ{m o d} v U A z a5 a8 j H x=>by refine Wk.value v j (z _) a5 H ?_;rw[A];exact x _ _ ⟨QN B U,L.other a8⟩
  rcases(o_:m=0\/m=1\/m=2\/m=3\/m=4\/m=5\/m=6\/m=7\/m=8\/m=9\/m=10\/m=11)with rfl|rfl|rfl|rfl|rfl|rfl|rfl|rfl|rfl|rfl|rfl|rfl
  ·obtain⟨A,s,z⟩:=cC (d:=some 12) (p:= .load 25 (.tmp 4)) j k_;refine g (m:=0) _ (mG (i:=0) rfl) A z (by rw[s];simp) d_ j (λf E=> ?_) x;exact sy (.inr S.2.2.1) (aP T1 s (aD (B.fixed _ (mG (i:=2) rfl))) (by rw[aK (F f E).ends];rfl))
  ·obtain⟨A,s,z⟩:=cC (d:=some 13) (p:= .move (.tmp 5)) j k_;refine g (m:=1) _ (mG (i:=1) rfl) A z (by rw[s];simp) d_ j (λf E=> ?_) x;have H:=cz (ev:=a.eval) (o:=o) (w:=f) Tryz.prog (.inl s);rw[(aD (B.fixed _ (mG (i:=3) rfl)))]at H;exact cI H
  ·obtain⟨A,s,z⟩:=cC (d:=some 14) (p:= .load 149 (.tmp 1)) j k_;refine g (m:=2) _ (mG (i:=2) rfl) A z (by rw[s];simp) d_ j (λf E=> ?_) x;exact IY (.inr S.1) (kZ s (aD (B.fixed _ (mG (i:=0) rfl))) (F f E).sig)
  ·obtain⟨A,s,z⟩:=cC (d:=some 15) (p:= .move (.tmp 5)) j k_;refine g (m:=3) _ (mG (i:=3) rfl) A z (by rw[s];simp) d_ j (λf E=> ?_) x;have H:=cz (ev:=a.eval) (o:=o) (w:=f) Tryz.prog (.inl s);rw[(aD (B.fixed _ (mG (i:=3) rfl)))]at H;exact cI H
  ·obtain⟨A,s,z⟩:=cC (d:=some 16) (p:= .load 22 (.tmp 3)) j k_;refine g (m:=4) _ (mG (i:=4) rfl) A z (by rw[s];simp) d_ j (λf E=> ?_) x;exact sy (.inr S.2.1) (aP pV s (aD (B.fixed _ (mG (i:=1) rfl))) (by rw[aK (F f E).gone];rfl))
  ·obtain⟨A,s,z⟩:=cC (d:=some 17) (p:= .move (.tmp 5)) j k_;refine g (m:=5) _ (mG (i:=5) rfl) A z (by rw[s];simp) d_ j (λf E=> ?_) x;have H:=cz (ev:=a.eval) (o:=o) (w:=f) Tryz.prog (.inl s);rw[(aD (B.fixed _ (mG (i:=3) rfl)))]at H;exact cI H
  ·obtain⟨A,s,z⟩:=cC (d:=some 18) (p:= .indexAddr 22 (.tmp 16) (.tmp 17)) j k_;refine g (m:=6) _ (mG (i:=6) rfl) A z (by rw[s];simp) d_ j (λf E=> ?_) x;exact cI (eA (e:=3) k_ KX.1 s (aD (B.come _ (mG (i:=4) rfl) (p5 (n:=6) (k:=4) k_ j q))) (aD (B.come _ (mG (i:=5) rfl) (p5 (n:=6) (k:=5) k_ j q))) (a38 K.2 D.glen))
  ·obtain⟨A,s,z⟩:=cC (d:=some 19) (p:= .load 3 (.tmp 18)) j k_;refine g (m:=7) _ (mG (i:=7) rfl) A z (by rw[s];simp) d_ j (λf E=> ?_) x;have O:=(aD (B.come _ (mG (i:=6) rfl) (p5 (n:=7) (k:=6) k_ j q)));have X:=(F f E).digs f (λ_ _=>rfl) c K.2;have e:execOp a.eval o=(do pure (.value (←a47 3 (.pointer (some (N.ga.add c)))))):=(by simp only[execOp,s,O]);refine⟨by rw[e,K8,X.1];simp,λev W=> ?_⟩;rw[e]at W;have W:ev∈(a47 3 (.pointer (some (N.ga.add c)))).events Tryz.prog f #[]:=by rw[Sem.events_bind,X.1]at W;simpa using W
   obtain⟨ad,rfl,hg⟩:=X.2 ev W;exact⟨rfl, .inr ⟨S.2.2.2.1 _ hg,rfl⟩⟩
  ·obtain⟨A,s,z⟩:=cC (d:=some 20) (p:= .move (.tmp 6)) j k_;refine g (m:=8) _ (mG (i:=8) rfl) A z (by rw[s];simp) d_ j (λf E=> ?_) x;have H:=cz (ev:=a.eval) (o:=o) (w:=f) Tryz.prog (.inl s);rw[(aD (B.fixed _ (mG (i:=4) rfl)))]at H;exact cI H
  ·obtain⟨A,s,z⟩:=cC (d:=some 21) (p:= .call {callee:= .value (.func 114),args:=#[.tmp 14, .tmp 15, .tmp 19, .tmp 20],argTypes:=#[149,3,3,9]}) j k_;obtain⟨I,a7⟩:=Z;have a1:=(aD (B.come _ (mG (i:=2) rfl) (p5 (n:=9) (k:=2) k_ j q)));have a2:=(aD (B.come _ (mG (i:=3) rfl) (p5 (n:=9) (k:=3) k_ j q)));have a3:=(aD (B.come _ (mG (i:=7) rfl) (p5 (n:=9) (k:=7) k_ j q)));have a4:=(aD (B.come _ (mG (i:=8) rfl) (p5 (n:=9) (k:=8) k_ j q)));have R:(#[Ft 14, .tmp 15, .tmp 19, .tmp 20]:Array Operand).map a.eval=#[.agg N.s.cells, .i c, .i (N.dig c), .s (N.s.links.extract (c*32) ((c+1)*32))]:=(by simp[a1,a2,a3,a4]);obtain⟨t,ht⟩:=D.plain c K.2;refine Wk.call (r:=8) (Val:=(· =val c)) D.env S.2.2.2.2 D.same Tryz.func114 d_ (λa9 v w J=> ?_) (λv J=>by rw[J,ht];rfl) D.here ?_ D.calm (D.tree c K.2) (λf E=>⟨D.low.1,D.low.2,(F f E).size⟩) (λf E=>(F f E).tab) a7.low j (z _) (by rw[s];simp) (λf=> ?_) λv J=> ?_
   ·exact pR (t:=8) rfl J w
   ·intro v J;simp only[MB,AI,Af,or_false]at J;rcases J with rfl|rfl|rfl|rfl
    ·exact Fe N.s
    all_goals rfl
   ·have hr:=dq (P:=Tryz.prog) (w:=f) Tryz.func114 k_ k_ #[.agg N.s.cells, .i c, .i (N.dig c), .s (N.s.links.extract (c*32) ((c+1)*32))];exact bU s R hr
   ·subst J;rw[A];exact x _ _ ⟨QN B (mG (i:=9) rfl),L.other d_⟩
  ·obtain⟨A,s,z⟩:=cC (d:=some 22) (p:= .indexAddr 25 (.tmp 12) (.tmp 13)) j k_;refine g (m:=10) _ (mG (i:=10) rfl) A z (by rw[s];simp) d_ j (λf E=> ?_) x;exact cI (eA (e:=9) k_ KX.2 s (aD (B.come _ (mG (i:=0) rfl) (p5 (n:=10) (k:=0) k_ j q))) (aD (B.come _ (mG (i:=1) rfl) (p5 (n:=10) (k:=1) k_ j q))) K.2)
  ·obtain⟨A,s,z⟩:=cC (d:=none) (p:= .store 9 (.tmp 22) (.tmp 21)) j k_;obtain⟨t,ht⟩:=D.plain c K.2;have O:=(aD (B.come _ (mG (i:=10) rfl) (p5 (n:=11) (k:=10) k_ j q)));rw[uS,a46]at O;have J:=(aD (B.come _ (mG (i:=9) rfl) (p5 (n:=11) (k:=9) k_ j q)));rcases L with⟨_,rfl⟩|⟨h3,_⟩
   ·refine Wk.store (c:=c) (v:=val c) j (z _) (by rw[s];simp) rfl k_ K (λf E=> ?_) λf E=> ?_
    ·obtain⟨G,q1,q2⟩:=(hS.rely hL E).list;have q3:c<G.size:=(by rw[show G.size=n from q2];exact K.2);have a6:f.cell? ⟨C,c,none⟩=some G[c]:=by rw[aK q1];exact a4_ q3
     exact eK (by rw[ht];rfl) (by rw[ht];rfl) (KX.2 f) s O J a6 (by unfold Hv;rw[show f.heap[(⟨C,c,none⟩:Addr).block]?=_ from q1];simp)
    ·rw[A];refine x _ _ ⟨B.pass (λp O=>(Da N C n val c p O).2.1) _, .inr ⟨?_,f,E,rfl⟩⟩;exact a40 (by rw[a0];decide)
   ·rw[h3]at hm;cases hm
 ·simp[Fh]at hl
end
end
section
open Go.Conc Go.RowKit
theorem ED:∀f (fn:Func) c,(aI false tP).funcs[f]?=some fn->fn.body=some c->pE f c=true:=by obtain⟨c,h,_⟩:=Er;rw[Lg];exact sn h
theorem yG:∀f (fn:Func) c,(aI true tP).funcs[f]?=some fn->fn.body=some c->pE f c=true:=by rw[Le];exact sn Ep
theorem QD(f:FuncId)(fn:Func)(a:(aI true tP).funcs[f]?=some fn)(b:fn.body.isSome=true)(c:f≠105):jc (aI true tP) tP f:=by rw[Le]at a⊢;exact sj Ep f fn a b c
theorem QE(f:FuncId)(fn:Func)(b:(aI false tP).funcs[f]?=some fn)(g:fn.body.isSome=true):jc (aI false tP) tP f:=by
 by_cases i:f=28
 ·subst i;obtain⟨c,d⟩:=Option.isSome_iff_exists.1 g;have a:(aI false tP).funcs[28]?=some Tryz.f28:=aM (c:=(Tryz.f28.body).getD .skip) Tryz.func28 d_ d_ rfl k_;have e:=a.symm.trans b;cases e;exact⟨_,_,a,Tryz.func28,rfl,rfl,c,d,ED _ _ c a d⟩
 ·obtain⟨c,h,_⟩:=Er;rw[Lg]at b⊢;exact sj h f fn b g i
theorem Rh:(aI false tP).funcs[114]?=some Tryz.f114:=aM (c:=(Tryz.f114.body).getD .skip) Tryz.func114 d_ d_ rfl k_
theorem J2{s:dk}{d:Int}{link:ByteArray}(a:Dr s i d link)(n:w.rangeAt 0 0 (aH KS))(g:KS.length=64)(o:2<=w.heap.size)(f:ji w w)(b:bE w):
 gE (aI false tP) (nX 114 8 (· = .s (kR KS s i d link))) (cd (aI false tP) 114 #[.agg s.cells, .i i, .i d, .s link] []) w:=by
 refine uY QC ED (c:=(Tryz.f114.body).getD .skip) Rh rfl rfl d_ (λv m=> ?_) ⟨a36 2,o⟩ f b rfl (by simp[undef]) λh q=> ?_
 ·have:v= .agg s.cells\/v= .i i\/v= .i d\/v= .s link:=by simpa using m
  rcases this with rfl|rfl|rfl|rfl<;>rfl
 ·obtain⟨e,j,p,l,k⟩:=L1.Eu (ql:=false) KS s i d link a (lx w h 0) n g (show 0<w.heap.size by omega) q;exact⟨e,j,p,l.1,k⟩
def Qr(KS:List Int)(N:fg)(c:Nat):Value:= .string (kR KS N.s c (N.dig c) (N.s.links.extract (c*32) ((c+1)*32)))
theorem LG{N:fg}(j:N.G=2)(g:∀c,c<n->Dr N.s c (N.dig c) (N.s.links.extract (c*32) ((c+1)*32)))(m:N.wL.rangeAt 0 0 (aH KS))(i:KS.length=64)(k:2<=N.wL.heap.size)(h:ji N.wL N.wL)(a:bE N.wL)
 (f:n<=N.glen) (e:N.s.count=n) (b:n<=65536) (d:n*32<=N.s.links.size):rM N n (Qr KS N) (aI false tP) where
 env:=by rw[j];exact Se
 same:=QE
 here:=⟨_,_,Rh,Tryz.func114,rfl,rfl,(Tryz.f114.body).getD .skip,rfl,k_⟩
 calm:=a
 low:=by rw[j];exact⟨a36 2,k⟩
 tree:=λc l=>J2 (g c l) m i k h a
 plain:=λc _=>⟨_,rfl⟩
 glen:=f
 count:=e
 small:=b
 links:=d
end
section
open Go Go.Conc Go.RowKit
open Go.ConcN (WgLive)
theorem Wk.cond{b:Frame}{k:List Item}{w0:World}{A B:Code}(q:Bool)(c:a.eval x= .bool q)(h:Wk X i V (b.atR a (.code (if q then A else B)::k)) cs w0):Wk X i V (b.atR a (.code (.cond x A B)::k)) cs w0:=by
 refine Wk.plain (t:= .code (if q then A else B)::k) ?_ h;have e:(b.atR a (.code (.cond x A B)::k)).eval x= .bool q:=by rw[Iu];exact c
 show(match (b.atR a (.code (.cond x A B)::k)).eval x with| .bool q=>some (Ws (if q then A else B)::k)|_=>none)=_;rw[e]
theorem Px:Tryz.f113.body=some (.seq (rG Tryz.f113 0) (.seq (rG Tryz.f113 1) .ret)):=k_
def pf(f:Func):Code:= .seq (.seq (rG f 1) (.cond (.tmp 10) .skip (.exit 0))) (.seq (.block 1 (.seq (rG f 3) (.cond (.tmp 24) .ret .skip))) (rG f 2))
theorem M5:Tryz.f132.body=some (.seq (rG Tryz.f132 0) (.block 0 (.loop (pf Tryz.f132)))):=k_
def roundOf(f:Func):Code:= .block 1 (rD f 4)
def fe(f:Func):Code:= .seq (rG f 2) (rG f 3)
theorem Py:Tryz.f111.body=some (.seq (rG Tryz.f111 0) (.seq (rG Tryz.f111 1)
 (.block 0 (.rangeFunc (.tmp 9) #[10,11] (fe Tryz.f111) (roundOf Tryz.f111))))):=k_
section
variable{N:fg}{ty C:Nat}{val:Nat->Value}{ld b1:Nat}
structure nV (N:fg) (b1 ld l:Nat) (T:Array Value) (st:LoopState) (w:World):Prop where
 sig:w.heap[b1]?=some (.cells N.s.cells 149)
 list:w.heap[ld]?=some (.deferred (some []))
 loop:w.heap[l]?=some (.loop {state:=st,pending:=none,fn:=111,tmps:=T,params:=#[10,11],assign:=fe Tryz.f111,body:=roundOf Tryz.f111,defers:=ld})
theorem nV.rely{T:Array Value}{b:LoopState}(h:nV N b1 ld l T b w)(a:V b1/\V ld/\V l)(r:bT X i V w w'):nV N b1 ld l T b w':=
 ⟨(r.own.keep _ (.inl a.1)).trans h.sig,(r.own.keep _ (.inl a.2.1)).trans h.list,(r.own.keep _ (.inl a.2.2)).trans h.loop⟩
theorem nV.turn{T:Array Value}{st st':LoopState}(h:nV N b1 ld l T st w)(a:b1≠l/\ld≠l):nV N b1 ld l T st' (bP w l {state:=st',pending:=none,fn:=111,tmps:=T,params:=#[10,11],assign:=fe Tryz.f111,body:=roundOf Tryz.f111,defers:=ld}):=
 ⟨(bD _ _ a.1).trans h.sig,(bD _ _ a.2).trans h.list,gG h.loop⟩
theorem nV.put{T:Array Value}{e:LoopState}(h:nV N b1 ld l T e w)(a:b1≠C/\ld≠C/\l≠C)(c:Nat)(v:Value):nV N b1 ld l T e (w.setCell ⟨C,c,none⟩ v):=by
 have d:∀b,b≠C->(w.setCell ⟨C,c,none⟩ v).heap[b]?=w.heap[b]?:=λb f=>by simp only[BO];exact kL f
 exact⟨(d _ a.1).trans h.sig,(d _ a.2.1).trans h.list,(d _ a.2.2).trans h.loop⟩
theorem Kn(D:rM N n val PL)(H:RO N.bs/\RO N.bg/\RO N.be/\(∀b,N.gr b->RO b)/\RO 0){T:Array Value}(M:aW [(1, .pt N.bs),(3, .pt N.bg),(4, .pt N.be)] 23 [] ⟨T,[]⟩)(f:V b1/\V ld/\V l)(m:b1≠l/\ld≠l)
 {c:Nat} (G:c%8=i/\c<n) {A:Frame}  {done:Nat->Prop}  (u:uX (g9 Tryz.prog ty Wg C n val RO) i (Dp N C n) V done w0) (I:nV N b1 ld l T .ready w0)
 (g:∀w,uX (g9 Tryz.prog ty Wg C n val RO) i (Dp N C n) V (λd=>done d\/d=c) w->nV N b1 ld l T .ready w->Wk (g9 Tryz.prog ty Wg C n val RO) i V (A.finish (.bool true)) cs w):
 Wk (g9 Tryz.prog ty Wg C n val RO) i V (OX l 111 (((#[10,11]:Array Tmp).zip #[.i c, .s (N.s.links.extract (c*32) ((c+1)*32))]).foldl (λtmps (t,a)=>tmps.setIfInBounds t a) T) (fe Tryz.f111) (roundOf Tryz.f111) .normal) (A::cs) w0:=by
 have j:=lz (ty:=ty) (Wg:=Wg) (C:=C) (n:=n) (val:=val) H;have e:=(M.put (d:=10) d_ (.i c)).put (d:=11) d_ (.s (N.s.links.extract (c*32) ((c+1)*32)));have O:((#[10,11]:Array Tmp).zip #[.i c, .s (N.s.links.extract (c*32) ((c+1)*32))]).foldl (λ(tmps:Array Value) (x:Tmp×Value)=>match x with|(t,a)=>tmps.setIfInBounds t a) T=(T.setIfInBounds 10 (.i c)).setIfInBounds 11 (.s (N.s.links.extract (c*32) ((c+1)*32))):=s_
 rw[O];show Wk _ i V ((rb 111 l).atR ((Rf ⟨T,[]⟩ (some 10) (.i c)).put (some 11) (.s (N.s.links.extract (c*32) ((c+1)*32)))) [.code (fe Tryz.f111), .beginRound, .code (roundOf Tryz.f111)]) (A::cs) w0;revert e;generalize (Rf ⟨T,[]⟩ (some 10) (.i c)).put (some 11) (.s (N.s.links.extract (c*32) ((c+1)*32)))=a;intro e;refine Wk.plain rfl (Wk.region (L:=[0]) rfl (Wk.op e 5 (.assign (.tmp 10)) (.i c) d_ k_ s_ (λo v w _=> ?_) λa e=> ?_))
 ·have k:=cz (ev:=a.eval) (w:=w) Tryz.prog (.inr v);rw[e.G 10]at k;exact cI k
 refine Wk.plain rfl (Wk.region (L:=[0]) rfl (Wk.op e 6 (.assign (.tmp 11)) (.s (N.s.links.extract (c*32) ((c+1)*32))) d_ k_ s_ (λo v w _=> ?_) λa e=> ?_))
 ·have k:=cz (ev:=a.eval) (w:=w) Tryz.prog (.inr v);rw[e.G 11]at k;exact cI k
 refine Wk.plain rfl (Wk.rounds rfl f.2.2 I.loop rfl λw r=> ?_);have h:=(u.rely j r).own j (il (RO:=RO) (w:=w) {state:= .busy,pending:=none,fn:=111,tmps:=T,params:=#[10,11],assign:=fe Tryz.f111,body:=roundOf Tryz.f111,defers:=ld} f.2.2);rw[fQ]at h;have z:=(I.rely f r).turn (st':= .busy) m;refine Wk.plain rfl (Uw D H G h e.defers e.size (λp F=> ?_) λQ P E=> ?_)
 ·simp only[MN,AI,Af,or_false]at F;rcases F with rfl|rfl|rfl|rfl|rfl
  ·exact e.slot 1 _ rfl
  ·exact e.slot 3 _ rfl
  ·exact e.slot 4 _ rfl
  ·exact e.slot 5 _ rfl
  ·exact e.slot 6 _ rfl
 have y:=(h.rely j E).put j G.2;have K:b1≠C/\ld≠C/\l≠C:=⟨(u.sep.1 _ f.1).2.1,(u.sep.1 _ f.2.1).2.1,(u.sep.1 _ f.2.2).2.1⟩;have s:=(z.rely f E).put K c (val c);refine Wk.plain rfl (Wk.through rfl rfl f.2.2 s.loop λJ B=> ?_);have q:=(y.rely j B).own j (il (RO:=RO) (w:=J) {state:= .ready,pending:=none,fn:=111,tmps:=T,params:=#[10,11],assign:=fe Tryz.f111,body:=roundOf Tryz.f111,defers:=ld} f.2.2);rw[fQ]at q;exact g _ q ((s.rely f B).turn m)
end
section
variable{N:fg}{ty C:Nat}{val:Nat->Value}{ld b1:Nat}
theorem A6(D:rM N n val PL)(E:RO N.bs/\RO N.bg/\RO N.be/\(∀b,N.gr b->RO b)/\RO 0){T:Array Value}(P:aW [(1, .pt N.bs),(3, .pt N.bg),(4, .pt N.be)] 23 [] ⟨T,[]⟩)(k:V b1/\V ld/\V l)(x:b1≠l/\ld≠l){A:Frame}
 (t:∀w,uX (g9 Tryz.prog ty Wg C n val RO) i (Dp N C n) V (λ_=>True) w->nV N b1 ld l T .ready w->Wk (g9 Tryz.prog ty Wg C n val RO) i V (A.finish (.tuple #[])) cs w)
 (c:Nat) (a:Act) (w0:World) (O:c%8=i) (M:c<=n+8) (f:aW [(0, .func (.yield l) #[] #[]),(2, .pt b1),(4, .i c)] 25 [] a) (B:uX (g9 Tryz.prog ty Wg C n val RO) i (Dp N C n) V (· <c) w0) (u:nV N b1 ld l T .ready w0)
 (q:c<n->∀a w0,aW [(0, .func (.yield l) #[] #[]),(2, .pt b1),(4, .i (c+8:Nat))] 25 [] a->uX (g9 Tryz.prog ty Wg C n val RO) i (Dp N C n) V (· <c+8) w0->nV N b1 ld l T .ready w0->
   Wk (g9 Tryz.prog ty Wg C n val RO) i V ((base 132).atR a [.code (pf Tryz.f132), .inLoop (pf Tryz.f132), .inBlock 0]) (A::cs) w0):
 Wk (g9 Tryz.prog ty Wg C n val RO) i V ((base 132).atR a [.code (pf Tryz.f132), .inLoop (pf Tryz.f132), .inBlock 0]) (A::cs) w0:=by
 have Q:=lz (ty:=ty) (Wg:=Wg) (C:=C) (n:=n) (val:=val) E;have J:=D.small;refine Wk.plain rfl (Wk.plain rfl (Wk.region (L:=[0,1,2,3,4]) rfl ?_));refine Wk.op f 6 (.move (.tmp 4)) (.i c) d_ k_ s_ (λo g w _=> ?_) λa f=> ?_
 ·have h:=cz (ev:=a.eval) (w:=w) Tryz.prog (.inl g);rw[f.G 4]at h;exact cI h
 refine Wk.op f 7 (.fieldAddr 149 (.tmp 2) 0) (.pk b1 0) d_ k_ s_ (λo g w _=>cI (tn g (f.G 2))) λa f=> ?_;refine Wk.op f 8 (.fieldAddr 145 (.tmp 7) 6) (.pk b1 6) d_ k_ s_ (λo g w _=>cI (yU g (f.G 7))) λa f=> ?_;refine Wk.op f 9 (.load 3 (.tmp 8)) (.i n) d_ k_ s_ (λo g w r=>sy (.inl k.1) (aP cp g (f.G 8) (by rw[aK (u.rely k r).sig,←D.count];rfl))) λa f=> ?_;refine Wk.op f 10 (.binOp .lss 3 (.tmp 6) (.tmp 9) 3) (.bool (decide ((c:Int)<n))) d_ k_ s_ (λo g w r=>cI (dw g (f.G 6) (f.G 9))) λa f=> ?_;refine Wk.plain rfl (Wk.cond (decide ((c:Int)<n)) (f.G 10) ?_);by_cases s:c<n
 ·have e:decide ((c:Int)<n)=true:=decide_eq_true o_;rw[e];refine Wk.plain rfl (Wk.plain rfl (Wk.plain rfl (Wk.plain rfl (Wk.region (L:=[0,1,2,3,4,5,6,7,8,9,10,11]) rfl ?_))));refine Wk.op f 13 (.move (.tmp 0)) (.func (.yield l) #[] #[]) d_ k_ s_ (λo g w _=> ?_) λa f=> ?_
  ·have h:=cz (ev:=a.eval) (w:=w) Tryz.prog (.inl g);rw[f.G 0]at h;exact cI h
  refine Wk.op f 14 (.move (.tmp 4)) (.i c) d_ k_ s_ (λo g w _=> ?_) λa f=> ?_
  ·have h:=cz (ev:=a.eval) (w:=w) Tryz.prog (.inl g);rw[f.G 4]at h;exact cI h
  refine Wk.op f 15 (.fieldAddr 149 (.tmp 2) 3) (.pk b1 10) d_ k_ s_ (λo g w _=>cI (GT g (f.G 2))) λa f=> ?_;refine Wk.op f 16 (.load 9 (.tmp 15)) (.s N.s.links) d_ k_ s_ (λo g w r=>sy (.inl k.1) (aP bM g (f.G 15) (by rw[aK (u.rely k r).sig];rfl))) λa f=> ?_;refine Wk.op f 17 (.move (.tmp 4)) (.i c) d_ k_ s_ (λo g w _=> ?_) λa f=> ?_
  ·have h:=cz (ev:=a.eval) (w:=w) Tryz.prog (.inl g);rw[f.G 4]at h;exact cI h
  refine Wk.op f 18 (.binOp .mul 3 (.tmp 17) (.const (.i 32)) 3) (.i (c*32:Nat)) d_ k_ s_ (λo g w _=> ?_) λa f=> ?_
  ·have h:=mS (ev:=a.eval) (w:=w) (m:=c) (n:=32) g (f.G 17) rfl o_;exact cI (by rw[VI];exact h)
  refine Wk.op f 19 (.move (.tmp 4)) (.i c) d_ k_ s_ (λo g w _=> ?_) λa f=> ?_
  ·have h:=cz (ev:=a.eval) (w:=w) Tryz.prog (.inl g);rw[f.G 4]at h;exact cI h
  refine Wk.op f 20 (.binOp .add 3 (.tmp 19) (.const (.i 1)) 3) (.i (c+1:Nat)) d_ k_ s_ (λo g w _=> ?_) λa f=> ?_
  ·have h:=oP (ev:=a.eval) (w:=w) (m:=c) (n:=1) g (f.G 19) rfl o_;exact cI (by rw[NY];exact h)
  refine Wk.op f 21 (.binOp .mul 3 (.tmp 20) (.const (.i 32)) 3) (.i ((c+1)*32:Nat)) d_ k_ s_ (λo g w _=> ?_) λa f=> ?_
  ·have h:=mS (ev:=a.eval) (w:=w) (m:=(c+1:Nat)) (n:=32) g (f.G 20) rfl o_;exact cI (by rw[VI];exact h)
  refine Wk.op f 22 (.slice 9 (.tmp 16) (some (.tmp 18)) (some (.tmp 21)) none) (.s (N.s.links.extract (c*32) ((c+1)*32))) d_ k_ s_
   (λo g w _=>cI (fA g (f.G 16) (f.G 18) (f.G 21) o_ (by have:=D.links;omega))) λa f=> ?_
  cases g:(bX Tryz.f132 3)[10]? with
  |none=>exact absurd g (by simp;decide)
  |some o=>
   obtain⟨U,I,S⟩:=cC (d:=some 23) (p:= .call {callee:= .value (.tmp 13),args:=#[.tmp 14, .tmp 22],argTypes:=#[3,9]}) g k_;have X:=f.G 14;have W:=f.G 22;refine Wk.yields (args:=#[.i c, .s (N.s.links.extract (c*32) ((c+1)*32))]) g (S _) (by rw[I];simp) k.2.2 u.loop rfl (λw=>jw I (f.G 13) (by simp[X,W]) w) ?_;refine Kn D E P k x ⟨O,s⟩ B u λw y z=> ?_;rw[BR,g,Hk,U];have f:=f.put (d:=23) d_ (.bool true);revert f;generalize a.put (some 23) (.bool true)=a;intro f;refine Wk.op f 24 (.unOp .not 4 (.tmp 23)) (.bool false) d_ k_ s_ (λo g w _=>cI (tl g (f.G 23))) λa f=> ?_;refine Wk.plain rfl (Wk.cond false (f.G 24) ?_);refine Wk.plain rfl (Wk.plain rfl (Wk.region (L:=[0,1,2]) rfl ?_));refine Wk.op f 11 (.move (.tmp 4)) (.i c) d_ k_ s_ (λo g w _=> ?_) λa f=> ?_
   ·have h:=cz (ev:=a.eval) (w:=w) Tryz.prog (.inl g);rw[f.G 4]at h;exact cI h
   refine Wk.op f 12 (.binOp .add 3 (.tmp 11) (.const (.i 8)) 3) (.i (c+8:Nat)) d_ k_ s_ (λo g w _=> ?_) λa f=> ?_
   ·have h:=oP (ev:=a.eval) (w:=w) (m:=c) (n:=8) g (f.G 11) rfl o_;exact cI (by rw[NY];exact h)
   refine Wk.op f 4 (.assign (.tmp 12)) (.i (c+8:Nat)) d_ k_ s_ (λo g w _=> ?_) λa f=> ?_
   ·have h:=cz (ev:=a.eval) (w:=w) Tryz.prog (.inr g);rw[f.G 12]at h;exact cI h
   refine Wk.plain rfl (Wk.plain rfl (q s a w ⟨f.defers,f.size,λd v j=> ?_⟩ (y.mono λd j K=> ?_) z))
   ·have R:d=0\/d=2\/d=4:=by
     by_cases H:d=0
     ·exact .inl H
     ·by_cases G:d=2
      ·exact .inr (.inl G)
      ·by_cases F:d=4
       ·exact .inr (.inr F)
       ·simp[a51,show(d==0)=false from by simpa using H,show(d==2)=false from by simpa using G,show(d==4)=false from by simpa using F]at j
    rcases R with rfl|rfl|rfl
    ·exact f.slot 0 v j
    ·exact f.slot 2 v j
    ·exact f.slot 4 v j
   ·have:=j.1;omega
 ·have e:decide ((c:Int)<n)=false:=decide_eq_false o_;rw[e];refine Wk.plain rfl (Wk.ends rfl (.inl rfl) (Wk.leave (.tuple #[]) rfl f.defers Tryz.func132 (λw=>⟨results_none rfl _ _ w,events_results_none rfl _ _⟩) ?_));intro w r;exact t w ((B.rely Q r).mono λd j _=>by have:=j.2;omega) (u.rely k r) w (bT.refl _ _ _ _)
theorem Lb(D:rM N n val PL)(s:RO N.bs/\RO N.bg/\RO N.be/\(∀b,N.gr b->RO b)/\RO 0){T:Array Value}(r:aW [(1, .pt N.bs),(3, .pt N.bg),(4, .pt N.be)] 23 [] ⟨T,[]⟩)(q:V b1/\V ld/\V l)(g:b1≠l/\ld≠l){t:Frame}
 (e:∀w,uX (g9 Tryz.prog ty Wg C n val RO) i (Dp N C n) V (λ_=>True) w->nV N b1 ld l T .ready w->Wk (g9 Tryz.prog ty Wg C n val RO) i V (t.finish (.tuple #[])) cs w):
 ∀(d c:Nat) (a:Act) (w0:World),n- c<=d->c%8=i->c<=n+8->aW [(0, .func (.yield l) #[] #[]),(2, .pt b1),(4, .i c)] 25 [] a->uX (g9 Tryz.prog ty Wg C n val RO) i (Dp N C n) V (· <c) w0->nV N b1 ld l T .ready w0->
  Wk (g9 Tryz.prog ty Wg C n val RO) i V ((base 132).atR a [.code (pf Tryz.f132), .inLoop (pf Tryz.f132), .inBlock 0]) (t::cs) w0:=by
 intro d;induction d with
 |zero=>exact λc a w0 o p f m j k=>A6 D s r q g e c a w0 p f m j k λh=>o_
 |succ d u=>exact λc a w0 o p f m j k=>A6 D s r q g e c a w0 p f m j k λh a w m j k=>u (c+8) a w o_ o_ o_ m j k
end
end
section
open Go
abbrev JY:Z3:={add:=110,done:=112,wait:=115,relMerge:=119,disable:=120,enable:=121,inBubble:=122,associate:=123,fatal:=124,uOr:=125,uAdd:=126,raceRead:=127,uLoad:=128,uStore:=129,disassociate:=130,semrelease:=131,acquire:=135,isAssociated:=136,uCas:=137,raceWrite:=138,semacquire:=139,orU64:=140,addU64:=141,loadU64:=142,storeU64:=143,casU64:=145,tWgP:=174,tUP:=138,tAssoc:=176,tWg:=170,tAU:=168,tU64:=67,tUint:=55,tU32:=64,tPU32:=179,tPAU:=188,tPU64:=190,tNoCopy:=164,tANoCopy:=165,tAlign64:=166}
theorem rO:Zh Tryz.prog JY:=by
 constructor
 all_goals first|kernel_rfl|(intro w;kernel_rfl)
end
section
open Go Go.Conc Go.RowKit
open Go.ConcN (WgLive)
section
variable{N:fg}{C:Nat}{val:Nat->Value}{bi:Nat}
theorem Na(D:rM N n val PL)(hR:RO N.bs/\RO N.bg/\RO N.be/\(∀b,N.gr b->RO b)/\RO 0)(hi:i<8)(hS:uX (g9 Tryz.prog 170 Wg C n val RO) i (Dp N C n) (· =bi) (λ_=>False) w)(hbi:w.heap[bi]?=some (.cells #[.i i] 3)):
 bA (g9 Tryz.prog 170 Wg C n val RO) i ⟨(· =bi),born Tryz.prog {target:= .fn (.func 111) #[.pk Wg 0, .pk N.bs 0, .pk bi 0, .pk N.bg 0, .pk N.be 0],args:=#[]},w⟩:=by
 have hL:=lz (ty:=170) (Wg:=Wg) (C:=C) (n:=n) (val:=val) hR;refine Wk.born (X:=g9 Tryz.prog 170 Wg C n val RO) (i:=i) (V:=(· =bi)) (f:=111) (fn:=Tryz.f111) Tryz.func111 k_ k_ ?_;rw[show(#[]:Array Value)++#[.pk Wg 0, .pk N.bs 0, .pk bi 0, .pk N.bg 0, .pk N.be 0]=[.pk Wg 0, .pk N.bs 0, .pk bi 0, .pk N.bg 0, .pk N.be 0].toArray from s_,
  Lv (N:=23) _ Tryz.func111 Py rfl]
 have hF:=aN [.pk Wg 0, .pk N.bs 0, .pk bi 0, .pk N.bg 0, .pk N.be 0] 23 s_;revert hF;generalize (Act.mk (([.pk Wg 0, .pk N.bs 0, .pk bi 0, .pk N.bg 0, .pk N.be 0]:List Value).toArray++a41 (23-([.pk Wg 0, .pk N.bs 0, .pk bi 0, .pk N.bg 0, .pk N.be 0]:List Value).toArray.size) undef) [])=a;intro hF;refine Wk.plain rfl (Wk.region (L:=[0]) rfl ?_);cases ho:(bX Tryz.f111 0)[0]? with
 |none=>exact absurd ho (by simp;decide)
 |some o=>
 obtain⟨e1,e2,e3⟩:=cC (d:=none) (p:= .defer {callee:= .value (.func 112),args:=#[.tmp 0],argTypes:=#[170]}) ho k_;refine Wk.defer ho (e3 _) (by simp[baseD]) rfl e2 ?_;have hF1:aW (jG 0 [.pk Wg 0, .pk N.bs 0, .pk bi 0, .pk N.bg 0, .pk N.be 0]) 23 [dcall JY.done #[.pk Wg 0]] (Rf ⟨a.tmps,dcall 112 (#[Ft 0].map a.eval)::a.defers⟩ o.dst undef):=by rw[e1,hF.defers,show(#[Ft 0]:Array Operand).map a.eval=#[.pk Wg 0]from by simp[hF.G 0]];exact⟨rfl,hF.size,hF.slot⟩
 revert hF1;generalize Rf ⟨a.tmps,dcall 112 (#[Ft 0].map a.eval)::a.defers⟩ o.dst undef=a;clear hF e1 e2 e3 ho;intro hF;refine Wk.plain rfl (Wk.plain rfl (Wk.region (L:=[0,1,2]) rfl ?_));refine Wk.op hF 7 (.load 149 (.tmp 1)) (.agg N.s.cells) d_ k_ s_ (λo ho w r=>IY (.inr hR.1) (kZ ho (hF.G 1) (hS.rely hL r).pap.sig)) λa hF=> ?_;refine Wk.op hF 8 (.load 3 (.tmp 2)) (.i i) d_ k_ s_ (λo ho w r=>sy (.inl rfl) (aP cp ho (hF.G 2) (by rw[aK ((r.own.keep bi (.inl rfl)).trans hbi)];rfl))) λa hF=> ?_;cases ho:(bX Tryz.f111 1)[2]? with
 |none=>exact absurd ho (by simp;decide)
 |some o=>
 obtain⟨e1,e2,e3⟩:=cC (d:=some 9) (p:= .call {callee:= .value (.func 113),args:=#[.tmp 7, .tmp 8],argTypes:=#[149,3]}) ho k_;have hr:=λw=>bU (w:=w) e2 (show(#[Ft 7, .tmp 8]:Array Operand).map a.eval=[.agg N.s.cells, .i i].toArray from by simp[hF.G 7,hF.G 8]) (dq Tryz.func113 k_ k_ _);refine Wk.enter ho (e3 _) (by rw[e2];simp) (λw _=>⟨(hr w).1,λe he=>by rw[(hr w).2]at he;simp at he⟩) ?_;rw[aV (N:=6) _ Tryz.func113 Px rfl];have hG:=aN [.agg N.s.cells, .i i] 6 s_;revert hG;generalize (Act.mk ([.agg N.s.cells, .i i].toArray++a41 (6-[.agg N.s.cells,Value.i i].toArray.size) undef) [])=g;intro hG;refine Wk.plain rfl (Wk.region (L:=[0,1,2]) rfl ?_);refine Wk.mk hG 2 (.box 149 (.tmp 0)) N.s.cells 149 d_ k_ s_ (λo ho w=> ?_) λg w1 r1 hG=> ?_
 ·have:=mo (ev:=g.eval) (w:=w) Tryz.prog ho;rw[hG.G 0]at this;exact this
 have hS1:=(hS.rely hL r1).own hL (oi (· =bi) RO w1 (.cells N.s.cells 149));refine Wk.mk hG 3 (.box 3 (.tmp 1)) #[.i i] 3 d_ k_ s_ (λo ho w=> ?_) λg w2 r2 hG=> ?_
 ·have:=mo (ev:=g.eval) (w:=w) Tryz.prog ho;rw[hG.G 1]at this;exact this
 have hS2:=(hS1.rely hL r2).own hL (oi (ck (· =bi) w1 (w1.alloc (.cells N.s.cells 149))) RO w2 (.cells #[.i i] 3));have hb1:w1.heap.size<w2.heap.size:=by have:=r2.own.size;rw[aQ]at this;omega
 have hV1:ck (· =bi) w1 (w1.alloc (.cells N.s.cells 149)) w1.heap.size:= .inr ⟨a36 _,by rw[aQ];omega⟩;have hsig:(w2.alloc (.cells #[.i i] 3)).heap[w1.heap.size]?=some (.cells N.s.cells 149):=by rw[cN _ _ hb1,r2.own.keep _ (.inl hV1),bJ]
 have hV2:ck (ck (· =bi) w1 (w1.alloc (.cells N.s.cells 149))) w2 (w2.alloc (.cells #[.i i] 3)) w2.heap.size:= .inr ⟨a36 _,by rw[aQ];omega⟩;have hV21:ck (ck (· =bi) w1 (w1.alloc (.cells N.s.cells 149))) w2 (w2.alloc (.cells #[.i i] 3)) w1.heap.size:= .inl hV1;have hint:=bJ w2 (.cells #[.i i] 3);revert hS2 hsig hV2 hV21 hint;generalize ck (ck (· =bi) w1 (w1.alloc (.cells N.s.cells 149))) w2 (w2.alloc (.cells #[.i i] 3))=V;generalize w2.alloc (.cells #[.i i] 3)=wz;generalize hB1:w1.heap.size=b1 at hb1 hG⊢;generalize hB2:w2.heap.size=b2 at hb1 hG⊢;intro hS2 hsig hV2 hV21 hint;clear hS1 r1 r2 hV1 hB1 hB2 hS hbi;refine Wk.op hG 4 (.assign (.const .nilFunc)) .nilFunc d_ k_ s_ (λo ho w _=>cI (cz (ev:=g.eval) (w:=w) Tryz.prog (.inr ho))) λg hG=> ?_;refine Wk.plain rfl (Wk.plain rfl (Wk.region (L:=[0,1]) rfl ?_));refine Wk.op hG 5 (.makeFunc (.func 132) #[] #[.tmp 3, .tmp 2]) (.func (.func 132) #[] #[.pk b2 0, .pk b1 0]) d_ k_ s_ (λo ho w _=> ?_) λg hG=> ?_
 ·have hy:=fB (ev:=g.eval) (w:=w) Tryz.prog ho;rw[show(#[Ft 3, .tmp 2]:Array Operand).map g.eval=#[.pk b2 0, .pk b1 0]from by simp[hG.G 3,hG.G 2]]at hy;exact cI hy
 refine Wk.op hG 4 (.assign (.tmp 5)) (.func (.func 132) #[] #[.pk b2 0, .pk b1 0]) d_ k_ s_ (λo ho w _=> ?_) λg hG=> ?_
 ·have hy:=cz (ev:=g.eval) (w:=w) Tryz.prog (.inr ho);rw[hG.G 5]at hy;exact cI hy
 refine Wk.plain rfl (Wk.ends rfl (.inr ⟨_,rfl⟩) (Wk.leave (.func (.func 132) #[] #[.pk b2 0, .pk b1 0]) rfl hG.defers Tryz.func113 (λw=>pR (t:=4) rfl (hG.slot 4 _ rfl) w) ?_));rw[BR,ho,Hk,e1];have hF:=hF.put (d:=9) d_ (.func (.func 132) #[] #[.pk b2 0, .pk b1 0]);revert hF;generalize a.put (some 9) (.func (.func 132) #[] #[.pk b2 0, .pk b1 0])=a;intro hF;clear e1 e2 e3 ho hr hG;refine Wk.plain rfl (Wk.plain rfl ?_);refine Wk.range (first:=#[]) rfl Tryz.func132 k_ k_ (hF.G 9) λw3 r3=> ?_;have hs3:=r3.own.size;have l1:b1<w3.heap.size:=a38 (hS2.low.1 b1 (.inl hV21)) hs3;have l2:b2<w3.heap.size:=a38 (hS2.low.1 b2 (.inl hV2)) hs3;have hown:cB V RO w3 (cT w3 {state:= .ready,pending:=none,fn:=(baseD 111).fn,tmps:=a.tmps,params:=#[10,11],assign:=fe Tryz.f111,body:=roundOf Tryz.f111,defers:=w3.heap.size}) #[]:=
  ⟨λm hm _=>bK w3 _ hm,by rw[gZ];omega,rfl,rfl,rfl,λe he=>by simp at he⟩
 have hS3:=(hS2.rely hL r3).own hL hown;have eg:ck V w3 (cT w3 {state:= .ready,pending:=none,fn:=(baseD 111).fn,tmps:=a.tmps,params:=#[10,11],assign:=fe Tryz.f111,body:=roundOf Tryz.f111,defers:=w3.heap.size})=kI V w3:=by
  funext m
  apply propext;unfold ck kI;rw[gZ];constructor
  ·rintro(h|h)
   ·exact .inl h
   ·exact .inr o_
  ·rintro(h|h)
   ·exact .inl h
   ·exact .inr o_
 rw[eg]at hS3;have hM:nV N b1 w3.heap.size (w3.heap.size+1) a.tmps .ready (cT w3 {state:= .ready,pending:=none,fn:=(baseD 111).fn,tmps:=a.tmps,params:=#[10,11],assign:=fe Tryz.f111,body:=roundOf Tryz.f111,defers:=w3.heap.size}):=
  ⟨(bK w3 _ l1).trans ((r3.own.keep _ (.inl hV21)).trans hsig),eN w3 _,eM w3 _⟩
 have hint3:(cT w3 {state:= .ready,pending:=none,fn:=(baseD 111).fn,tmps:=a.tmps,params:=#[10,11],assign:=fe Tryz.f111,body:=roundOf Tryz.f111,defers:=w3.heap.size}).heap[b2]?=some (.cells #[.i i] 3):=
  (bK w3 _ l2).trans ((r3.own.keep _ (.inl hV2)).trans hint)
 rw[show(#[]:Array Value)++#[.func (.yield (w3.heap.size+1)) #[] #[]]++#[.pk b2 0, .pk b1 0]=[.func (.yield (w3.heap.size+1)) #[] #[], .pk b2 0, .pk b1 0].toArray from s_,
  aV (N:=25) _ Tryz.func132 M5 rfl]
 have hH:=aN [.func (.yield (w3.heap.size+1)) #[] #[], .pk b2 0, .pk b1 0] 25 s_;revert hH;generalize (Act.mk ([.func (.yield (w3.heap.size+1)) #[] #[], .pk b2 0, .pk b1 0].toArray++a41 (25-[.func (.yield (w3.heap.size+1)) #[] #[], .pk b2 0,Value.pk b1 0].toArray.size) undef) [])=g;intro hH;have hV3:kI V w3 b1/\kI V w3 w3.heap.size/\kI V w3 (w3.heap.size+1):=⟨.inl hV21, .inr (.inl rfl), .inr (.inr rfl)⟩;have hne:b1≠w3.heap.size+1/\w3.heap.size≠w3.heap.size+1:=⟨o_,o_⟩;refine Wk.plain rfl (Wk.region (L:=[0,1]) rfl ?_);refine Wk.op hH 5 (.load 3 (.tmp 1)) (.i i) d_ k_ s_ (λo ho w r=>sy (.inl (.inl hV2)) (aP cp ho (hH.G 1) (by rw[aK ((r.own.keep b2 (.inl (.inl hV2))).trans hint3)];rfl))) λg hH=> ?_;refine Wk.op hH 4 (.assign (.tmp 5)) (.i i) d_ k_ s_ (λo ho w _=> ?_) λg hH=> ?_
 ·have hy:=cz (ev:=g.eval) (w:=w) Tryz.prog (.inr ho);rw[hH.G 5]at hy;exact cI hy
 refine Wk.plain rfl (Wk.plain rfl (Wk.plain rfl ?_));have look3:∀{x y z:Value} (F:List (Nat×Value)),F.lookup 0=some x->F.lookup 2=some y->F.lookup 4=some z->∀d v,[(0,x),(2,y),(4,z)].lookup d=some v->F.lookup d=some v:=by
  intro x y z F h0 h2 h4 d v hd;by_cases e0:d=0
  ·subst e0;rw[h0];exact hd
  by_cases e2:d=2
  ·subst e2;rw[h2];exact hd
  by_cases e4:d=4
  ·subst e4;rw[h4];exact hd
  simp[a51,show(d==0)=false from by simpa using e0,show(d==2)=false from by simpa using e2,show(d==4)=false from by simpa using e4]at hd
 have look3':∀{x y z:Value} (F:List (Nat×Value)),F.lookup 1=some x->F.lookup 3=some y->F.lookup 4=some z->∀d v,[(1,x),(3,y),(4,z)].lookup d=some v->F.lookup d=some v:=by
  intro x y z F h0 h2 h4 d v hd;by_cases e0:d=1
  ·subst e0;rw[h0];exact hd
  by_cases e2:d=3
  ·subst e2;rw[h2];exact hd
  by_cases e4:d=4
  ·subst e4;rw[h4];exact hd
  simp[a51,show(d==1)=false from by simpa using e0,show(d==3)=false from by simpa using e2,show(d==4)=false from by simpa using e4]at hd
 refine Lb (l:=w3.heap.size+1) (ld:=w3.heap.size) (b1:=b1) D hR (T:=a.tmps) ⟨rfl,hF.size,λd v hd=>hF.slot d v (look3' _ rfl rfl rfl d v hd)⟩ hV3 hne (λw hSe hMe=> ?_) n i g _ o_ o_ o_ (hH.sub (look3 _ rfl rfl rfl)) (hS3.mono λc hc hlt=> ?_) hM
 ·show Wk _ i (kI V w3) ((baseD 111).atR ⟨a.tmps,{target:= .collected w3.heap.size,args:=#[]}::a.defers⟩ (.endRangeFunc (w3.heap.size+1)::[.inBlock 0])) [uZ Tryz.prog] w;refine Wk.rangeOver hV3.2.2 hMe.loop rfl rfl λw4 r4=> ?_;have hS4:=(hSe.rely hL r4).own hL (il (RO:=RO) (w:=w4) {state:= .exhausted,pending:=none,fn:=111,tmps:=a.tmps,params:=#[10,11],assign:=fe Tryz.f111,body:=roundOf Tryz.f111,defers:=w3.heap.size} hV3.2.2);rw[fQ]at hS4;have hM4:=(hMe.rely hV3 r4).turn (st':= .exhausted) hne;refine Wk.plain rfl (Wk.ends rfl (.inl rfl) (Wk.take rfl hV3.2.1 hM4.list λw5 r5=> ?_));rw[hF.defers];have hown5:cB (kI V w3) RO w5 {w5 with heap:=w5.heap.setIfInBounds w3.heap.size (.deferred none)} #[]:=
   ⟨λm _ hm=>sN (show w3.heap.size≠m from λe=>hm (e▸hV3.2.1)),s_,rfl,rfl,rfl,λe he=>by simp at he⟩
  have hS5:=(hS4.rely hL r5).own hL hown5;obtain⟨v0,h0⟩:=hS5.pap.zero;exact Wk.done (X:=g9 Tryz.prog 170 Wg C n val RO) rO rfl hR.2.2.2.2 Tryz.func111 rfl h0 hS5.live λc hc=>hS5.cells c hc trivial
 ·have:=hc.1;have:=hc.2;omega
end
end
section
open Go Go.Conc Go.RowKit
open Go.ConcN (WgLive)
open Go.ConcR (DC0)
def iC(f:Func):Code:= .seq (rG f 4) (.seq (.cond (.tmp 13) .skip (.exit 0)) (.seq (.block 1 (.seq (rG f 5) (.seq (rG f 6) (rG f 7)))) (rG f 8)))
def kE(f:Func):Code:= .seq (rG f 9) (.seq (rG f 10) .ret)
theorem PF:Tryz.f105.body=some (.seq (rG Tryz.f105 0) (.seq (rG Tryz.f105 1) (.seq (rG Tryz.f105 2)
 (.seq (.seq (rG Tryz.f105 3) (.block 0 (.loop (iC Tryz.f105)))) (kE Tryz.f105))))):=k_
theorem Ik.cond{c:(Nat->Prop)->Goroutine->World->Prop}{b:Frame}{k:List Item}{w0:World}{A B:Code}(q:Bool)(d:a.eval x= .bool q)(h:Ik X c m V (b.atR a (.code (if q then A else B)::k)) cs w0):Ik X c (m+1) V (b.atR a (.code (.cond x A B)::k)) cs w0:=by
 refine Ik.plain (t:= .code (if q then A else B)::k) ?_ h;have e:(b.atR a (.code (.cond x A B)::k)).eval x= .bool q:=by rw[Iu];exact d
 show(match (b.atR a (.code (.cond x A B)::k)).eval x with| .bool q=>some (Ws (if q then A else B)::k)|_=>none)=_;rw[e]
theorem Ik.seg{a:(Nat->Prop)->Goroutine->World->Prop}{w0:World}(h:∀w,bV X V w0 w->Goes X.P true (bV X V) DC0 (a V) m (G fr cs) w):Ik X a m V fr cs w0:=λw b=>dr (h w b)
theorem cD.up{a:(Nat->Prop)->Goroutine->World->Prop}:∀{m:Nat} {V:Nat->Prop} {g:Goroutine} {w:World},cD X a m V g w->cD X a (m+1) V g w
 |0,_,_,_,h=> .inl h
 |_+1,_,_,_,h=>h.elim .inl λ⟨d,h⟩=> .inr ⟨d,λb c=>let ⟨g',w',es,h1,h2,h3⟩:=h b c;⟨g',w',es,h1,h2,cD.up h3⟩⟩
theorem cD.to{a:(Nat->Prop)->Goroutine->World->Prop}(h:cD X a m V g w):∀e,cD X a (m+e) V g w
 |0=>h
 |e+1=>(cD.to h e).up
theorem Ik.to{a:(Nat->Prop)->Goroutine->World->Prop}{w0:World}(c:m<=n)(h:Ik X a m V fr cs w0):Ik X a n V fr cs w0:=λw b=>by
 have:=(h w b).to (n- m)
 rwa [show m+(n- m)=n from o_]at this
structure Sn (X:bS) (wE w:World):Prop where
 live:WgLive X.ty X.Wg w
 since:eo X.RO wE w
theorem Sn.rely{b a:World}(h:Sn X b w)(r:bV X V w a):Sn X b a:=⟨r.live h.live,h.since.trans (r.own.mono λ_ c=> .inr c)⟩
theorem Sn.meet{b a:World}(h:Sn X b w)(r:mR X V w a):Sn X b a:=⟨r.live,h.since.trans (r.since.mono λ_ c=> .inr c)⟩
structure Bi (N:fg) (Wg C n:Nat) (RO:Nat->Prop) (wE:World):Prop where
 pap:Dp N C n wE
 ro:RO N.bs/\RO N.bg/\RO N.be/\(∀b,N.gr b->RO b)/\RO 0
 low:(∀b,RO b->b<wE.heap.size)/\Wg<wE.heap.size/\C<wE.heap.size
 sep:¬RO C/\C≠Wg/\¬RO Wg
abbrev Vn:Nat->Prop:=λ_=>False
section
variable{N:fg}{C:Nat}{val:Nat->Value}{c:Frame}
def Ml(N:fg)(Wg j:Nat):List (Nat×Value):=[(2, .pt N.bs),(3, .pt N.bg),(5, .pt N.be),(6, .pt Wg),(12, .int .i64 j)]
theorem yc(m:F.lookup 2=some (.pk N.bs 0))(l:F.lookup 3=some (.pk N.bg 0))(k:F.lookup 5=some (.pk N.be 0))(i:F.lookup 6=some (.pk Wg 0))(b:F.lookup 12=some (.i j)):
 ∀d v,(Ml N Wg j).lookup d=some v->F.lookup d=some v:=by
 intro d v a;by_cases h:d=2
 ·subst h;rw[m];exact a
 by_cases g:d=3
 ·subst g;rw[l];exact a
 by_cases f:d=5
 ·subst f;rw[k];exact a
 by_cases e:d=6
 ·subst e;rw[i];exact a
 by_cases c:d=12
 ·subst c;rw[b];exact a
 simp[Ml,a51,show(d==2)=false from by simpa using h,show(d==3)=false from by simpa using g,show(d==5)=false from by simpa using f,show(d==6)=false from by simpa using e,show(d==12)=false from by simpa using c]at a
def EN(X:bS)(wE:World)(c:Frame)(cs:List Frame)(_:Nat->Prop)(g:Goroutine)(w:World):Prop:=g=gB (c.finish (.sk X.C X.n X.n)) cs/\eo X.RO wE w
def Qg(f:FuncId)(ops:Array Oper)(k:List Item)(X:bS)(N:fg)(wE:World)(cs:List Frame)(V:Nat->Prop)(g:Goroutine)(w:World):Prop:=
 ∃w00 a,aW (Ml N X.Wg 8) 20 [] a/\Sn X wE w00/\EM X JY w00 ((base f).at a (.inRegion ops [0]::k)) cs V g w
theorem sY.mono{Fin A A':(Nat->Prop)->Goroutine->World->Prop}(n:∀V g w,A V g w->A' V g w)(h:sY X Fin A V g w):sY X Fin A' V g w:=by refine⟨h.1,λv l j=> ?_⟩;obtain⟨u,r,q,p⟩:=h.2 v l j;refine⟨u,r,q,λs=> ?_⟩;obtain⟨k,m⟩:=p s;refine⟨k,m.mono λV g w e=>⟨e.1,λf b a=>⟨(e.2 f b a).1,λc=> ?_⟩⟩⟩;obtain⟨t,o,i,d⟩:=(e.2 f b a).2 c;exact⟨t,o,i,d.mono n⟩
end
theorem wI(V:Nat->Prop)(w:World)(a:Addr)(v:Value):ck V w (w.setCell a v)=V:=by
 funext b
 apply propext;exact⟨λh=>h.elim id λh=>absurd h.2 (by simpa[BO]using h.1), .inl⟩
theorem wJ(w:World)(o:Obj):ck Vn w (w.alloc o)=(· =w.heap.size):=by
 funext b
 apply propext;unfold ck;rw[aQ];exact⟨λh=>h.elim (λh=>h.elim) λh=>o_,λh=> .inr o_⟩
theorem Nt{ev:Operand->Value}{a:Array Value}(b:o.op= .go {callee:= .value x,args:=#[],argTypes:=#[]})(c:ev x= .func (.func f) #[] a)(w:World):
 (execOp ev o).run P w= .ok (.spawn {target:= .fn (.func f) a,args:=#[]}) w/\(execOp ev o).events P w #[]=#[]:=by constructor<;>simp[execOp,b,resolve,Deferred.ofValue,c]
section
variable{N:fg}{C:Nat}{val:Nat->Value}{c:Frame}
theorem wn(a:Bi N Wg C n RO wE)(h:eo RO wE w):Dp N C n w:=lz (ty:=0) (Wg:=Wg) (val:=λ_=>undef) a.ro wE w h.keep h.size a.pap
theorem ze(i:Bi N Wg C n RO wE){w00:World}(b:aW (Ml N Wg 8) 20 [] a)(f:Sn (g9 Tryz.prog 170 Wg C n val RO) wE w00)(w:World)(k:mR (g9 Tryz.prog 170 Wg C n val RO) V w00 w):
 cD (g9 Tryz.prog 170 Wg C n val RO) (EN (g9 Tryz.prog 170 Wg C n val RO) wE c cs) 12 V (G ((base 105).at (a.put (((bX Tryz.f105 9)[0]?).bind (·.dst)) (.tuple #[])) (.inRegion (bX Tryz.f105 9) []::[.code (.seq (rG Tryz.f105 10) .ret)])) (c::cs)) w:=by
 have h:=f.meet k;have b:=b.put (d:=18) d_ (.tuple #[]);rw[show((bX Tryz.f105 9)[0]?).bind (·.dst)=some 18 from k_];revert b;generalize a.put (some 18) (.tuple #[])=a;intro b;refine Ik.now (fr:=(base 105).atR a (.inRegion (bX Tryz.f105 9) []::[.code (.seq (rG Tryz.f105 10) .ret)])) (cs:=c::cs) ?_;refine Ik.plain rfl (Ik.plain rfl (Ik.region (L:=[0,1]) rfl ?_));refine Ik.op b 19 (.load 25 (.tmp 5)) (.sk C n n) d_ k_ s_ (λo e w r=>sy (.inr i.ro.2.2.1) (aP T1 e (b.G 5) (by rw[aK (wn i (h.rely r).since).ends];rfl))) λa b=> ?_;refine Ik.op b 4 (.assign (.tmp 19)) (.sk C n n) d_ k_ s_ (λo e w _=> ?_) λa b=> ?_
 ·have g:=cz (ev:=a.eval) (w:=w) Tryz.prog (.inr e);rw[b.G 19]at g;exact cI g
 refine Ik.plain rfl (Ik.ends rfl (.inr ⟨_,rfl⟩) (Ik.leave (.sk C n n) rfl b.defers Tryz.func105 (λw=>pR (t:=4) rfl (b.slot 4 _ rfl) w) (Ik.stop λl j=>⟨rfl,(h.rely j).since⟩)))
abbrev An(X:bS)(f:Func)(g:FuncId)(N:fg)(wE:World)(cs:List Frame):=Qg g (bX f 9) [.code (.seq (rG f 10) .ret)] X N wE cs
theorem GF(i:Bi N Wg C n RO wE)(V:Nat->Prop)(g:Goroutine)(w:World)(h:An (g9 Tryz.prog 170 Wg C n val RO) Tryz.f105 105 N wE (c::cs) V g w):
 ∃k,cD (g9 Tryz.prog 170 Wg C n val RO) (sY (g9 Tryz.prog 170 Wg C n val RO) (EN (g9 Tryz.prog 170 Wg C n val RO) wE c cs) (An (g9 Tryz.prog 170 Wg C n val RO) Tryz.f105 105 N wE (c::cs))) k V g w:=by obtain⟨w00,a,d,b,f⟩:=h;have e:=Qq (g9 Tryz.prog 170 Wg C n val RO) rO (Fin:=EN (g9 Tryz.prog 170 Wg C n val RO) wE c cs) (V:=V) (w00:=w00) (mT:=12) (ze i d b) g w f;exact⟨30,(dr e).mono λV g w=>sY.mono λV g w h=>⟨w00,a,d,b,h⟩⟩
theorem M9(X:bS)(f:Func)(d:FuncId)(b:World)(V:Nat->Prop)(g:Goroutine)(w:World)(h:An X f d N b cs V g w):g.status= .running:=by obtain⟨c,a,_,_,T,rfl,_⟩:=h;rfl
end
def Rt(X:bS)(Anch:(Nat->Prop)->Goroutine->World->Prop):Nat->(Nat->Prop)->Goroutine->World->Prop
 |0=>JP X Anch
 |r+1=>Bn X (8-(r+1)) (kV X Anch 8 r)
theorem Qv{Anch:(Nat->Prop)->Goroutine->World->Prop}{r:Nat}(h:cD X (Rt X Anch r) k V g w):kV X Anch 8 r V g w:=by
 cases r with
 |zero=>exact⟨k,h⟩
 |succ r=>exact⟨k,h⟩
section
variable{N:fg}{C:Nat}{val:Nat->Value}{c:Frame}
theorem Re(x:Bi N Wg C n RO wE)(b:aW (Ml N Wg 8) 20 [] a)(f:Sn (g9 Tryz.prog 170 Wg C n val RO) wE w0):
 Ik (g9 Tryz.prog 170 Wg C n val RO) (JP (g9 Tryz.prog 170 Wg C n val RO) (An (g9 Tryz.prog 170 Wg C n val RO) Tryz.f105 105 N wE (c::cs))) 300 Vn ((base 105).atR a [.code (iC Tryz.f105), .inLoop (iC Tryz.f105), .inBlock 0, .code (kE Tryz.f105)]) (c::cs) w0:=by
 refine Ik.plain rfl (Ik.region (L:=[0]) rfl ?_);refine Ik.op b 13 (.binOp .lss 3 (.tmp 12) (.const (.i 8)) 3) (.bool false) d_ k_ s_ (λo e w _=>cI (dw (m:=8) (n:=8) e (b.G 12) rfl)) λa b=> ?_;refine Ik.plain rfl (Ik.plain rfl (Ik.cond false (b.G 13) ?_));refine Ik.plain rfl (Ik.plain rfl (Ik.region (L:=[0]) rfl ?_));cases e:(bX Tryz.f105 9)[0]? with
 |none=>exact absurd e (by simp;decide)
 |some o=>
 obtain⟨A,i,z⟩:=cC (d:=some 18) (p:= .call {callee:= .value (.func 115),args:=#[.tmp 6],argTypes:=#[170]}) e k_;have j:=λw=>bU (w:=w) i (show(#[Ft 6]:Array Operand).map a.eval=#[.pk Wg 0]from by simp[b.G 6]) (dq (P:=Tryz.prog) rO.f_wait k_ k_ _);refine Ik.enter e (z _) (by rw[i];simp) j ?_;refine Ik.to (m:=3) d_ λw r=> ?_;have s:mR (g9 Tryz.prog 170 Wg C n val RO) Vn w0 w:=⟨r.live f.live,r.own,λh=>h.elim (λh=>h.elim) x.sep.2.2⟩;have l:=Bz (g9 Tryz.prog 170 Wg C n val RO) rO (V:=Vn) (c:=(base 105).atR a (.inRegion (bX Tryz.f105 9) [0]::[.code (.seq (rG Tryz.f105 10) .ret)])) (cs:=c::cs) w s;have q:a49 Tryz.prog 115 #[.pk Wg 0] .normal=(base JY.wait).at ⟨#[.pk Wg 0]++a41 83 undef,[]⟩ [.code (Yu JY)]:=aV (N:=84) (c:=Yu JY) [.pk Wg 0] rO.f_wait k_ k_;rw[q];refine(dr l).mono λV g w h=>⟨h.1, ?_⟩;obtain⟨y,v,k,u⟩:=h.2;exact⟨y,v,k,u.mono λV g w t=>⟨w0,a,b.sub (yc rfl rfl rfl rfl rfl),f,t⟩⟩
theorem Rc(D:rM N n val PL)(t:Bi N Wg C n RO wE)(hj:j<8){y:(Nat->Prop)->Goroutine->World->Prop}(f:aW (Ml N Wg j) 20 [] a)(a1:Sn (g9 Tryz.prog 170 Wg C n val RO) wE w0)
 (O:∀a w,aW (Ml N Wg j) 20 [] a->Sn (g9 Tryz.prog 170 Wg C n val RO) wE w->y Vn (gB ((base 105).atR a (.inRegion (bX Tryz.f105 7) []::[.inBlock 1, .code (rG Tryz.f105 8), .inLoop (iC Tryz.f105), .inBlock 0, .code (kE Tryz.f105)])) cs) w):
 Ik (g9 Tryz.prog 170 Wg C n val RO) (Bn (g9 Tryz.prog 170 Wg C n val RO) j y) 300 Vn ((base 105).atR a [.code (iC Tryz.f105), .inLoop (iC Tryz.f105), .inBlock 0, .code (kE Tryz.f105)]) cs w0:=by
 refine Ik.plain rfl (Ik.region (L:=[0]) rfl ?_);refine Ik.op f 13 (.binOp .lss 3 (.tmp 12) (.const (.i 8)) 3) (.bool true) d_ k_ s_ (λo g w _=> ?_) λa f=> ?_
 ·have I:=dw (ev:=a.eval) (w:=w) (m:=j) (n:=8) g (f.G 12) rfl;rw[decide_eq_true (show(j:Int)<8 from o_)]at I;exact cI I
 refine Ik.plain rfl (Ik.plain rfl (Ik.cond true (f.G 13) ?_));refine Ik.plain rfl (Ik.plain rfl (Ik.plain rfl (Ik.plain rfl (Ik.region (L:=[0,1,2]) rfl ?_))));refine Ik.op f 14 (.move (.tmp 12)) (.i j) d_ k_ s_ (λo g w _=> ?_) λa f=> ?_
 ·have I:=cz (ev:=a.eval) (w:=w) Tryz.prog (.inl g);rw[f.G 12]at I;exact cI I
 refine Ik.mk f 7 (.alloc 3) (λw=> .pk w.heap.size 0) (λ_=> .cells #[.i 0] 3) d_ k_ s_ (λo g w _=>⟨(jf g).1,λe he=>by rw[(jf g).2]at he;simp at he⟩) λa J r1 f=> ?_;have l:=a1.rely r1;rw[wJ];have B:=bJ J (.cells #[.i 0] 3);have A:=aQ J (.cells #[.i 0] 3);have E:Sn (g9 Tryz.prog 170 Wg C n val RO) wE (J.alloc (.cells #[.i 0] 3)):=by have T:=l.since.size;have U:=t.low.2.1;refine⟨?_,⟨λb q=>(cN _ _ (a38 (t.low.1 b q) T)).trans (l.since.keep b q),by rw[A];have:=l.since.size;omega,l.since.os,l.since.output,l.since.tape⟩⟩;obtain⟨st,sm,hl⟩:=l.live;exact⟨st,sm,(cN _ _ (show Wg<J.heap.size from a38 U T)).trans hl⟩
 have a0:wE.heap.size<=J.heap.size:=l.since.size;revert B E;generalize J.alloc (.cells #[.i 0] 3)=w2 at A⊢;generalize J.heap.size=i at a0 f A⊢;intro B E;clear l r1;cases g:(bX Tryz.f105 5)[2]? with
 |none=>exact absurd g (by simp;decide)
 |some o=>
 obtain⟨S,H,R⟩:=cC (d:=none) (p:= .store 3 (.tmp 7) (.tmp 14)) g k_;refine Ik.makes g (R _) (by rw[H];simp) λz r3=> ?_;have r:z.heap[i]?=some (.cells #[.i 0] 3):=(r3.own.keep i (.inl rfl)).trans B;have K:=eK (w:=z) (b:=i) (k:=0) (v:= .i j) (v0:= .i 0) rfl rfl (KX.1 z) H (f.G 7) (f.G 14) (by rw[aK r];rfl) (by unfold Hv;rw[show z.heap[(⟨i,0,none⟩:Addr).block]?=_ from r];simp);refine⟨_,K.1, ?_, ?_⟩
 ·rw[K.2];exact DW (V:=(· =i)) (a:=⟨i,0,none⟩) rfl _
 rw[wI,S];have s:=E.rely r3;have a4:i<z.heap.size:=(gA r).1;have Y:∀b,RO b->b≠i:=λb q e=>by have:=t.low.1 b q;omega
 have G:Sn (g9 Tryz.prog 170 Wg C n val RO) wE (z.setCell ⟨i,0,none⟩ (.i j)):=by have U:=t.low.2.1;refine⟨?_,⟨λb q=>(cx z _ (Y b q)).trans (s.since.keep b q),by simpa[BO]using s.since.size,s.since.os,s.since.output,s.since.tape⟩⟩;obtain⟨st,sm,hl⟩:=s.live;exact⟨st,sm,(cx z _ (show Wg≠i from o_)).trans hl⟩
 have x:=jv (v:= .i j) r;have f:aW ((7, .pt i)::(14, .i j)::(13, .bool true)::Ml N Wg j) 20 [] (a.put none undef):=f;revert x G f;generalize z.setCell ⟨i,0,none⟩ (.i j)=w4;generalize a.put none undef=a;intro G x f;clear s r3 r K E B S H R g A;refine Ik.plain rfl (Ik.plain rfl (Ik.region (L:=[0]) rfl ?_));cases g:(bX Tryz.f105 6)[0]? with
 |none=>exact absurd g (by simp;decide)
 |some o=>
 obtain⟨S,H,R⟩:=cC (d:=some 15) (p:= .call {callee:= .value (.func 110),args:=#[.tmp 6, .const (.i 1)],argTypes:=#[170,3]}) g k_;have hr:=λw=>bU (w:=w) H (show(#[Ft 6, .const (.i 1)]:Array Operand).map a.eval=#[.pk Wg 0, .i 1]from by simp[f.G 6];rfl) (dq (P:=Tryz.prog) rO.f_add k_ k_ _);refine Ik.enter g (R _) (by rw[H];simp) hr ?_;have he:a49 Tryz.prog 110 #[.pk Wg 0, .i 1] .normal=(base JY.add).at ⟨#[.pk Wg 0, .i 1]++a41 115 undef,[]⟩ [.code (YG JY)]:=aV (N:=117) (c:=YG JY) [.pk Wg 0, .i 1] rO.f_add k_ k_;rw[he];refine Ik.to (m:=200) d_ (Ik.seg λw5 r5=> ?_);have a3:mR (g9 Tryz.prog 170 Wg C n val RO) (· =i) w4 w5:=⟨r5.live G.live,r5.own,λh=>h.elim (λh=>by have:=t.low.2.1;have h:Wg=i:=h;omega) t.sep.2.2⟩;refine Mi (g9 Tryz.prog 170 Wg C n val RO) rO (mT:=4) (w00:=w4) (λw6 a2=> ?_) w5 a3;have f:=f.put (d:=15) d_ (.tuple #[]);rw[g,Hk,S];revert f;generalize a.put (some 15) (.tuple #[])=a;intro f;refine Ik.now (fr:=(base 105).atR a (.inRegion (bX Tryz.f105 6) []::_)) ?_;refine Ik.plain rfl (Ik.region (L:=[0,1]) rfl ?_);refine Ik.op f 16 (.makeFunc (.func 111) #[] #[.tmp 6, .tmp 2, .tmp 7, .tmp 3, .tmp 5]) (.func (.func 111) #[] #[.pk Wg 0, .pk N.bs 0, .pk i 0, .pk N.bg 0, .pk N.be 0]) d_ k_ s_ (λo g w _=> ?_) λa f=> ?_
 ·have I:=fB (ev:=a.eval) (w:=w) Tryz.prog g;rw[show(#[Ft 6, .tmp 2, .tmp 7, .tmp 3, .tmp 5]:Array Operand).map a.eval=#[.pk Wg 0, .pk N.bs 0, .pk i 0, .pk N.bg 0, .pk N.be 0]from by simp[f.G 6,f.G 2,f.G 7,f.G 3,f.G 5]]at I;exact cI I
 refine Ik.stop λw7 r7=> ?_;have Z:=aA a2 r7;have F:=G.meet Z;clear S H R g hr;cases g:(bX Tryz.f105 7)[1]? with
 |none=>exact absurd g (by simp;decide)
 |some o=>
 obtain⟨S,H,R⟩:=cC (d:=none) (p:= .go {callee:= .value (.tmp 16),args:=#[],argTypes:=#[]}) g k_;have X:=Nt (P:=Tryz.prog) H (f.G 16) w7;have M:=stepG_spawn (P:=Tryz.prog) (main:=true) (b:=base 105) (a:=a) (k:=[.inBlock 1, .code (rG Tryz.f105 8), .inLoop (iC Tryz.f105), .inBlock 0, .code (kE Tryz.f105)]) (cs:=cs) (rest:=[]) g (R _) (by simp[base]) X.1 rfl;unfold listed at M;rw[X.2,seen_none,S]at M;refine⟨rfl,_,_,(· =i),M,λb q=>q,λQ W=> ?_, ?_⟩
 ·have u:=F.since.size;refine Na D t.ro hj ⟨wn t F.since,F.live,Q,λ_ _ h=>h.elim,⟨λb q=>q.elim (W b) λq=>a38 (t.low.1 b q) u,a38 t.low.2.1 u,a38 t.low.2.2 u⟩,⟨λb q=> ?_,t.sep.1,t.sep.2.1⟩⟩ ((Z.since.keep i (.inl rfl)).trans x);have q:b=i:=q;subst q;exact⟨λhr=>Y b hr rfl,λe=>by have:=t.low.2.2;have e:b=C:=e;omega,λe=>by have:=t.low.2.1;have e:b=Wg:=e;omega⟩
 ·have eV:(λb=>b=i/\¬b=i)=Vn:=by
   funext b
   apply propext;exact⟨λh=>h.2 h.1,λh=>h.elim⟩
  show y (λb=>b=i/\¬b=i) _ w7;rw[eV];exact O (a.put none undef) w7 (f.sub (yc rfl rfl rfl rfl rfl)) F
end
section
variable{y:Operand}
theorem Cj(j:0<n)(l:n<=65536)(b:o.op= .makeSlice 25 x y)(f:ev x= .i n)(e:ev y= .i n):
 (execOp ev o).run Tryz.prog w= .ok (.value (.sk w.heap.size n n)) (w.alloc (.cells (a41 n (.string ⟨#[]⟩)) 9))/\(execOp ev o).events Tryz.prog w #[]=#[]:=by
 have g:Tryz.prog.underlying 25=some (.slice 9):=k_
 have c:A8.wrap (n:Int)=n:=by rw[a5_];omega
 have h:Tryz.t9.bytes=16:=k_
 have d:¬(281474976710656<16*(n:Int)):=o_
 have a:n*16<=roomBytes:=by unfold roomBytes;omega
 have k:¬n=0:=o_
 constructor
 ·simp[execOp,b,f,e,Po,run_underlying g,c,d,askRoom,newRow,h,k,go_sem];refine congrArg (λz=>XQ (Z0 (Value.sk w.heap.size n n)) (w.alloc (Obj.cells z 9))) (Wq s_ λi p m=> ?_);simp[ZB]
 ·simp[execOp,b,f,e,Po,run_underlying g,c,d,askRoom,a,newRow,h,go_sem]
theorem Ii(a:o.op= .alloc 170):Mk Tryz.prog ev o w #[.int .u64 0, .int .u32 0] 170:=by
 have e:execOp ev o=(do pure (.value (←Ee 170 true (.tuple #[])))):=by simp only[execOp,a]
 unfold Mk;rw[e];constructor<;>kernel_rfl
end
section
variable{N:fg}{C:Nat}{val:Nat->Value}{c:Frame}
theorem MJ(D:rM N n val PL)(f:Bi N Wg C n RO wE):∀r,r<=8->∀(a:Act) (w0:World),aW (Ml N Wg (8- r)) 20 [] a->Sn (g9 Tryz.prog 170 Wg C n val RO) wE w0->
 Ik (g9 Tryz.prog 170 Wg C n val RO) (Rt (g9 Tryz.prog 170 Wg C n val RO) (An (g9 Tryz.prog 170 Wg C n val RO) Tryz.f105 105 N wE (c::cs)) r) 300 Vn ((base 105).atR a [.code (iC Tryz.f105), .inLoop (iC Tryz.f105), .inBlock 0, .code (kE Tryz.f105)]) (c::cs) w0
 |0,_,a,w0,b,hSn=>Re f b hSn
 |r+1,hr,a,w0,b,hSn=>by
  refine Rc D f (j:=8-(r+1)) o_ b hSn λa w b g=> ?_;refine Qv (k:=307) (Ik.now ?_);refine Ik.plain rfl (Ik.plain rfl (Ik.region (L:=[0,1]) rfl ?_));refine Ik.op b 17 (.binOp .add 3 (.tmp 12) (.const (.i 1)) 3) (.i (8- r:Nat)) d_ k_ s_ (λo e w _=> ?_) λa b=> ?_
  ·have d:=oP (ev:=a.eval) (w:=w) (m:=(8-(r+1):Nat)) (n:=1) e (b.G 12) rfl o_;rw[show(((8-(r+1):Nat):Int)+1)=((8- r:Nat):Int)from o_]at d;exact cI d
  refine Ik.op b 12 (.move (.tmp 17)) (.i (8- r:Nat)) d_ k_ s_ (λo e w _=> ?_) λa b=> ?_
  ·have d:=cz (ev:=a.eval) (w:=w) Tryz.prog (.inl e);rw[b.G 17]at d;exact cI d
  exact Ik.plain rfl (Ik.plain rfl (MJ D f r o_ a w (b.sub (yc rfl rfl rfl rfl rfl)) g))
theorem K9(D:rM N n val PL)(f:Bi N Wg C n RO wE)(b:aW [(6, .pt Wg),(2, .pt N.bs),(3, .pt N.bg),(5, .pt N.be)] 20 [] a)(e:WgLive 170 Wg wE):
 kV (g9 Tryz.prog 170 Wg C n val RO) (An (g9 Tryz.prog 170 Wg C n val RO) Tryz.f105 105 N wE (c::cs)) 8 8 Vn
  (gB ((base 105).atR a (.inRegion (bX Tryz.f105 2) []::[.code (.seq (.seq (rG Tryz.f105 3) (.block 0 (.loop (iC Tryz.f105)))) (kE Tryz.f105))])) (c::cs)) wE:=by refine Qv (k:=308) (Ik.now ?_);refine Ik.plain rfl (Ik.plain rfl (Ik.plain rfl (Ik.region (L:=[0]) rfl ?_)));refine Ik.op b 12 (.move (.const (.i 0))) (.i 0) d_ k_ s_ (λo d w _=>cI (cz (ev:=a.eval) (w:=w) Tryz.prog (.inl d))) λa b=> ?_;exact Ik.plain rfl (Ik.plain rfl (Ik.plain rfl (MJ D f 8 (a36 _) a wE (b.sub (yc rfl rfl rfl rfl rfl)) ⟨e,eo.refl _ _⟩)))
end
theorem nz(V:Nat->Prop)(w:World)(o:Obj):ck V w (w.alloc o)=λb=>V b\/b=w.heap.size:=by
 funext b
 apply propext;unfold ck;rw[aQ];exact⟨λh=>h.imp id λh=>o_,λh=>h.imp id λh=>o_⟩
theorem eo.alloc{R:Nat->Prop}{wK:World}(h:eo R wK w)(c:∀b,R b->b<wK.heap.size)(o:Obj):eo R wK (w.alloc o):=
 ⟨λb a=>(cN _ _ (a38 (c b a) h.size)).trans (h.keep b a),by rw[aQ];have:=h.size;omega,h.os,h.output,h.tape⟩
theorem eo.set{R:Nat->Prop}{wK:World}(h:eo R wK w){a:Addr}(d:¬R a.block)(v:Value):eo R wK (w.setCell a v):=
 ⟨λb c=>(cx w v (λe=>d (e▸c))).trans (h.keep b c),by simpa[BO]using h.size,h.os,h.output,h.tape⟩
theorem eo.rely{wK w₁:World}(h:eo X.RO wK w)(r:bV X V w w₁):eo X.RO wK w₁:=h.trans (r.own.mono λ_ a=> .inr a)
section
variable{s:dk}{ex:Array Value}{ga:Addr}{glen gcap ty:Nat}{val:Nat->Value}{wK:World}{c:Frame}
structure At2 (s:dk) (ex:Array Value) (ga:Addr) (glen gcap n:Nat) (RO:Nat->Prop) (wK:World) (f:Func) (g0:FuncId) (cs:List Frame) (V:Nat->Prop) (g:Goroutine) (w:World) (a:Act) (bs bg C be:Nat):Prop where
 here:g=gB ((base g0).atR a (.inRegion (bX f 2) [0]::[.code (.seq (.seq (rG f 3) (.block 0 (.loop (iC f)))) (kE f))])) cs
 has:aW [(2, .pt bs),(3, .pt bg),(5, .pt be)] 20 [] a
 sig:w.heap[bs]?=some (.cells (s.cells++ex) 149)
 gone:w.heap[bg]?=some (.cells #[.slice (some ga) glen gcap] 22)
 list:w.heap[C]?=some (.cells (a41 n (.string ⟨#[]⟩)) 9)
 ends:w.heap[be]?=some (.cells #[.sk C n n] 25)
 own:∀b,V b↔b=bs\/b=bg\/b=C\/b=be
 order:wK.heap.size<=bs/\bs<bg/\bg<C/\C<be/\be<w.heap.size
 kept:eo RO wK w
theorem QO(a0:0<n)(hn:n<=65536)(l:s.count=n)(E:∀b,RO b->b<wK.heap.size)(f:aW [(0, .agg (s.cells++ex)),(1, .slice (some ga) glen gcap)] 20 [] a):
 Ik (g9 Tryz.prog ty 0 0 n val RO) (λV g w=>∃a bs bg C be,At2 s ex ga glen gcap n RO wK Tryz.f105 105 (c::cs) V g w a bs bg C be) 30 Vn
  ((base 105).atR a [.code (.seq (rG Tryz.f105 0) (.seq (rG Tryz.f105 1) (.seq (rG Tryz.f105 2)
    (.seq (.seq (rG Tryz.f105 3) (.block 0 (.loop (iC Tryz.f105)))) (kE Tryz.f105)))))]) (c::cs) wK:=by
 refine Ik.plain rfl (Ik.region (L:=[0,1,2]) rfl ?_);refine Ik.mk f 2 (.box 149 (.tmp 0)) (λw=> .pk w.heap.size 0) (λ_=> .cells (s.cells++ex) 149) d_ k_ s_ (λo i w _=> ?_) λa z Z f=> ?_
 ·have:=mo (ev:=a.eval) (w:=w) Tryz.prog i;rw[f.G 0]at this;exact⟨this.1,λe j=>by rw[this.2]at j;simp at j⟩
 have K:=(eo.rely (eo.refl RO wK) Z).alloc E (.cells (s.cells++ex) 149);rw[wJ];have s1:wK.heap.size<=z.heap.size:=Z.own.size;have Q:=bJ z (.cells (s.cells++ex) 149);have U:=aQ z (.cells (s.cells++ex) 149);revert K Q U;generalize z.alloc (.cells (s.cells++ex) 149)=u1;generalize z.heap.size=bs at s1 f⊢;intro K Q U;clear Z;refine Ik.mk f 3 (.box 22 (.tmp 1)) (λw=> .pk w.heap.size 0) (λ_=> .cells #[.slice (some ga) glen gcap] 22) d_ k_ s_ (λo i w _=> ?_) λa u G f=> ?_
 ·have:=mo (ev:=a.eval) (w:=w) Tryz.prog i;rw[f.G 1]at this;exact⟨this.1,λe j=>by rw[this.2]at j;simp at j⟩
 have J:=(eo.rely K G).alloc E (.cells #[.slice (some ga) glen gcap] 22);rw[nz];have Y:bs<u.heap.size:=by have:=G.own.size;omega
 have F:(u.alloc (.cells #[.slice (some ga) glen gcap] 22)).heap[bs]?=some (.cells (s.cells++ex) 149):=(cN _ _ Y).trans ((G.own.keep bs (.inl rfl)).trans Q);have O:=bJ u (.cells #[.slice (some ga) glen gcap] 22);have T:=aQ u (.cells #[.slice (some ga) glen gcap] 22);revert J F O T;generalize u.alloc (.cells #[.slice (some ga) glen gcap] 22)=u2;generalize u.heap.size=bg at Y f⊢;intro J F O T;clear G K Q U;refine Ik.op f 4 (.assign (.const (.slice none 0 0))) (.slice none 0 0) d_ k_ s_ (λo i w _=>cI (cz (ev:=a.eval) (w:=w) Tryz.prog (.inr i))) λa f=> ?_;refine Ik.plain rfl (Ik.plain rfl (Ik.region (L:=[0,1,2,3,4,5]) rfl ?_));refine Ik.op f 8 (.fieldAddr 149 (.tmp 2) 0) (.pk bs 0) d_ k_ s_ (λo i w _=>cI (tn i (f.G 2))) λa f=> ?_;refine Ik.op f 9 (.fieldAddr 145 (.tmp 8) 6) (.pk bs 6) d_ k_ s_ (λo i w _=>cI (yU i (f.G 8))) λa f=> ?_;refine Ik.op f 10 (.load 3 (.tmp 9)) (.i n) d_ k_ s_ (λo i w r=>sy (.inl (.inl rfl)) (aP cp i (f.G 9) (by rw[aK ((r.own.keep bs (.inl (.inl rfl))).trans F),←l,Pk (show 6<s.cells.size by simp[dk.cells])];rfl))) λa f=> ?_;refine Ik.mk f 11 (.makeSlice 25 (.tmp 10) (.tmp 10)) (λw=> .sk w.heap.size n n) (λ_=> .cells (a41 n (.string ⟨#[]⟩)) 9) d_ k_ s_ (λo i w _=> ?_) λa t B f=> ?_
 ·have:=Cj (ev:=a.eval) (w:=w) a0 hn i (f.G 10) (f.G 10);exact⟨this.1,λe j=>by rw[this.2]at j;simp at j⟩
 have I:=(eo.rely J B).alloc E (.cells (a41 n (.string ⟨#[]⟩)) 9);rw[nz];have X:bg<t.heap.size:=by have:=B.own.size;omega
 have P:(t.alloc (.cells (a41 n (.string ⟨#[]⟩)) 9)).heap[bs]?=some (.cells (s.cells++ex) 149):=(cN _ _ o_).trans ((B.own.keep bs (.inl (.inl rfl))).trans F);have N:(t.alloc (.cells (a41 n (.string ⟨#[]⟩)) 9)).heap[bg]?=some (.cells #[.slice (some ga) glen gcap] 22):=(cN _ _ X).trans ((B.own.keep bg (.inl (.inr rfl))).trans O);have H:=bJ t (.cells (a41 n (.string ⟨#[]⟩)) 9);have S:=aQ t (.cells (a41 n (.string ⟨#[]⟩)) 9);revert I P N H S;generalize t.alloc (.cells (a41 n (.string ⟨#[]⟩)) 9)=u3;generalize t.heap.size=C at X f⊢;intro I P N H S;clear B J F O T;refine Ik.mk f 5 (.alloc 25) (λw=> .pk w.heap.size 0) (λ_=> .cells #[.slice none 0 0] 25) d_ k_ s_ (λo i w _=>⟨(lD i).1,λe j=>by rw[(lD i).2]at j;simp at j⟩) λa q y f=> ?_;have k4:=(eo.rely I y).alloc E (.cells #[.slice none 0 0] 25);rw[nz];have W:C<q.heap.size:=by have:=y.own.size;omega
 have f4:(q.alloc (.cells #[.slice none 0 0] 25)).heap[bs]?=some (.cells (s.cells++ex) 149):=(cN _ _ o_).trans ((y.own.keep bs (.inl (.inl (.inl rfl)))).trans P);have g4:(q.alloc (.cells #[.slice none 0 0] 25)).heap[bg]?=some (.cells #[.slice (some ga) glen gcap] 22):=(cN _ _ o_).trans ((y.own.keep bg (.inl (.inl (.inr rfl)))).trans N);have l4:(q.alloc (.cells #[.slice none 0 0] 25)).heap[C]?=some (.cells (a41 n (.string ⟨#[]⟩)) 9):=(cN _ _ W).trans ((y.own.keep C (.inl (.inr rfl))).trans H);have e4:=bJ q (.cells #[.slice none 0 0] 25);have z4:=aQ q (.cells #[.slice none 0 0] 25);revert k4 f4 g4 l4 e4 z4;generalize q.alloc (.cells #[.slice none 0 0] 25)=u4;generalize q.heap.size=be at W f⊢;intro k4 f4 g4 l4 e4 z4;clear y I P N H S;cases i:(bX Tryz.f105 1)[5]? with
 |none=>exact absurd i (by simp;decide)
 |some o=>
 obtain⟨e1,e2,e3⟩:=cC (d:=none) (p:= .store 25 (.tmp 5) (.tmp 11)) i k_;refine Ik.makes i (e3 _) (by rw[e2];simp) λm A=> ?_;have R:m.heap[be]?=some (.cells #[.slice none 0 0] 25):=(A.own.keep be (.inl (.inr rfl))).trans e4;have D:=eK (w:=m) (b:=be) (k:=0) (v:= .sk C n n) (v0:= .slice none 0 0) rfl rfl k_ e2 (f.G 5) (f.G 11) (by rw[aK R];rfl) (by unfold Hv;rw[show m.heap[(⟨be,0,none⟩:Addr).block]?=_ from R];simp);refine⟨_,D.1, ?_, ?_⟩
 ·rw[D.2];exact DW (a:=⟨be,0,none⟩) (.inr rfl) _
 rw[wI,e1];have z5:be<m.heap.size:=(gA R).1;have a1:¬RO be:=λh=>by have:=E be h;omega
 have k5:=(eo.rely k4 A).set (a:=⟨be,0,none⟩) a1 (.sk C n n);have f5:=(cx m (a:=⟨be,0,none⟩) (b:=bs) (.sk C n n) (show bs≠be from o_)).trans ((A.own.keep bs (.inl (.inl (.inl (.inl rfl))))).trans f4);have g5:=(cx m (a:=⟨be,0,none⟩) (b:=bg) (.sk C n n) (show bg≠be from o_)).trans ((A.own.keep bg (.inl (.inl (.inl (.inr rfl))))).trans g4);have l5:=(cx m (a:=⟨be,0,none⟩) (b:=C) (.sk C n n) (show C≠be from o_)).trans ((A.own.keep C (.inl (.inl (.inr rfl)))).trans l4);have h5:=jv (v:= .sk C n n) R;have z6:be<(m.setCell ⟨be,0,none⟩ (.sk C n n)).heap.size:=by simpa[BO]using z5
 refine Ik.plain rfl (Ik.plain rfl (Ik.region (L:=[0]) rfl (Ik.stop λw6 x=>⟨a.put none undef,bs,bg,C,be, ?_⟩)));exact
  {here:=rfl
   has:=f.sub λd v M=>by
    by_cases q2:d=2
    ·subst q2;exact M
    by_cases q3:d=3
    ·subst q3;exact M
    by_cases q5:d=5
    ·subst q5;exact M
    simp[a51,show(d==2)=false from by simpa using q2,show(d==3)=false from by simpa using q3,show(d==5)=false from by simpa using q5]at M
   sig:=(x.own.keep bs (.inl (.inl (.inl (.inl rfl))))).trans f5
   gone:=(x.own.keep bg (.inl (.inl (.inl (.inr rfl))))).trans g5
   list:=(x.own.keep C (.inl (.inl (.inr rfl)))).trans l5
   ends:=(x.own.keep be (.inl (.inr rfl))).trans h5
   own:=λb=>⟨λh=>by rcases h with((h|h)|h)|h<;>simp[h],λh=>by rcases h with h|h|h|h<;>simp[h]⟩
   order:=⟨s1,Y,X,W,a38 z6 x.own.size⟩
   kept:=eo.rely k5 x}
end
end
end Go.Proofs.YtkmoglhgkcnalabGreatDoor
