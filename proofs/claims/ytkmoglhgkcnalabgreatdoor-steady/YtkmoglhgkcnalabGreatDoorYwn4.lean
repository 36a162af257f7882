/- A part of what the last text imports. -/
import Derived.Laws.AppendOwn
import Derived.Shelf.Strings.OnBuilder
import Derived.Deep.OwnRows
import Derived.StillTailTactics
import Derived.WalkKit
import Derived.WalkSpells
import Derived.WalkLawsBesides
import Derived.Deep.QuietTactic
import Derived.BigQuiet
import Derived.Shelf.Strings.BuilderF
import Derived.Test.YtkmoglhgkcnalabGreatDoorYwn3
set_option maxHeartbeats 16000000
set_option maxRecDepth 100000
open Array renaming getElem?_setIfInBounds_self_of_lt->TF,replicate->TG,append_empty->Uw,getElem?_modify->UB,length_toList->V4,getElem?_toList->VG,ext_getElem?->WW,ofFn->WX
open Bool renaming true_and->Xs,true_or->XL,false_and->Ys,false_or->YH,or_eq_false_iff->Zr,or_true->a86
open ByteArray renaming size_extract->TT
open Go.Act renaming put->VN
open Go.Addr renaming add_mid->Uu,add->W5
open Go.Builtin renaming len_->Vy
open Go.ByteArray renaming toList_eq->Xp
open Go.Frame renaming enter->TJ,finish_atR->U7,round->Vt
open Go.Instr renaming fieldAt->TS,buildSlice->Uf,build->Uj,alloc->Uo,sliceAt->UF,sliceBounds->UK,sliceBound->UQ,indexAt->V3,slice->VE,storeAt->VH,index->Xf
open Go.IntKind renaming wrap_i64->TR,i64->U2,u64->UV,wrap_u64->Vz,wrap_u8->Y9,u8->YY
open Go.Lib renaming IsBuilderF->WR,byteCells->ZC,join->ac3,BuilderAtF->ac4,strCells->ad8
open Go.Operand renaming tmp->Ul,const->Xt
open Go.Region renaming wanted->TD
open Go.StepsIn renaming steps->W3
open Go.Value renaming oneCell'->Va,agg->WQ
open Go.World renaming cell?->U6,setCell->U9,frozen?->Ux
open Int renaming natCast_pow->UY,natCast_add->Vi,natCast_ediv->W0,natCast_mul->Wd,tmod_eq_emod_of_nonneg->Wp,natCast_emod->YO,one_mul->aa3,not_le->af7
open List renaming getElem?_eq_some_iff->TM,lookup->TU,getD_eq_getElem?_getD->TV,getElem?_eq_getElem->TX,replicate->TZ,range->U5,getElem?_append_left->Ue,getElem?_map->Up,size_toArray->Uq,length_map->UO,length_append->UT,take_of_length_le->UU,set_append_right->Vo,take_succ_eq_append_getElem->VV,setIfInBounds_toArray->Xl,getElem?_drop->Xz,getElem?_take->XA,range_succ->Y7,drop_eq_getElem_cons->Yv,flatMap_cons->YC,getElem_set->YL,map_set->YZ,drop_of_length_le->Z0,set_cons_succ->ZM,length_drop->a95
open Nat renaming le_refl->TB,lt_of_lt_of_le->TC,zero_add->TL,le_trans->TW,zero_le->W4,pow_le_pow_right->W8,and_lt_two_pow->Wn,lt_of_le_of_lt->Wo,or_lt_two_pow->Xb,div_le_self->Y8,pow_succ->Ye,add_assoc->YD,two_pow_pos->Za,le_of_eq->ZV,and_le_left->aa9,mul_le_mul->ac2,add_mul->ae7
open Ne renaming symm->UP
open Option renaming map_some->TE,bind_some->Ug
namespace Go.Proofs.YtkmoglhgkcnalabGreatDoor
open Go
variable{n b i N l m k j b3 b4 b7 b9 Wg wd:Nat}{w w' w0 wL wM wE:World}{fr:Frame}{v:Value}{cs:List Frame}{args cv:Array Value}{V RO D V0:Nat->Prop}{q main listen ql:Bool}{g:Goroutine}{a:Act}{K:List Item}{P PL PM:Program}{x:Operand}{ops:Array Oper}{KS:List Int}{t u:TypeId}{o:Oper}{f:FuncId}{es:Array Event}{Goal:Goroutine->World->Prop}{fn:Func}{rest:List Nat}{ds:List Deferred}{X:bS}{F:List (Nat×Value)}{e:Event}{listed:Array Bool}{c:Int}{s msg key sig:ByteArray}{ρ:Nat->Nat}{ev:Operand->Value}{Post:Value->World->Prop}
namespace L1
open Go.Conc Go.RowKit
def xq(f:Func):Code:= .seq (.seq (rG f 4) (.cond (.tmp 14) .skip (.exit 2))) (.seq (.block 3 (.seq (rD f 6) (.cond (.tmp 30) .ret .skip))) (rG f 5))
def xh(f:Func):Code:= .seq (rG f 1) (.seq (.cond (.tmp 9) .skip (.exit 0)) (.seq (.block 1 (.seq (rG f 2) (.seq (rG f 3) (.block 2 (.loop (xq f)))))) (rG f 7)))
theorem Pv:Tryz.f117.body=some (.seq (rG Tryz.f117 0) (.block 0 (.loop (xh Tryz.f117)))):=k_
def wj(wd k:Nat):Int:=8- wd- k*wd
theorem E2{wd:Nat}(a:Az wd)(b:k<8/wd):wj wd k=((8- wd- k*wd:Nat):Int):=by unfold wj;rcases a with rfl|rfl|rfl<;>simp at b<;>omega
theorem M7{wd:Nat}(a:Az wd):¬wj wd (8/wd)≥0:=by unfold wj;rcases a with rfl|rfl|rfl<;>decide
theorem J1(wd k:Nat):wj wd k- wd=wj wd (k+1):=by unfold wj;rw[Vi,Int.add_mul];omega
theorem wi{wd:Nat}(a:Az wd)(b:k<=8/wd): -9<=wj wd k/\wj wd k<9:=by unfold wj;rcases a with rfl|rfl|rfl<;>simp at b<;>omega
def QN(l i:Nat)(b:ByteArray)(wd k:Nat):List Value:=
 [.func (.yield l) #[] #[], .string b, .int .i64 i, .int .u8 ((b.data.toList.getD i 0).toNat:Int), .int .i64 ((b.data.toList.getD i 0).toNat:Int), .int .i64 (wj wd k), .int .i64 (((b.data.toList.getD i 0).toNat/2^(8- wd- k*wd):Nat):Int), .int .i64 wd, .int .i64 ((2^wd:Nat):Int), .int .i64 (eD wd), .int .i64 (dK b.data.toList wd (i*(8/wd)+k))]
theorem LW(b:ByteArray)(i:Nat)(h:i<b.size):b[i]=b.data.toList.getD i 0:=by rw[TV,TX (by simpa using h)];rfl
section
variable{Inv:Nat->World->Prop}{r:Loop}{b:ByteArray}{bb bw:Nat}(hw:Az wd)
 (hstr:∀c w,Inv c w->w.heap[bb]?=some (.cells #[.string b] 9)) (hwid:∀c w,Inv c w->w.heap[bw]?=some (.cells #[.int .i64 wd] 3))
 (G:sa (aI true Tryz.prog) Goal cs (λc=>#[.int .i64 (dK b.data.toList wd c)]) (b.size*(8/wd)) l r Inv)
include hw hstr hwid G
theorem OO(x:i<b.size)(I:k<8/wd)(r:Inv (i*(8/wd)+k) w)
 (g:aW [(0, .func (.yield l) #[] #[]),(1, .pt bb),(2, .pt bw),(4, .i i),(5, .i (wj wd k)),(7, .i b.size),(8, .i i)] 32 [] a)
 (next:∀a w,Inv (i*(8/wd)+k+1) w->aW [(30, .bool false),(0, .func (.yield l) #[] #[]),(1, .pt bb),(2, .pt bw),(4, .i i),(5, .i (wj wd k)),(7, .i b.size),(8, .i i)] 32 [] a->Rn lT Goal ((base 117).atR a K) cs w):
 Rn lT Goal ((base 117).atR a (.code (rD Tryz.f117 6)::K)) cs w:=by
 have P:0<8/wd:=o_
 have W:i*(8/wd)+k<b.size*(8/wd):=by have:(i+1)*(8/wd)<=b.size*(8/wd):=Nat.mul_le_mul_right _ x;rw[ae7]at this;omega
 have hx:(b.data.toList.getD i 0).toNat<256:=(b.data.toList.getD i 0).toNat_lt;have S:=wi hw (Nat.le_of_lt I);have t:=E2 hw I;have z:dK b.data.toList wd (i*(8/wd)+k)=(b.data.toList.getD i 0).toNat/2^(8- wd- k*wd)%2^wd:=by rw[LL _ hw i k I (by simpa using x)];rw[TV,TX (by simpa using x)];rfl
 have R:wd<=8:=by rcases hw with rfl|rfl|rfl<;>decide
 have O:=wI hw;have Y:2^wd<=256:=by rcases hw with rfl|rfl|rfl<;>decide
 have L:eD wd=2^wd- 1:=rfl;refine Rn.grows (fx:=[(0, .func (.yield l) #[] #[]),(1, .pt bb),(2, .pt bw),(4, .i i),(5, .i (wj wd k)),(7, .i b.size),(8, .i i)]) (ds:=[18,19,20,21,22,23,24,25,26,27,28]) (N:=32) (df:=[])
  (G:=λn v _=>(QN l i b wd k)[n]?=some v) k_ k_ (λn v w p h _=>h) (λn o a p Q j X q H=> ?_)
  (λn a p=>(n=11/\aW [(28, .i (dK b.data.toList wd (i*(8/wd)+k))),(18, .func (.yield l) #[] #[]),(0, .func (.yield l) #[] #[]),(1, .pt bb),(2, .pt bw),(4, .i i),(5, .i (wj wd k)),(7, .i b.size),(8, .i i)] 32 [] a/\Inv (i*(8/wd)+k) p)\/
    (n=12/\aW [(29, .bool true),(0, .func (.yield l) #[] #[]),(1, .pt bb),(2, .pt bw),(4, .i i),(5, .i (wj wd k)),(7, .i b.size),(8, .i i)] 32 [] a/\Inv (i*(8/wd)+k+1) p)\/
    (n=13/\aW [(30, .bool false),(0, .func (.yield l) #[] #[]),(1, .pt bb),(2, .pt bw),(4, .i i),(5, .i (wj wd k)),(7, .i b.size),(8, .i i)] 32 [] a/\Inv (i*(8/wd)+k+1) p))
  (λa p C=> ?_) (λn o a p M Q j J y=> ?_) (λa p J=> ?_) g.defers g.size (g.all s_)
 ·have A:=G.below _ _ _ r X;have f0:=q _ (mG (i:=0) rfl);have f1:=q _ (mG (i:=1) rfl);have f2:=q _ (mG (i:=2) rfl);have f4:=q _ (mG (i:=3) rfl);have Z:=q _ (mG (i:=4) rfl);have f:∀m d v,[18,19,20,21,22,23,24,25,26,27,28][m]?=some d->gt (bV Tryz.f117 6) n m=true->(QN l i b wd k)[m]?=some v->a.eval (.tmp d)=v:=λm d v V T E=>by obtain⟨u,F,s⟩:=H m d V T;rw[E]at s;cases s;exact aB F
  have U:n<11:=Q;rcases(o_:n=0\/n=1\/n=2\/n=3\/n=4\/n=5\/n=6\/n=7\/n=8\/n=9\/n=10)with rfl|rfl|rfl|rfl|rfl|rfl|rfl|rfl|rfl|rfl|rfl
  ·have e:=oS j;exact sf (.inl e) f0 ⟨rfl,bR⟩
  ·have e:=oS j;exact aJ (aO bN e (aB f1) ((aG (hstr _ _ A) 0).trans rfl)).1 ⟨rfl,bR⟩
  ·have e:=oS j;exact sf (.inl e) f4 ⟨rfl,bR⟩
  ·have e:=oS j;exact aJ (pw e (f 1 19 _ rfl k_ rfl) (f 2 20 _ rfl k_ rfl) x) ⟨by rw[LW b i x];rfl,bR⟩
  ·have e:=oS j;exact aJ (KQ e (f 3 21 _ rfl k_ rfl)) ⟨rfl,bR⟩
  ·have e:=oS j;exact sf (.inl e) Z ⟨rfl,bR⟩
  ·have e:=oS j;refine aJ (wY (k:=8- wd- k*wd) e (f 4 22 _ rfl k_ rfl) ((f 5 23 _ rfl k_ rfl).trans (by rw[t])) o_) ⟨?_,bR⟩;show some _=some _;rw[W0,UY];rfl
  ·have e:=oS j;exact aJ (aO ce e (aB f2) ((aG (hwid _ _ A) 0).trans rfl)).1 ⟨rfl,bR⟩
  ·have e:=oS j;have B:(1:Int)*2^wd=((2^wd:Nat):Int):=(by rw[aa3,UY];rfl);refine aJ (wZ (m:=1) (k:=wd) e rfl (f 7 25 _ rfl k_ rfl) o_ (by rw[B];omega)) ⟨?_,bR⟩;rw[B];rfl
  ·have e:=oS j;refine aJ (Bd e (f 8 26 _ rfl k_ rfl) rfl o_) ⟨?_,bR⟩;have B:((2^wd:Nat):Int)- 1=(eD wd:Int):=(by rw[L];have:=Za wd;omega);rw[B];rfl
  ·have e:=oS j;refine aJ (ku e (f 6 24 _ rfl k_ rfl) (f 9 27 _ rfl k_ rfl)) ⟨?_,bR⟩;rw[Ma _ wd (Wo (Y8 _ _) o_) hw,←z];rfl
 ·obtain⟨u,F,s⟩:=C.come 10 28 rfl trivial;obtain⟨v,E,D⟩:=C.come 0 18 rfl trivial;cases s;cases D;exact .inl ⟨rfl,(C.base.more E).more F,G.below _ _ _ r C.old⟩
 ·rcases J with⟨rfl,g,r⟩|⟨rfl,g,r⟩|⟨rfl,g,r⟩
  ·refine Rn.given (c:=i*(8/wd)+k) G g 29 18 (xs:=#[.tmp 28]) (ats:=#[3]) d_ k_ rfl (by simp[g.G 28]) W r λa' p g r=>y a' p (.inr (.inl ⟨rfl,g.only ⟨rfl,rfl,rfl,rfl,rfl,rfl,rfl,rfl,trivial⟩,r⟩))
  ·refine Rn.O g 30 (.unOp .not 4 (.tmp 29)) (λo j=>(qe j (g.G 29)).1) λa g=>y a p (.inr (.inr ⟨rfl,g.only ⟨rfl,rfl,rfl,rfl,rfl,rfl,rfl,rfl,trivial⟩,r⟩))
  ·exact absurd (gA j).1 d_
 ·rcases J with⟨h,_⟩|⟨h,_⟩|⟨_,g,r⟩
  ·exact absurd h d_
  ·exact absurd h d_
  ·exact next a p r g
theorem BS(q:i<b.size)(next:∀a w,Inv ((i+1)*(8/wd)) w->aW [(0, .func (.yield l) #[] #[]),(1, .pt bb),(2, .pt bw),(7, .i b.size),(8, .i i)] 32 [] a->Rn lT Goal ((base 117).atR a K) cs w):
 ∀(j k:Nat) (a:Act) (w:World),8/wd- k=j->k<=8/wd->Inv (i*(8/wd)+k) w->
  aW [(0, .func (.yield l) #[] #[]),(1, .pt bb),(2, .pt bw),(4, .i i),(5, .i (wj wd k)),(7, .i b.size),(8, .i i)] 32 [] a->
  Rn lT Goal ((base 117).atR a (.code (xq Tryz.f117):: .inLoop (xq Tryz.f117):: .inBlock 2::K)) cs w:=by
 intro j;induction j with
 |zero=>
  intro k a w p f e c;have d:k=8/wd:=o_
  subst d
  iterate 2 refine Rn.uu c λa c=> ?_
  refine Rn.p rfl (Rn.cond _ (c.G 14) ?_);rw[decide_eq_false (M7 hw)];refine Rn.p rfl (next a w ?_ (c.only ⟨rfl,rfl,rfl,rfl,rfl,trivial⟩));rw[ae7,Nat.one_mul];exact e
 |succ j g=>
  intro k a w p f e c;have d:k<8/wd:=o_
  have m:=wi hw f;have h:wd<=8:=by rcases hw with rfl|rfl|rfl<;>decide
  iterate 2 refine Rn.uu c λa c=> ?_
  refine Rn.p rfl (Rn.cond _ (c.G 14) ?_);rw[decide_eq_true (show wj wd k≥0 from by rw[E2 hw d];omega)];refine Rn.p rfl (Rn.p rfl (Rn.p rfl (Rn.p rfl ?_)));refine OO hw hstr hwid G q d e (c.only ⟨rfl,rfl,rfl,rfl,rfl,rfl,rfl,trivial⟩) λa w e c=>Rn.cond false (c.G 30) (Rn.p rfl (Rn.p rfl (Rn.r (L:=[0,1,2,3]) rfl ?_)));refine Rn.uu c λa c=> ?_;refine Rn.vv c (λo n=>(aO ce n (c.G 2) ((aG (hwid _ _ e) 0).trans rfl)).1) λa c=> ?_
  iterate 2 refine Rn.uu c λa c=> ?_
  refine Rn.p rfl (Rn.p rfl (g (k+1) a w o_ o_ e (c.only ⟨rfl,rfl,rfl,rfl, ?_,rfl,rfl,trivial⟩)));rw[←J1];rfl
theorem Bp(hs:b.size<4611686018427387904)(next:∀a w,Inv (b.size*(8/wd)) w->a.defers=[]->Rn lT Goal ((base 117).atR a K) cs w):
 ∀(j i:Nat) (a:Act) (w:World),b.size- i=j->i<=b.size->Inv (i*(8/wd)) w->
  aW [(0, .func (.yield l) #[] #[]),(1, .pt bb),(2, .pt bw),(7, .i b.size),(8, .i i)] 32 [] a->
  Rn lT Goal ((base 117).atR a (.code (xh Tryz.f117):: .inLoop (xh Tryz.f117):: .inBlock 0::K)) cs w:=by
 intro j;induction j with
 |zero=>
  intro i a w k m e c;have d:i=b.size:=o_
  subst d;refine Rn.uu c λa c=> ?_;refine Rn.p rfl (Rn.p rfl (Rn.cond _ (c.G 9) ?_));rw[decide_eq_false o_];exact Rn.p rfl (next a w e c.defers)
 |succ j f=>
  intro i a w k m e c;have d:i<b.size:=o_
  have g:wd<=8:=by rcases hw with rfl|rfl|rfl<;>decide
  refine Rn.uu c λa c=> ?_;refine Rn.p rfl (Rn.p rfl (Rn.cond _ (c.G 9) ?_));rw[decide_eq_true o_]
  iterate 2 refine Rn.uu c λa c=> ?_
  refine Rn.vv c (λo h=>(aO ce h (c.G 2) ((aG (hwid _ _ e) 0).trans rfl)).1) λa c=> ?_
  iterate 2 refine Rn.uu c λa c=> ?_
  refine Rn.p rfl (Rn.p rfl (Rn.p rfl ?_));refine BS hw hstr hwid G d (λa w e c=> ?_) (8/wd) 0 a w rfl (W4 _) e (c.only ⟨rfl,rfl,rfl,rfl, ?_,rfl,rfl,trivial⟩)
  ·iterate 2 refine Rn.uu c λa c=> ?_
   refine Rn.p rfl (Rn.p rfl (f (i+1) a w o_ o_ e (c.only ⟨rfl,rfl,rfl,rfl, ?_,trivial⟩)));rw[Vi];rfl
  ·unfold wj;simp
end
theorem rS{m:Frame}{d:Nat->World->Prop}{r:Loop}{b:ByteArray}{k j:Nat}(n:Az wd)(hs:b.size<4611686018427387904)
 (e:∀c w,d c w->w.heap[k]?=some (.cells #[.s b] 9)) (g:∀c w,d c w->w.heap[j]?=some (.cells #[.i wd] 3))
 (G:sa lT Goal (m::cs) (λc=>#[.i (dK b.data.toList wd c)]) (b.size*(8/wd)) l r d)  (i:d 0 w)
 (h:∀w,d (b.size*(8/wd)) w->Rn lT Goal (m.finish (.tuple #[])) cs w):
 Rn lT Goal (TJ lT 117 #[.func (.yield l) #[] #[], .pk k 0, .pk j 0] .normal) (m::cs) w:=by rw[aZ (N:=32) [.func (.yield l) #[] #[], .pk k 0, .pk j 0] Lf.func117 Pv rfl];have f:=aQ [.func (.yield l) #[] #[], .pk k 0, .pk j 0] 32 s_;refine Rn.vv f (λo p=>(aO bN p (f.G 1) ((aG (e _ _ i) 0).trans rfl)).1) λa f=> ?_;refine Rn.uu f λa f=> ?_;refine Rn.mvc f 8 (.i 0) d_ k_ λa f=> ?_;refine Rn.p rfl (Rn.p rfl (Rn.p rfl ?_));refine Bp n e g G hs (λa w i q=> ?_) b.size 0 a w rfl (W4 _) (by rw[Nat.zero_mul];exact i) (f.only ⟨rfl,rfl,rfl,rfl,rfl,trivial⟩);exact Rn.ends rfl (.inl rfl) (Rn.leave (.tuple #[]) rfl q Lf.func117 (results_none rfl _ _ w) (events_results_none rfl _ _) (h w i))
end L1
section
open Go.Conc Go.RowKit
section
variable{base:Nat}{e:TypeId}{size:Nat}{xs:List Value}
theorem mW(h:w.ownsRow base e size v n xs){o:Obj}(d:w.heap[b]?=some o)(hne:∀a,o≠ .cells a e (0,0)):some b≠v.ownBlock:=λq=>by
 rcases h.2 with⟨rfl,_⟩|⟨g,f,a,rfl,_,c,_⟩
 ·cases q
 ·cases q;rw[d]at c;cases c;exact hne _ rfl
theorem kX(h:w.ownsRow base e size v n xs)(c:∀g,v.ownBlock=some g->w'.heap[g]?=w.heap[g]?):w'.ownsRow base e size v n xs:=by
 refine⟨h.1, ?_⟩;rcases h.2 with h|⟨g,b,a,rfl,i,d,f⟩
 ·exact .inl h
 ·exact .inr ⟨g,b,a,rfl,i,(c g rfl).trans d,f⟩
theorem zG{row:Option Nat}(h:Below N w0 w)(b:w.grownBy w' row)(a:∀k,row=some k->N<=k)(d:N<=w.heap.size):Below N w0 w':=
 ⟨b.os.trans h.os,b.tape.trans h.tape,b.output.trans h.output,TW h.size b.size,λk c=>(b.block k o_ (λq=>by have:=a k q.symm;omega)).trans (h.block k c)⟩
end
structure Ap (ti ts:TypeId) (D:Nat->Value) (b2 l ld:Nat) (r:Loop) (w0:World) (c:Nat) (w:World):Prop where
 old:Bw w0 w
 row:∃v,w.heap[b2]?=some (.cells #[v] ts)/\w.ownsRow w0.heap.size ti 1 v c ((U5 c).map D)
 loop:w.heap[l]?=some (.loop r)
 list:w.heap[ld]?=some (.deferred (some []))
theorem Ap.below{e d:TypeId}{D:Nat->Value}{j ld:Nat}{r:Loop}{w0:World}{c:Nat}(h:Ap e d D j l ld r w0 c w)(a:Bw w w'):Ap e d D j l ld r w0 c w':=by have g:∀{b:Nat} {o:Obj},w.heap[b]?=some o->w'.heap[b]?=some o:=λ{b o} f=>(a.block b (gA f).1).trans f;obtain⟨v,n,i⟩:=h.row;exact⟨aE h.old h.old.size a,⟨v,g n,kX i λk m=>a.block k (i.lt k m).2⟩,g h.loop,g h.list⟩
end
namespace L1
open Go.Conc Go.RowKit
def Ai(f:Func)(T:Array Value)(ld:Nat)(st:LoopState):Loop:={state:=st,pending:=none,fn:=118,tmps:=T,params:=#[7],assign:= .region 2 (bV f 2) false,body:= .block 1 (rG f 3),defers:=ld}
theorem Pu:Tryz.f118.body=some (.seq (rG Tryz.f118 0) (.seq (.seq (rG Tryz.f118 1) (.block 0 (.rangeFunc (.tmp 6) #[7] (rG Tryz.f118 2) (.block 1 (rG Tryz.f118 3)))))
 (.seq (rG Tryz.f118 4) .ret))):=k_
theorem Ie:∃i,lT.info? 3=some i/\i.zero=some (.i 0)/\i.size=1/\i.bytes=8:=by
 have h:(lT.info? 3).map (λi=>(i.zero,i.size,i.bytes))=some (some (.i 0),1,8):=k_
 obtain⟨i,b,a⟩:=Option.map_eq_some_iff.1 h;simp only[Prod.mk.injEq]at a;exact⟨i,b,a.1,a.2.1,a.2.2⟩
theorem NV{i:Int}(a:o.op= .buildSlice 22 1 #[(0,x)])(b:ev x= .i i):
 (execOp ev o).run lT w= .ok (.value (.sk w.heap.size 1 1)) (w.alloc (.cells #[.i i] 3)):=by
 have e:execOp ev o=(do pure (.value (←Uf 22 1 #[(0, .i i)]))):=by simp[execOp,a,b]
 have c:(do pure (.value (←Uf 22 1 #[(0, .i i)])):Sem Next).run lT w= .ok (.value (.sk w.heap.size 1 1)) (w.alloc (.cells #[.i i] 3)):=k_
 rw[e,c]
section
variable{T:Array Value}{b2 ld:Nat}{d:Nat->Int}
theorem Ki(hT:aW [(2, .pt b2)] 13 [] ⟨T,[]⟩)(hb2:w0.heap.size<=b2)(hl:w0.heap.size<=l){c:Nat}(hc:c<1000000){cf:Frame}(hI:Ap 3 22 (λi=> .i (d i)) b2 l ld (Ai Tryz.f118 T ld .ready) w0 c w)
 (next:∀w',Ap 3 22 (λi=> .i (d i)) b2 l ld (Ai Tryz.f118 T ld .ready) w0 (c+1) w'->Rn lT Goal (cf.finish (.bool true)) cs w'):
 Rn lT Goal (Vt l 118 (((#[7]:Array Tmp).zip #[.i (d c)]).foldl (λtmps (t,a)=>tmps.setIfInBounds t a) T) (rG Tryz.f118 2) (.block 1 (rG Tryz.f118 3)) .normal) (cf::cs) w:=by
 have hF:=hT.put (d:=7) d_ (.i (d c));have ez:((#[7]:Array Tmp).zip #[.i (d c)]).foldl (λ(tmps:Array Value) (x:Tmp×Value)=>match x with|(t,a)=>tmps.setIfInBounds t a) T=T.setIfInBounds 7 (.i (d c)):=s_
 rw[ez];show Rn _ Goal ((rb 118 l).atR (VN ⟨T,[]⟩ (some 7) (.i (d c))) [.code (rG Tryz.f118 2), .beginRound, .code (.block 1 (rG Tryz.f118 3))]) (cf::cs) w;revert hF;generalize VN ⟨T,[]⟩ (some 7) (.i (d c))=a;intro hF;refine Rn.r (L:=[0]) rfl (Rn.S hF 5 7 rfl λa hF=> ?_);refine Rn.p rfl (Rn.rounds (r:=Ai Tryz.f118 T ld .ready) rfl hI.loop rfl ?_);obtain⟨v,hv,hown⟩:=hI.row;have n2l:b2≠l:=λe=>by subst e;rw[hI.loop]at hv;cases hv
 have ndl:ld≠l:=λe=>by subst e;have:=hI.list;rw[hI.loop]at this;cases this
 have n2d:ld≠b2:=λe=>by subst e;have:=hI.list;rw[hv]at this;cases this
 have hv1:(bP w l (Ai Tryz.f118 T ld .busy)).heap[b2]?=some (.cells #[v] 22):=(bD w _ n2l).trans hv;have hl1:(bP w l (Ai Tryz.f118 T ld .busy)).heap[l]?=some (.loop (Ai Tryz.f118 T ld .busy)):=gq hI.loop;have hd1:(bP w l (Ai Tryz.f118 T ld .busy)).heap[ld]?=some (.deferred (some [])):=(bD w _ ndl).trans hI.list;have hown1:(bP w l (Ai Tryz.f118 T ld .busy)).ownsRow w0.heap.size 3 1 v c ((U5 c).map λi=> .i (d i)):=kX hown λg hg=>bD w _ λe=>mW hown hI.loop (by intro cur q;cases q) (by rw[←e];exact hg.symm);have hold1:Bw w0 (bP w l (Ai Tryz.f118 T ld .busy)):=hI.old.trans (em w l _ hl);show Rn _ Goal _ _ (bP w l (Ai Tryz.f118 T ld .busy));revert hv1 hl1 hd1 hown1 hold1;generalize bP w l (Ai Tryz.f118 T ld .busy)=w1;intro hv1 hl1 hd1 hown1 hold1
 iterate 2 refine Rn.uu hF λa hF=> ?_
 refine Rn.vv hF (λo ho=>NV ho (hF.G 9)) λa hF=> ?_;have hb2':=aV w1 (.cells #[.i (d c)] 3);have g:∀{b:Nat} {o:Obj},w1.heap[b]?=some o->(w1.alloc (.cells #[.i (d c)] 3)).heap[b]?=some o:=λ{b o} ho=>(hb2'.block b (gA ho).1).trans ho;have hv2:=g hv1;have hl2:=g hl1;have hd2:=g hd1;have hown2:(w1.alloc (.cells #[.i (d c)] 3)).ownsRow w0.heap.size 3 1 v c ((U5 c).map λi=> .i (d i)):=kX hown1 λk hk=>hb2'.block k (hown1.lt k hk).2;have hold2:Bw w0 (w1.alloc (.cells #[.i (d c)] 3)):=aE hold1 hold1.size hb2';have hnew:=bJ w1 (.cells #[.i (d c)] 3);obtain⟨ti,hti,hz,hsz,hby⟩:=Ie;have happ:=λty=>run_append_own (P:=aI true tP) (w1.alloc (.cells #[.i (d c)] 3)) w0.heap.size 22 ty 3 ti (.i 0) 1 8 k_ hti hz hsz hby rfl d_ v c _ hown2 ⟨w1.heap.size,0,none⟩ 1 1 [.i (d c)] rfl
  (λj u hj=>by have hj0:j=0:=(by have:=(TM.1 hj).1;simp at this;omega);subst hj0;cases hj;rw[un,aG hnew];rfl) (λu hu=>by simp at hu;subst hu;rfl) (by simp only[maxLen];omega) o_ hold2.size
 cases ho:(bV Tryz.f118 3)[3]? with
 |none=>exact absurd ho (by simp;decide)
 |some o=>
 obtain⟨e1,e2,e3⟩:=cB (d:=some 11) (p:= .call {callee:= .builtin .append,args:=#[.tmp 8, .tmp 10],argTypes:=#[22,22]}) ho k_;obtain⟨v',w3,hrun,hown3,hgr,_⟩:=happ o.type;have hr:(execOp a.eval o).run lT (w1.alloc (.cells #[.i (d c)] 3))= .ok (.value v') w3:=by have x8:=hF.G 8;have x10:=hF.G 10;simp[execOp,e2,resolve,x8,x10,invoke,builtin,hrun]
 refine Rn.ran ho (e3 _) (by rw[e2];simp) hr ?_;rw[e1];have hF:=hF.put (d:=11) d_ v';revert hF;generalize a.put (some 11) v'=a;intro hF;have q2:=mW hown2 hv2 (by intro cur q;cases q);have ql:=mW hown2 hl2 (by intro cur q;cases q);have qd:=mW hown2 hd2 (by intro cur q;cases q);have hv3:=(hgr.block b2 (gA hv2).1 q2).trans hv2;have hl3:=(hgr.block l (gA hl2).1 ql).trans hl2;have hd3:=(hgr.block ld (gA hd2).1 qd).trans hd2;have hold3:Bw w0 w3:=zG hold2 hgr (λk hk=>(hown2.lt k hk).1) hold2.size;clear hrun happ hr hgr q2 ql qd hnew e1 e2 e3 ho;have hcells:v'.cells=#[v']/\v'.oneCell'=true:=by rcases hown3.2 with⟨rfl,_⟩|⟨g,cap,cur,rfl,_⟩<;>exact⟨rfl,rfl⟩
 refine Rn.nn hF (λo ho=>(eI (w:=w3) (b:=b2) (k:=0) (v:=v') (v0:=v) hcells.1 hcells.2 k_ ho (hF.G 2) (hF.G 11) ((aG hv3 0).trans rfl) (by simp[Ux,hv3])).1) λa hF=> ?_;refine Rn.p rfl (Rn.p rfl ?_);have hl4:(w3.setCell ⟨b2,0,none⟩ v').heap[l]?=some (.loop (Ai Tryz.f118 T ld .busy)):=(cA w3 _ (UP n2l)).trans hl3;refine Rn.through rfl rfl hl4 (next _ ⟨?_,⟨v',(bD _ _ n2l).trans (jn hv3), ?_⟩,gq hl4,(bD _ _ ndl).trans ((cA w3 _ n2d).trans hd3)⟩)
 ·exact(hold3.trans (ee _ _ _ hb2)).trans (em _ _ _ hl)
 ·rw[Y7,List.map_append];refine kX hown3 λk hk=> ?_;have k1:k≠l:=λe=>mW hown3 hl3 (by intro cur q;cases q) (by rw[←e];exact hk.symm);have k2:k≠b2:=λe=>mW hown3 hv3 (by intro cur q;cases q) (by rw[←e];exact hk.symm);exact(bD _ _ k1).trans (cA w3 _ k2)
end
def zW(b:ByteArray)(wd n:Nat):List Value:=(U5 n).map λi=> .int .i64 (dK b.data.toList wd i)
theorem Kc(b:ByteArray)(wd bb bw:Nat)(w:World)(J:Az wd)(hs:b.size<=1000)(n:w.heap[bb]?=some (.cells #[.s b] 9))(m:w.heap[bw]?=some (.cells #[.i wd] 3)):
 Calls lT 118 #[.slice none 0 0, .func (.func 117) #[] #[.pk bb 0, .pk bw 0]] w λe w'=>∃v,e= .returned v/\w'.ownsRow w.heap.size 3 1 v (b.size*(8/wd)) (zW b wd (b.size*(8/wd)))/\Bw w w':=by
 refine bI (t:=4) Lf.func118 rfl λM=> ?_;rw[aZ (N:=13) [.slice none 0 0, .func (.func 117) #[] #[.pk bb 0, .pk bw 0]] Lf.func118 Pu rfl];have r:=aQ [.slice none 0 0, .func (.func 117) #[] #[.pk bb 0, .pk bw 0]] 13 s_;refine Rn.gr ?_;refine Rn.z r 2 0 22 rfl λa r=> ?_;show Rn _ _ _ _ (w.alloc (.cells #[.slice none 0 0] 22))
 iterate 2 refine Rn.uu r λa r=> ?_
 have s:=aR w (.cells #[.slice none 0 0] 22);have j:=aV w (.cells #[.slice none 0 0] 22);have A:=bJ w (.cells #[.slice none 0 0] 22);have x:=(j.block bb (gA n).1).trans n;have u:=(j.block bw (gA m).1).trans m;revert s j A x u;generalize w.alloc (.cells #[.slice none 0 0] 22)=f;intro s j A x u;refine Rn.p rfl (Rn.p rfl ?_);refine Rn.rangeAs (Ai Tryz.f118 a.tmps f.heap.size .ready) (args:=#[.func (.yield (f.heap.size+1)) #[] #[], .pk bb 0, .pk bw 0]) rfl rfl Lf.func117 k_ k_ (r.G 6) s_ ?_;have D:=(gA n).1;have C:=(gA m).1;have B:8/wd<=4:=by rcases J with rfl|rfl|rfl<;>decide
 have U:b.size*(8/wd)<=4000:=TW (ac2 hs B) d_;have L:aW [(2, .pt w.heap.size)] 13 [] ⟨a.tmps,[]⟩:=⟨rfl,r.size,(r.only (G:=[(2, .pt w.heap.size)]) ⟨rfl,trivial⟩).slot⟩;have G:∀z,sa lT z (((base 118).atR ⟨a.tmps,{target:= .collected f.heap.size,args:=#[]}::a.defers⟩ (.inRangeFunc (f.heap.size+1)::[.inBlock 0, .code (.seq (rG Tryz.f118 4) .ret)]))::M) (λc=>#[.i (dK b.data.toList wd c)]) (b.size*(8/wd)) (f.heap.size+1) (Ai Tryz.f118 a.tmps f.heap.size .ready)
  (Ap 3 22 (λi=> .i (dK b.data.toList wd i:Nat)) w.heap.size (f.heap.size+1) f.heap.size (Ai Tryz.f118 a.tmps f.heap.size .ready) w):=
  λz=>
  {below:=λc w w' h S=>h.below S
   loop:=λc w h=>h.loop
   size:=λc=>rfl
   round:=λc w' W V y next=>Ki (d:=λc=>(dK b.data.toList wd c:Nat)) L (TB _) o_ o_ y next}
 refine rS J o_ (λc w' h=>(h.old.block bb D).trans n) (λc w' h=>(h.old.block bw C).trans m) (G _) ⟨aE j o_ (fO f _),⟨.slice none 0 0,(bM f _ o_).trans A,World.ownsRow_nil _ _ _ _⟩,eK f _,eL f _⟩ λE y=> ?_;show Rn _ _ ((base 118).atR ⟨a.tmps,{target:= .collected f.heap.size,args:=#[]}::a.defers⟩ (.endRangeFunc (f.heap.size+1)::_)) M E;refine Rn.rangeOver y.loop rfl rfl ?_;obtain⟨v,Q,g⟩:=y.row;have p:aW [(2, .pt w.heap.size)] 13 [{target:= .collected f.heap.size,args:=#[]}] ⟨a.tmps,{target:= .collected f.heap.size,args:=#[]}::a.defers⟩:=⟨by rw[r.defers],r.size,L.slot⟩;revert p;generalize (Act.mk a.tmps ({target:= .collected f.heap.size,args:=#[]}::a.defers))=Y;intro p;have H:=(bD E (l:=f.heap.size+1) (b:=f.heap.size) {Ai Tryz.f118 a.tmps f.heap.size .ready with state:= .exhausted} o_).trans y.list;have F:=(bD E (l:=f.heap.size+1) (b:=w.heap.size) {Ai Tryz.f118 a.tmps f.heap.size .ready with state:= .exhausted} o_).trans Q;refine Rn.gr ?_;refine Rn.O p 12 (.load 22 (.tmp 2)) (λo R=>(aO pD R (p.G 2) ((aG F 0).trans rfl)).1) λX p=> ?_;refine Rn.S p 4 12 rfl λT p=> ?_;refine Rn.p rfl (Rn.ends rfl (.inr ⟨_,rfl⟩) (Rn.take (ds:=[]) p.defers H (Rn.now ⟨⟨T.tmps,[]⟩,_,v,rfl,rfl,p.slot 4 _ rfl,v,rfl, ?_, ?_⟩)))
 ·refine kX g λk K=> ?_;have P:k≠f.heap.size+1:=λe=>mW g y.loop (by intro I q;cases q) (by rw[←e];exact K.symm);have O:k≠f.heap.size:=λe=>mW g y.list (by intro I q;cases q) (by rw[←e];exact K.symm);show(Array.setIfInBounds _ _ _)[k]?=_;rw[sN (UP O)];exact bD _ _ P
 ·exact(y.old.trans (em _ _ _ o_)).trans (fG _ _ o_)
theorem PC:Tryz.f109.body=some (.seq (rG Tryz.f109 0) (.seq (rG Tryz.f109 1) .ret)):=k_
theorem A3(b:ByteArray)(wd bb bw:Nat)(w:World)(h:Az wd)(hs:b.size<=1000)(g:w.heap[bb]?=some (.cells #[.s b] 9))(d:w.heap[bw]?=some (.cells #[.i wd] 3)):
 Calls lT 109 #[.func (.func 117) #[] #[.pk bb 0, .pk bw 0]] w λe w'=>∃v,e= .returned v/\w'.ownsRow w.heap.size 3 1 v (b.size*(8/wd)) (zW b wd (b.size*(8/wd)))/\Bw w w':=by
 refine bI (t:=2) Lf.func109 rfl λj=> ?_;rw[aZ (N:=5) [.func (.func 117) #[] #[.pk bb 0, .pk bw 0]] Lf.func109 PC rfl];have c:=aQ [.func (.func 117) #[] #[.pk bb 0, .pk bw 0]] 5 s_
 iterate 2 refine Rn.uu c λa c=> ?_
 refine Rn.calls (f:=118) (xs:=#[.const (.slice none 0 0), .tmp 3]) (ats:=#[22,160]) (args:=#[.slice none 0 0, .func (.func 117) #[] #[.pk bb 0, .pk bw 0]]) c 4 d_ k_ (by simp[c.G 3];rfl) Lf.func118 k_ k_
  (Kc b wd bb bw w h hs g d) λv w' i a c=> ?_
 refine Rn.uu c λa c=> ?_;exact Rn.fi c ⟨v,rfl,i⟩
theorem PD:Tryz.f107.body=some (.seq (rG Tryz.f107 0) (.seq (rG Tryz.f107 1) .ret)):=k_
theorem u6(b:ByteArray)(wd:Nat)(w:World):
 Calls lT 107 #[.s b, .i wd] w λe w'=>e= .returned (.func (.func 117) #[] #[.pk w.heap.size 0, .pk (w.heap.size+1) 0])/\w'=(w.alloc (.cells #[.s b] 9)).alloc (.cells #[.i wd] 3):=by
 refine bI (t:=4) Lf.func107 rfl λf=> ?_;rw[aZ (N:=6) [.s b, .i wd] Lf.func107 PD rfl];have c:=aQ [.s b, .i wd] 6 s_;refine Rn.gr ?_;refine Rn.z c 2 0 9 rfl λa c=> ?_;show Rn _ _ _ _ (w.alloc (.cells #[.s b] 9));refine Rn.z c 3 1 3 rfl λa c=> ?_;rw[aR]at c;show Rn _ _ _ _ ((w.alloc (.cells #[.s b] 9)).alloc (.cells #[.i wd] 3));refine Rn.uu c λa c=> ?_;refine Rn.gr ?_;refine Rn.O c 5 (.makeFunc (.func 117) #[] #[.tmp 2, .tmp 3]) (v:= .func (.func 117) #[] #[.pk w.heap.size 0, .pk (w.heap.size+1) 0]) (w':=(w.alloc (.cells #[.s b] 9)).alloc (.cells #[.i wd] 3)) (λo d=> ?_) λa c=> ?_
 ·have h:=(fv lT (w:=(w.alloc (.cells #[.s b] 9)).alloc (.cells #[.i wd] 3)) (ev:=a.eval) d).1;rw[h];simp[c.G 2,c.G 3]
 refine Rn.uu c λa c=> ?_;exact Rn.fi c ⟨rfl,rfl⟩
end L1
section
open Go.Conc Go.RowKit
structure Sm (ts tk ti:TypeId) (Q:ByteArray) (wd:Nat) (key:Array Value) (r:Loop) (w0:World) (S:Nat) (w:World):Prop where
 old:Bw w0 w
 key:w.heap[w0.heap.size]?=some (.cells key tk)
 five:w.heap[w0.heap.size+1]?=some (.cells #[.int .i64 S] ti)
 str:w.heap[w0.heap.size+2]?=some (.cells #[.string Q] ts)
 wid:w.heap[w0.heap.size+3]?=some (.cells #[.int .i64 wd] ti)
 list:w.heap[w0.heap.size+4]?=some (.deferred (some []))
 loop:w.heap[w0.heap.size+5]?=some (.loop r)
section
variable{ts tk ti:TypeId}{Q:ByteArray}{key:Array Value}{r:Loop}{S:Nat}
theorem Sm.below(h:Sm ts tk ti Q wd key r w0 S w)(c:Bw w w'):Sm ts tk ti Q wd key r w0 S w':=by have g:∀{b:Nat} {o:Obj},w.heap[b]?=some o->w'.heap[b]?=some o:=λ{b o} a=>(c.block b (gA a).1).trans a;exact⟨aE h.old h.old.size c,g h.key,g h.five,g h.str,g h.wid,g h.list,g h.loop⟩
theorem Sm.turn(h:Sm ts tk ti Q wd key r w0 S w)(a:Loop):Sm ts tk ti Q wd key a w0 S (bP w (w0.heap.size+5) a):=
 ⟨h.old.trans (em w _ _ o_),(bD w _ o_).trans h.key,(bD w _ o_).trans h.five,(bD w _ o_).trans h.str,(bD w _ o_).trans h.wid,(bD w _ o_).trans h.list,gq h.loop⟩
theorem Sm.put(h:Sm ts tk ti Q wd key r w0 S w)(a:Nat):Sm ts tk ti Q wd key r w0 a (w.setCell ⟨w0.heap.size+1,0,none⟩ (.i a)):=
 ⟨h.old.trans (ee w _ _ (by show _<=w0.heap.size+1;omega)),(cA w _ (by show _≠w0.heap.size+1;omega)).trans h.key,jn h.five,(cA w _ (by show _≠w0.heap.size+1;omega)).trans h.str,(cA w _ (by show _≠w0.heap.size+1;omega)).trans h.wid,(cA w _ (by show _≠w0.heap.size+1;omega)).trans h.list,(cA w _ (by show _≠w0.heap.size+1;omega)).trans h.loop⟩
end
end
namespace L1
open Go.Conc Go.RowKit
def y8(f:Func)(T:Array Value)(ld:Nat)(st:LoopState):Loop:={state:=st,pending:=none,fn:=103,tmps:=T,params:=#[12],assign:= .region 3 (bV f 3) false,body:= .block 1 (rD f 4),defers:=ld}
theorem PH:Tryz.f103.body=some (.seq (rG Tryz.f103 0) (.seq (rG Tryz.f103 1) (.seq (.seq (rG Tryz.f103 2) (.block 0 (.rangeFunc (.tmp 11) #[12] (rG Tryz.f103 3) (.block 1 (rD Tryz.f103 4)))))
 (.seq (rG Tryz.f103 5) (.seq (rD Tryz.f103 6) .ret))))):=k_
section
variable{y:Operand}
theorem ey(j:Nat)(f:j<8)(a:o.op= .fieldAddr 145 x j)(c:ev x= .pk b 0):(execOp ev o).run lT w= .ok (.value (.pk b j)) w:=by
 have e:execOp ev o=(do pure (.value (←TS 145 (.pk b 0) j))):=by simp only[execOp,a,c]
 have d:(do pure (.value (←TS 145 (.pk b 0) j)):Sem Next).run lT w= .ok (.value (.pk b j)) w:=by rcases(o_:j=0\/j=1\/j=2\/j=3\/j=4\/j=5\/j=6\/j=7)with rfl|rfl|rfl|rfl|rfl|rfl|rfl|rfl<;>kernel_rfl
 rw[e,d]
theorem GO{g:Addr}{len cap:Nat}(a:o.op= .slice 22 x none (some y) none)(d:ev x= .slice (some g) len cap)(c:ev y= .i n)(h:n<=cap):(execOp ev o).run lT w= .ok (.value (.slice (some g) n cap)) w:=by
 have e:lT.underlying 22=some (.slice 3):=k_
 have b:∀w:World,(sizeOf 3).run lT w= .ok 1 w:=λw=>k_
 simp[execOp,a,d,c,UF,VE,UK,run_underlying e,UQ,asIntOf,h,b,go_sem]
end
section
variable{T:Array Value}{s:dp}{Q:ByteArray}
theorem Kl(D:Az wd)(C:s.width=wd)(hT:aW [(2, .pt w0.heap.size),(5, .pt (w0.heap.size+1))] 34 [] ⟨T,[]⟩){c:Nat}(hc:c<1000000){K:Frame}
 (p:Sm 9 145 3 Q wd s.key (y8 Tryz.f103 T (w0.heap.size+4) .ready) w0 (fJ Q.data.toList wd c) w)
 (next:∀w',Sm 9 145 3 Q wd s.key (y8 Tryz.f103 T (w0.heap.size+4) .ready) w0 (fJ Q.data.toList wd (c+1)) w'->Rn lT Goal (K.finish (.bool true)) cs w'):
 Rn lT Goal (Vt (w0.heap.size+5) 103 (((#[12]:Array Tmp).zip #[.i (dK Q.data.toList wd c)]).foldl (λtmps (t,a)=>tmps.setIfInBounds t a) T) (rG Tryz.f103 3) (.block 1 (rD Tryz.f103 4)) .normal) (K::cs) w:=by
 have f:=hT.put (d:=12) d_ (.i (dK Q.data.toList wd c));have ez:((#[12]:Array Tmp).zip #[.i (dK Q.data.toList wd c)]).foldl (λ(tmps:Array Value) (x:Tmp×Value)=>match x with|(t,a)=>tmps.setIfInBounds t a) T=T.setIfInBounds 12 (.i (dK Q.data.toList wd c)):=s_
 rw[ez];show Rn _ Goal ((rb 103 (w0.heap.size+5)).atR (VN ⟨T,[]⟩ (some 12) (.i (dK Q.data.toList wd c))) [.code (rG Tryz.f103 3), .beginRound, .code (.block 1 (rD Tryz.f103 4))]) (K::cs) w;revert f;generalize VN ⟨T,[]⟩ (some 12) (.i (dK Q.data.toList wd c))=a;intro f;refine Rn.r (L:=[0]) rfl (Rn.S f 6 12 rfl λa f=> ?_);refine Rn.p rfl (Rn.rounds (r:=y8 Tryz.f103 T (w0.heap.size+4) .ready) rfl p.loop rfl ?_);have y:=p.turn (y8 Tryz.f103 T (w0.heap.size+4) .busy);show Rn _ Goal _ _ (bP w (w0.heap.size+5) (y8 Tryz.f103 T (w0.heap.size+4) .busy));revert y;generalize bP w (w0.heap.size+5) (y8 Tryz.f103 T (w0.heap.size+4) .busy)=w1;intro y;have B:=wN Q.data.toList D c;have O:=wI D;have I:=zX Q.data.toList wd c;have f:aW [(2, .pt w0.heap.size),(5, .pt (w0.heap.size+1)),(6, .i (dK Q.data.toList wd c))] 34 [] a:=f.only ⟨rfl,rfl,rfl,trivial⟩;refine Rn.p rfl ?_;refine Rn.grows (fx:=[(2, .pt w0.heap.size),(5, .pt (w0.heap.size+1)),(6, .i (dK Q.data.toList wd c))]) (ds:=[13,14,15,16,17,18]) (N:=34) (df:=[])
  (G:=λn v _=>([.i (fJ Q.data.toList wd c), .agg s.key, .i (eD wd), .i (dK Q.data.toList wd c), .i ((eD wd- dK Q.data.toList wd c:Nat):Int), .i (fJ Q.data.toList wd (c+1))]:List Value)[n]?=some v) k_ k_ (λn v w w' h _=>h) (λn o a w' R l Z z F=> ?_)
  (λn a w'=>(n=6/\aW [(18, .i (fJ Q.data.toList wd (c+1))),(2, .pt w0.heap.size),(5, .pt (w0.heap.size+1)),(6, .i (dK Q.data.toList wd c))] 34 [] a/\Sm 9 145 3 Q wd s.key (y8 Tryz.f103 T (w0.heap.size+4) .busy) w0 (fJ Q.data.toList wd c) w')\/
    (n=7/\Sm 9 145 3 Q wd s.key (y8 Tryz.f103 T (w0.heap.size+4) .busy) w0 (fJ Q.data.toList wd (c+1)) w'))
  (λa w' J=> ?_) (λn o a w' M R l B H=> ?_) (λa w' B=> ?_) f.defers f.size (f.all s_)
 ·have A:=y.below Z;have f2:=z _ (mG (i:=0) rfl);have f5:=z _ (mG (i:=1) rfl);have f6:=z _ (mG (i:=2) rfl);have g:∀m d v,[13,14,15,16,17,18][m]?=some d->gt (bV Tryz.f103 4) n m=true->([.i (fJ Q.data.toList wd c), .agg s.key, .i (eD wd), .i (dK Q.data.toList wd c), .i ((eD wd- dK Q.data.toList wd c:Nat):Int), .i (fJ Q.data.toList wd (c+1))]:List Value)[m]?=some v->a.eval (.tmp d)=v:=λm d v Y W U=>by obtain⟨u,E,q⟩:=F m d Y W;rw[U]at q;cases q;exact aB E
  have X:n<6:=R;rcases(o_:n=0\/n=1\/n=2\/n=3\/n=4\/n=5)with rfl|rfl|rfl|rfl|rfl|rfl
  ·have j:=oS l;exact aJ (aO ce j (aB f5) ((aG A.five 0).trans rfl)).1 ⟨rfl,bR⟩
  ·have j:=oS l;exact aJ (ig (s:=s) j (aB f2) A.key λ_ _=>rfl) ⟨rfl,bR⟩
  ·have j:=oS l;have a1:=g 1 14 _ rfl k_ rfl;have V:=bU (w:=w') j (show(#[Ul 14]:Array Operand).map a.eval=#[.agg s.key]from by simp[a1]) (rI (P:=aI true tP) Lf.func108 _);refine .inr ⟨_,_,V.1,(CM s wd C (by rcases D with rfl|rfl|rfl<;>decide) w').mono λe S h=>⟨_,h.1,rfl,h.2⟩⟩
  ·have j:=oS l;exact sf (.inl j) f6 ⟨rfl,bR⟩
  ·have j:=oS l;refine aJ (Bd j (g 2 15 _ rfl k_ rfl) (g 3 16 _ rfl k_ rfl) o_) ⟨?_,bR⟩;rw[←Int.ofNat_sub I];rfl
  ·have j:=oS l;refine aJ (tD j (g 0 13 _ rfl k_ rfl) (g 4 17 _ rfl k_ rfl) o_) ⟨?_,bR⟩;rw[←Vi];rfl
 ·obtain⟨u,E,q⟩:=J.come 5 18 rfl trivial;cases q;exact .inl ⟨rfl,J.base.more E,y.below J.old⟩
 ·rcases B with⟨rfl,f,p⟩|⟨rfl,p⟩
  ·refine Rn.does0 f (.store 3 (.tmp 5) (.tmp 18)) k_ s_ (λo l=>(eI (w:=w') (b:=w0.heap.size+1) (k:=0) (v:= .i (fJ Q.data.toList wd (c+1))) (v0:= .i (fJ Q.data.toList wd c)) rfl rfl k_ l (f.G 5) (f.G 18) ((aG p.five 0).trans rfl) (by simp[Ux,p.five])).1) λa f=>H a _ (.inr ⟨rfl,p.put _⟩)
  ·exact absurd (gA l).1 d_
 ·rcases B with⟨h,_⟩|⟨_,p⟩
  ·exact absurd h d_
  ·exact Rn.p rfl (Rn.through rfl rfl p.loop (next _ (p.turn _)))
end
def p8(n:Nat)(d:Nat->Nat)(v:Value)(w:World):Prop:=∃gb cap,v= .sk gb n cap/\gb<w.heap.size/\∀c,c<n->w.cell? ⟨gb,c,none⟩=some (.int .i64 (d c))
theorem p8.mono{d:Nat->Nat}(h:p8 n d v w)(f:Bw w w'):p8 n d v w':=by obtain⟨b,e,rfl,a,h⟩:=h;refine⟨b,e,rfl,TC a f.size,λc g=> ?_⟩;rw[←h c g];unfold U6;rw[show w'.heap[(⟨b,c,none⟩:Addr).block]?=_ from f.block b a]
def T6(N:Nat)(al:ByteArray)(wd n:Nat):Nat->Value->World->Prop
 |0,v,_=>v= .string al
 |1,v,_=>v= .pk N 5
 |2,v,_=>v= .int .i64 wd
 |3,v,w=>∃p,v= .func (.func 117) #[] #[.pk p 0, .pk (p+1) 0]/\w.heap[p]?=some (.cells #[.string al] 9)/\w.heap[p+1]?=some (.cells #[.int .i64 wd] 3)
 |4,v,w=>∃B,w.ownsRow B 3 1 v (al.size*(8/wd)) (zW al wd (al.size*(8/wd)))
 |5,v,_=>v= .pk N 6
 |6,v,_=>v= .int .i64 n
 |_,v,w=>p8 n (λc=>dK al.data.toList wd c) v w
theorem Ir{al:ByteArray}{wd:Nat}(k:Nat)(v:Value)(w w':World)(h:T6 N al wd n k v w)(a:Bw w w'):T6 N al wd n k v w':=by
 have g:∀{b:Nat} {o:Obj},w.heap[b]?=some o->w'.heap[b]?=some o:=λ{b o} c=>(a.block b (gA c).1).trans c
 match k,h with
 |0,h|1,h|2,h=>exact h
 |3,⟨p,h1,h2,h3⟩=>exact⟨p,h1,g h2,g h3⟩
 |4,⟨B,h⟩=>exact⟨B,kX h λk d=>a.block k (h.lt k d).2⟩
 |5,h|6,h=>exact h
 |k+7,h=>exact p8.mono h a
section
variable{s:dp}{al:ByteArray}
theorem OP(W:Az wd)(E:s.width=wd)(hn:s.count=n)(I:al.size<=1000)(a0:1<=n)(Z:n<=al.size*(8/wd))(q:w.heap[N]?=some (.cells s.key 145))
 (A:aW [(2, .pt N),(7, .s al)] 34 ds a)
 (next:∀a w' v,p8 n (λc=>dK al.data.toList wd c) v w'->Bw w w'->aW [(4,v)] 34 ds a->Rn lT Goal ((base 103).atR a K) cs w'):
 Rn lT Goal ((base 103).atR a (.code (rD Tryz.f103 6)::K)) cs w:=by
 refine Rn.grows (fx:=[(2, .pt N),(7, .s al)]) (ds:=[26,27,28,29,30,31,32,33,4]) (N:=34) (df:=ds)
  (G:=T6 N al wd n) k_ k_ Ir (λm o a w' S k H z b=> ?_)
  (λm a w'=>m=9/\Bw w w'/\∃v,p8 n (λc=>dK al.data.toList wd c) v w'/\aW [(4,v)] 34 ds a) (λa w' C=> ?_) (λm o a w' Q S k J a2=> ?_) (λa w' J=> ?_) A.defers A.size (A.all s_)
 ·have l:=(H.block N (gA q).1).trans q;have U:=z _ (mG (i:=0) rfl);have f7:=z _ (mG (i:=1) rfl);have a1:m<9:=S;rcases(o_:m=0\/m=1\/m=2\/m=3\/m=4\/m=5\/m=6\/m=7\/m=8)with rfl|rfl|rfl|rfl|rfl|rfl|rfl|rfl|rfl
  ·have d:=oS k;exact sf (.inl d) f7 ⟨rfl,bR⟩
  ·have d:=oS k;exact aJ (ey 5 d_ d (aB U)) ⟨rfl,bR⟩
  ·have d:=oS k;obtain⟨u,f,rfl⟩:=nE b 1 27;exact aJ (aO (v:= .i wd) ce d (aB f) ((aG l 5).trans (by rw[←E];rfl))).1 ⟨rfl,bR⟩
  ·have d:=oS k;obtain⟨u,f,rfl⟩:=nE b 0 26;obtain⟨V,j,rfl⟩:=nE b 2 28;have F:=bU (w:=w') d (show(#[Ul 26, .tmp 28]:Array Operand).map a.eval=#[.s al, .i wd]from by simp[aB f,aB j]) (rI (P:=aI true tP) Lf.func107 _);refine .inr ⟨_,_,F.1,(u6 al wd w').mono λe D h=>⟨_,h.1,⟨w'.heap.size,rfl, ?_, ?_⟩, ?_⟩⟩
   ·rw[h.2];exact(cQ _ _ (by rw[aR];omega)).trans (bJ w' _)
   ·rw[h.2];have:=bJ (w'.alloc (.cells #[.s al] 9)) (.cells #[.i wd] 3);rw[aR]at this;exact this
   ·rw[h.2];exact aE (aV w' _) (by rw[aR];omega) (aV _ _)
  ·have d:=oS k;obtain⟨u,f,p,rfl,x,L⟩:=nE b 3 29;have F:=bU (w:=w') d (show(#[Ul 29]:Array Operand).map a.eval=#[.func (.func 117) #[] #[.pk p 0, .pk (p+1) 0]]from by simp[aB f]) (rI (P:=aI true tP) Lf.func109 _);exact .inr ⟨_,_,F.1,(A3 al wd p (p+1) w' W I x L).mono λe D ⟨v,x,L,h3⟩=>⟨v,x,⟨_,L⟩,h3⟩⟩
  ·have d:=oS k;exact aJ (ey 6 d_ d (aB U)) ⟨rfl,bR⟩
  ·have d:=oS k;obtain⟨u,f,rfl⟩:=nE b 5 31;exact aJ (aO (v:= .i n) ce d (aB f) ((aG l 6).trans (by rw[←hn];rfl))).1 ⟨rfl,bR⟩
  ·have d:=oS k;obtain⟨u,f,B,y⟩:=nE b 4 30;obtain⟨V,j,rfl⟩:=nE b 6 32;rcases y.2 with⟨_,h0⟩|⟨g,O,M,rfl,_,T,Y,_,a3,r⟩
   ·omega
   ·refine aJ (GO d (aB f) (aB j) o_) ⟨⟨g,O,rfl,(gA T).1,λc hc=> ?_⟩,bR⟩;rw[aG T];have hl:c<al.size*(8/wd):=o_;have x:(M.toList.take (al.size*(8/wd)*1))[c]?=(zW al wd (al.size*(8/wd)))[c]?:=(by rw[r]);rw[List.getElem?_take_of_lt o_]at x;rw[←VG,x];simp[zW,hl]
  ·have d:=oS k;obtain⟨u,f,t⟩:=nE b 7 33;exact sf (.inr d) f ⟨t,bR⟩
 ·obtain⟨u,f,j⟩:=C.come 8 4 rfl trivial;exact⟨rfl,C.old,u,j,aW.mem C.defers C.size λp R=>by simp at R;subst R;exact f⟩
 ·exact absurd (gA k).1 (by obtain⟨rfl,_⟩:=J;decide)
 ·obtain⟨_,H,v,X,A⟩:=J;exact next a w' v X H A
end
theorem xF(s:dp)(wd sh n:Nat)(Q:ByteArray)(w:World)(K:Az wd)(D:s.width=wd)(a0:s.shift=sh)(L:sh<=8)(hn:s.count=n)(a4:1<=n)(a3:n<=34*(8/wd))(U:Q.size=32):
 Calls lT 103 #[.agg s.key, .s Q] w λe w'=>∃v,e= .returned v/\p8 n (λc=>dK (xQ Q.data.toList wd sh) wd c) v w'/\Bw w w':=by
 refine bI (t:=4) Lf.func103 rfl λcs=> ?_;rw[aZ (N:=34) [.agg s.key, .s Q] Lf.func103 PH rfl];have f:=aQ [.agg s.key, .s Q] 34 s_;have T:Q.size*(8/wd)=256/wd:=by rw[U];rcases K with rfl|rfl|rfl<;>decide
 refine Rn.gr ?_;refine Rn.z f 2 0 145 rfl λa f=> ?_;show Rn _ _ _ _ (w.alloc (.cells s.key 145));refine Rn.uu f λa f=> ?_;refine Rn.vv f (λo j=>(j9 j).1) λa f=> ?_;rw[aR]at f;have I:=bJ (w.alloc (.cells s.key 145)) (.cells #[.i 0] 3);rw[aR]at I;have W:=(cQ (w.alloc (.cells s.key 145)) (.cells #[.i 0] 3) (b:=w.heap.size) (by rw[aR];omega)).trans (bJ w _);have z:Bw w ((w.alloc (.cells s.key 145)).alloc (.cells #[.i 0] 3)):=aE (aV w _) (by rw[aR];omega) (aV _ _);have x:((w.alloc (.cells s.key 145)).alloc (.cells #[.i 0] 3)).heap.size=w.heap.size+2:=by rw[aR,aR]
 revert I W z x;generalize (w.alloc (.cells s.key 145)).alloc (.cells #[.i 0] 3)=J;intro I W z x;refine Rn.nn f (λo j=>(eI (w:=J) (b:=w.heap.size+1) (k:=0) (v:= .i 0) (v0:= .i 0) rfl rfl k_ j (f.G 5) rfl ((aG I 0).trans rfl) (by simp[Ux,I])).1) λa f=> ?_;have A:=jn (v:= .i 0) I;have u:=(cA J (a:=⟨w.heap.size+1,0,none⟩) (b:=w.heap.size) (.i 0) (by show _≠w.heap.size+1;omega)).trans W;have l:Bw w (J.setCell ⟨w.heap.size+1,0,none⟩ (.i 0)):=z.trans (ee J _ _ (by show _<=w.heap.size+1;omega));have i:(J.setCell ⟨w.heap.size+1,0,none⟩ (.i 0)).heap.size=w.heap.size+2:=by rw[←x];simp[U9]
 revert A u l i;generalize J.setCell ⟨w.heap.size+1,0,none⟩ (.i 0)=C;intro A u l i;refine Rn.gr ?_;refine Rn.y f 8 1 rfl λa f=> ?_;refine Rn.vv f (λo j=>ey 5 d_ j (f.G 2)) λa f=> ?_;refine Rn.vv f (λo j=>(aO (v:= .i wd) ce j (f.G 9) ((aG u 5).trans (by rw[←D];rfl))).1) λa f=> ?_;refine Rn.cw f Lf.func107 ((u6 Q wd C)) λg m a f=> ?_;rw[i]at f;have y:Bw C g:=by rw[m];exact aE (aV C _) (by rw[aR];omega) (aV _ _)
 have M:g.heap.size=w.heap.size+4:=by rw[m,aR,aR,i]
 have k2:g.heap[w.heap.size+2]?=some (.cells #[.s Q] 9):=by rw[m,←i];exact(cQ _ _ (by rw[aR];omega)).trans (bJ C _)
 have k3:g.heap[w.heap.size+3]?=some (.cells #[.i wd] 3):=by rw[m,show w.heap.size+3=C.heap.size+1 from o_];have:=bJ (C.alloc (.cells #[.s Q] 9)) (.cells #[.i wd] 3);rw[aR]at this;exact this
 have k0:=(y.block _ o_).trans u;have k1:=(y.block _ o_).trans A;have E:Bw w g:=aE l o_ y;clear m A u l y I W z x;refine Rn.p rfl (Rn.p rfl ?_);refine Rn.rangeAs (y8 Tryz.f103 a.tmps g.heap.size .ready) (args:=#[.func (.yield (g.heap.size+1)) #[] #[], .pk (w.heap.size+2) 0, .pk (w.heap.size+2+1) 0]) rfl rfl Lf.func117 k_ k_ (f.G 11) s_ ?_;have S:Sm 9 145 3 Q wd s.key (y8 Tryz.f103 a.tmps (w.heap.size+4) .ready) w (fJ Q.data.toList wd 0) (cR g (y8 Tryz.f103 a.tmps g.heap.size .ready)):=by have hl:=eK g (y8 Tryz.f103 a.tmps g.heap.size .ready);have hd:=eL g (y8 Tryz.f103 a.tmps g.heap.size .ready);rw[M]at hl hd⊢;exact⟨aE E o_ (fO g _),(bM g _ o_).trans k0,(bM g _ o_).trans k1,(bM g _ o_).trans k2,(bM g _ o_).trans k3,hd,hl⟩
 rw[M]at S⊢;have hT:aW [(2, .pt w.heap.size),(5, .pt (w.heap.size+1))] 34 [] ⟨a.tmps,[]⟩:=⟨rfl,f.size,(f.only (G:=[(2, .pt w.heap.size),(5, .pt (w.heap.size+1))]) ⟨rfl,rfl,trivial⟩).slot⟩;have ad:Q.size*(8/wd)<=128:=by rw[U];rcases K with rfl|rfl|rfl<;>decide
 have G:∀B,sa lT B (((base 103).atR ⟨a.tmps,{target:= .collected (w.heap.size+4),args:=#[]}::a.defers⟩ (.inRangeFunc (w.heap.size+4+1)::[.inBlock 0, .code (.seq (rG Tryz.f103 5) (.seq (rD Tryz.f103 6) .ret))]))::cs) (λc=>#[.i (dK Q.data.toList wd c)]) (Q.size*(8/wd)) (w.heap.size+4+1) (y8 Tryz.f103 a.tmps (w.heap.size+4) .ready)
  (λc=>Sm 9 145 3 Q wd s.key (y8 Tryz.f103 a.tmps (w.heap.size+4) .ready) w (fJ Q.data.toList wd c)):=
  λB=>
  {below:=λc w w' h hb=>h.below hb
   loop:=λc w h=>h.loop
   size:=λc=>rfl
   round:=λc w' cf hc V next=>Kl K D hT o_ V next}
 refine rS K o_ (λc w' h=>h.str) (λc w' h=>h.wid) (G _) S λY V=> ?_;show Rn _ _ ((base 103).atR ⟨a.tmps,{target:= .collected (w.heap.size+4),args:=#[]}::a.defers⟩ (.endRangeFunc (w.heap.size+4+1)::_)) cs Y;refine Rn.rangeOver V.loop rfl rfl ?_;have r:=V.turn (y8 Tryz.f103 a.tmps (w.heap.size+4) .exhausted);show Rn _ _ _ _ (bP Y (w.heap.size+4+1) (y8 Tryz.f103 a.tmps (w.heap.size+4) .exhausted));have d:aW [(1, .s Q),(2, .pt w.heap.size),(5, .pt (w.heap.size+1))] 34 [{target:= .collected (w.heap.size+4),args:=#[]}] ⟨a.tmps,{target:= .collected (w.heap.size+4),args:=#[]}::a.defers⟩:=⟨by rw[f.defers],f.size,(f.only (G:=[(1, .s Q),(2, .pt w.heap.size),(5, .pt (w.heap.size+1))]) ⟨rfl,rfl,rfl,trivial⟩).slot⟩;revert d r;generalize bP Y (w.heap.size+4+1) (y8 Tryz.f103 a.tmps (w.heap.size+4) .exhausted)=X;generalize (Act.mk a.tmps ({target:= .collected (w.heap.size+4),args:=#[]}::a.defers))=a2;intro r d;have hS:=wN Q.data.toList K (Q.size*(8/wd));have a9:fJ Q.data.toList wd (Q.size*(8/wd))<=32640:=o_
 have aa:2^sh<=256:=TW (W8 d_ L) d_;have ac:fJ Q.data.toList wd (Q.size*(8/wd))*2^sh<=32640*256:=ac2 a9 aa;have q:(fJ Q.data.toList wd (Q.size*(8/wd)):Int)*2^sh=((fJ Q.data.toList wd (Q.size*(8/wd))*2^sh:Nat):Int):=by rw[Wd,UY];rfl
 refine Rn.uu d λa d=> ?_;refine Rn.vv d (λo j=>(aO ce j (d.G 5) ((aG r.five 0).trans rfl)).1) λa d=> ?_;refine Rn.uu d λa d=> ?_;refine Rn.vv d (λo j=>(aO (v:= .i sh) ce j (d.G 21) ((aG r.key 7).trans (by rw[←a0];rfl))).1) λa d=> ?_;refine Rn.vv d (λo j=>wZ (k:=sh) j (d.G 20) (d.G 22) o_ (by rw[q];omega)) λa d=> ?_;rw[q]at d;refine Rn.cl d Lf.func64 (R:=λv w'=>v= .string ⟨(cY (fJ Q.data.toList wd (Q.size*(8/wd))*2^sh) 2).toArray⟩/\Bw X w') ((lO _ o_ X).mono λe w' h=>⟨_,h.1,rfl,h.2⟩) λv w7 hv a d=> ?_;obtain⟨rfl,a7⟩:=hv;have Z:(Q++(⟨(cY (fJ Q.data.toList wd (Q.size*(8/wd))*2^sh) 2).toArray⟩:ByteArray)).size=34:=by rw[ByteArray.size_append,U,lj]
 have F:(Q++(⟨(cY (fJ Q.data.toList wd (Q.size*(8/wd))*2^sh) 2).toArray⟩:ByteArray)).data.toList=xQ Q.data.toList wd sh:=by simp[xQ,T]
 refine Rn.vv d (λo j=>bK j (d.G 19) (d.G 24) (by rw[U,lj];decide)) λa d=> ?_;refine Rn.uu d λa d=> ?_;have P:=r.below a7;refine Rn.p rfl (Rn.p rfl ?_);refine OP (n:=n) K D hn o_ a4 (by rw[Z];exact a3) P.key (d.only ⟨rfl,rfl,trivial⟩) λa8 w8 v p a6 d=> ?_;have H:=P.below a6;rw[F]at p;refine Rn.ends rfl (.inr ⟨_,rfl⟩) (Rn.take (ds:=[]) d.defers H.list (Rn.now ⟨⟨a8.tmps,[]⟩,_,v,rfl,rfl,d.slot 4 _ rfl,v,rfl, ?_,H.old.trans (fG _ _ o_)⟩));obtain⟨gb,ab,rfl,a5,hc⟩:=p;refine⟨gb,ab,rfl,by simpa using a5,λc O=> ?_⟩;have a1:gb≠w.heap.size+4:=λe=>by have:=hc c O;subst e;unfold U6 at this;simp only[H.list]at this;cases this
 refine(World.cell?_of_block (w:=w8) (a:=⟨gb,c,none⟩) ?_).trans (hc c O);exact sN (UP a1)
section
variable{b:Frame}{k:List Item}
theorem oF(e:aW F N ds a)(d x:Nat)(i:d<N)(c:F.lookup x=some (.s s))(h:(ops[m]?).map (λo=>(o.dst,o.op,o.guard))=some (some d,g8 x,none))
 (next:∀a',aW ((d, .i s.size)::F) N ds a'->Rn lT Goal (b.atR a' (.inRegion ops rest::k)) cs w):Rn lT Goal (b.atR a (.inRegion ops (m::rest)::k)) cs w:=by
 have f:lT.underlying 9=some .string:=k_
 refine Rn.op e d (g8 x) i h (by simp[g8]) (λo g=> ?_) next
 have c:=e.get c;simp[execOp,g,g8,resolve,c,invoke,builtin,Vy,run_underlying f,goInt]
theorem jq(e:aW F N ds a)(d x:Nat)(c:Int){i:Int}(j:d<N)(f:F.lookup x=some (.i i))(h:(ops[m]?).map (λo=>(o.dst,o.op,o.guard))=some (some d,gw x c,none))
 (next:∀a',aW ((d, .bool (decide (i<c)))::F) N ds a'->Rn lT Goal (b.atR a' (.inRegion ops rest::k)) cs w):Rn lT Goal (b.atR a (.inRegion ops (m::rest)::k)) cs w:=
 Rn.op e d (gw x c) j h (by simp[gw]) (λo g=>(di g (e.get f) rfl).1) next
theorem yG{x:Nat}(e:aW F N ds a)(c:F.lookup x=some (.bool q))(d:q=true)(next:Rn lT Goal (b.atR a k) cs w):Rn lT Goal (b.atR a (.code (.cond (.tmp x) .skip (.refuse ""))::k)) cs w:=by subst d;exact Rn.cond true (e.get c) (Rn.p rfl next)
theorem nN{x:Nat}(e:aW F N ds a)(c:F.lookup x=some (.bool q))(d:q=false)(next:Rn lT Goal (b.atR a k) cs w):Rn lT Goal (b.atR a (.code (.cond (.tmp x) (.refuse "") .skip)::k)) cs w:=by subst d;exact Rn.cond false (e.get c) (Rn.p rfl next)
theorem SD{s:dp}{v1:Value}(c:aW [(0, .agg s.cells),(1,v1)] 36 [] a)(D:1<=s.count)(C:s.count<65537)(j:0<=s.width/\s.width<9)(l:0<=s.q/\s.q<4294967296)(p:s.id.size<65536)
 (next:∀a',aW [(1,v1),(3, .agg s.cells),(10, .i s.count),(13, .string s.links)] 36 [] a'→Rn lT Goal (b.atR a' (.code (.seq (.region 6 Sz false) (.seq (.cond (.tmp 22) (.refuse "") .skip) (.seq (.cond (.tmp 27) (.refuse "") .skip) (.seq (.cond (.tmp 28) (.refuse "") .skip) (.seq (.region 1 SB false) (.seq (.block 0 (.loop oE)) (.seq (.region 5 SA false) .ret)))))))::k)) cs (w.alloc (.cells s.cells 149))):
 Rn lT Goal (b.atR a (.code mK::k)) cs w:=by
 obtain⟨z,y,q,u,B,i,n,A,g,t,e,d⟩:=s;refine Rn.vv c (λo m=>Td m (c.G 0)) λa c=> ?_;refine Rn.op c 2 (.box 149 (.tmp 0)) d_ rfl s_ (v:= .pk w.heap.size 0) (w':=w.alloc (.cells (dp.mk z y q u B i n A g t e d).cells 149)) (λo m=> ?_) λa c=> ?_
 ·have h:=(me lT (w:=w) (ev:=a.eval) m).1;rw[c.G 0]at h;exact h
 have f:=bJ w (.cells (dp.mk z y q u B i n A g t e d).cells 149);revert next f
 generalize w.alloc (.cells (dp.mk z y q u B i n A g t e d).cells 149)=E;intro next f
 refine Rn.vv c (λo m=>I2 (r:=[]) m (c.G 2) f) λa c=> ?_
 iterate 2 refine Rn.uu c λa c=> ?_
 refine oF c 7 6 d_ rfl rfl λa c=>Rn.uu c λa c=> ?_;refine oF c 7 6 d_ rfl rfl λa c=>Rn.uu c λa c=> ?_;refine oF c 9 8 d_ rfl rfl λa c=>Rn.uu c λa c=> ?_;refine oF c 7 6 d_ rfl rfl λa c=>Rn.uu c λa c=> ?_;refine jq c 7 6 0 d_ rfl rfl λa c=>Rn.uu c λa c=> ?_;refine jq c 16 11 0 d_ rfl rfl λa c=>Rn.uu c λa c=> ?_;refine jq c 15 10 65537 d_ rfl rfl λa c=>Rn.uu c λa c=> ?_;refine jq c 7 6 0 d_ rfl rfl λa c=>Rn.uu c λa c=> ?_;refine jq c 18 12 0 d_ rfl rfl λa c=>Rn.uu c λa c=> ?_;refine oF c 7 6 d_ rfl rfl λa c=>Rn.uu c λa c=> ?_;refine oF c 7 13 d_ rfl rfl λa c=>Rn.uu c λa c=> ?_;refine oF c 7 6 d_ rfl rfl λa c=>jq c 14 10 1 d_ rfl rfl λa c=>jq c 17 11 9 d_ rfl rfl λa c=>jq c 19 12 4294967296 d_ rfl rfl λa c=>jq c 20 9 65536 d_ rfl rfl λa c=> ?_;have D:1<=n:=D;have C:n<65537:=C;have j:0<=i/\i<9:=j;have l:0<=g/\g<4294967296:=l;have p:q.size<65536:=p;refine Rn.p rfl (Rn.p rfl ?_);refine nN c (x:=14) rfl (decide_eq_false o_) (Rn.p rfl ?_);refine yG c (x:=15) rfl (decide_eq_true o_) (Rn.p rfl ?_);refine nN c (x:=16) rfl (decide_eq_false o_) (Rn.p rfl ?_);refine yG c (x:=17) rfl (decide_eq_true o_) (Rn.p rfl ?_);refine nN c (x:=18) rfl (decide_eq_false o_) (Rn.p rfl ?_);refine yG c (x:=19) rfl (decide_eq_true o_) (Rn.p rfl ?_);refine yG c (x:=20) rfl (decide_eq_true o_) ?_;exact next a (c.only ⟨rfl,rfl,rfl,rfl,trivial⟩)
end
section
variable{b:Frame}{k:List Item}(hKl:KS.length=64)(hK:wE.rangeAt 0 0 (aH KS))(h0:0<wE.heap.size){s:dp}{bL gb glen gcap:Nat}{dig:Nat->Int}
 (hn:s.count=n) (hn2:n<65537) (hwd:0<=s.width/\s.width<9) (hqq:0<=s.q/\s.q<4294967296) (hid:s.id.size<65536) (hlk:n*32<=s.links.size) (hbL:wE.heap.size<=bL)
 (hgb:gb<wE.heap.size) (hglen:n<=glen) (hdig:∀c,c<n->(0<=dig c/\dig c<256)/\wE.cell? ⟨gb,c,none⟩=some (.int .i64 (dig c)))
include hKl hK h0 hn hn2 hwd hqq hid hlk hbL hgb hglen hdig
theorem Kq(next:∀(a:Act) (w:World),Bw wE w->w.heap[bL]?=some (.cells (mD KS s dig n n) 9)->aW [(23, .sk bL n n)] 36 [] a->Rn lT Goal (b.atR a k) cs w):
 ∀(j i:Nat) (a:Act) (w:World),n- i=j->i<=n->Bw wE w->w.heap[bL]?=some (.cells (mD KS s dig n i) 9)->
  aW [(1, .sk gb glen gcap),(3, .agg s.cells),(10, .i n),(13, .s s.links),(23, .sk bL n n),(24, .i i)] 36 [] a->Rn lT Goal (b.atR a (.code oE:: .inLoop oE:: .inBlock 0::k)) cs w:=by
 intro j;induction j with
 |zero=>
  intro i a w F G d l c;have m:i=n:=o_
  subst m;refine Rn.uu c λa c=> ?_;refine Rn.p rfl (Rn.cond (decide ((i:Int)<i)) (c.G 25) ?_);rw[show(decide ((i:Int)<i))=false by simp];exact Rn.p rfl (next a w d l (c.only ⟨rfl,trivial⟩))
 |succ j D=>
  intro i a w F G d l c;have m:i<n:=o_
  obtain⟨H,p⟩:=hdig i m;refine Rn.uu c λa c=> ?_;refine Rn.p rfl (Rn.cond (decide ((i:Int)<n)) (c.G 25) ?_);rw[show(decide ((i:Int)<n))=true by simpa using m];refine Rn.vv c (λo u=>(eA (w:=w) (t:=22) (e:=3) k_ (λw=>k_) u (c.G 1) (c.G 24) o_).1) λa c=> ?_;have r:w.cell? ((⟨gb,0,none⟩:Addr).add i)=some (.i (dig i)):=by rw[un,TL];unfold U6 at p⊢;rw[show w.heap[(⟨gb,i,none⟩:Addr).block]?=_ from d.block gb hgb];exact p
  refine Rn.vv c (λo u=>(aO ce u (c.G 26) r).1) λa c=> ?_;refine jq c 28 27 0 d_ rfl rfl λa c=>jq c 29 27 256 d_ rfl rfl λa c=>Rn.p rfl (Rn.p rfl ?_);refine nN c (x:=28) rfl (decide_eq_false o_) (Rn.p rfl ?_);refine yG c (x:=29) rfl (decide_eq_true o_) ?_;refine Rn.uu c λa c=> ?_;refine Rn.uu c λa c=> ?_;refine Rn.uu c λa c=> ?_;have A:a.eval (.tmp 30)= .i ((i*32:Nat):Int):=(c.G 30).trans (by rw[Wd];rfl);have z:a.eval (.tmp 32)= .i (((i+1)*32:Nat):Int):=(c.G 32).trans (by rw[Wd,Vi];rfl);refine Rn.vv c (λo u=>(ft u (c.G 13) A z o_ o_).1) λa c=> ?_;have y:CF s i (dig i) (s.links.extract (i*32) ((i+1)*32)):=⟨hwd,hqq,hid,o_,H,by rw[TT];omega⟩;refine Rn.calls (f:=114) (xs:=#[.tmp 3, .tmp 24, .tmp 27, .tmp 33]) (ats:=#[149,3,3,9]) (args:=#[.agg s.cells, .i i, .i (dig i), .s (s.links.extract (i*32) ((i+1)*32))]) c 34 d_ rfl (by simp[c.G 3,c.G 24,c.G 27,c.G 33]) Lf.func114 k_ k_
   (R:=λv B=>v= .s (lx KS s i (dig i) (s.links.extract (i*32) ((i+1)*32)))/\Bw w B) ((DN KS s i (dig i) _ y w (Ti h0 d hK) hKl (TC h0 d.size)).mono λe B h=>⟨_,h.1,rfl,h.2⟩) λv C E a c=> ?_
  obtain⟨rfl,q⟩:=E;have g:=(q.block bL (gA l).1).trans l;refine Rn.uu c λa c=> ?_;refine Rn.does0 c (.store 9 (.tmp 35) (.tmp 34)) rfl s_ (λo u=>(eI (w:=C) (b:=bL) (k:=i) (v:= .s (lx KS s i (dig i) (s.links.extract (i*32) ((i+1)*32)))) (v0:= .string ⟨#[]⟩) rfl rfl k_ u
   ((c.G 35).trans (by rw[un,TL])) (c.G 34) (by rw[aG g];simp[mD,m]) (by simp[Ux,g])).1) λa c=> ?_
  refine Rn.uu c λa c=> ?_;refine Rn.p rfl (Rn.p rfl ?_);refine D (i+1) a _ o_ o_ ((aE d d.size q).trans (ee _ _ _ hbL)) ?_ (c.only ⟨rfl,rfl,rfl,rfl,rfl, ?_,trivial⟩)
  ·rw[kU g,←Af (dig':=dig) λ_ _=>rfl];unfold wH;simp
  ·rw[Vi];rfl
end
theorem IG(KS:List Int)(A:KS.length=64)(s:dp)(n q glen gcap:Nat)(dig:Nat->Int)(w:World)(D:w.rangeAt 0 0 (aH KS))(E:0<w.heap.size)(B:s.count=n)(C:1<=n)(u:n<65537)(i:0<=s.width/\s.width<9)(j:0<=s.q/\s.q<4294967296)(k:s.id.size<65536)(v:n*32<=s.links.size)
 (y:q<w.heap.size) (h:n<=glen) (l:∀c,c<n->(0<=dig c/\dig c<256)/\w.cell? ⟨q,c,none⟩=some (.int .i64 (dig c))):
 Calls (aI true tP) 105 #[.agg s.cells, .sk q glen gcap] w λe w'=>∃bL,e= .returned (.sk bL n n)/\w'.heap[bL]?=some (.cells (WX λc:Fin n=>wH KS s dig c.val) 9)/\Bw w w':=by refine bI (fn:=te) (t:=4) rK rfl λF=> ?_;rw[aZ (c:=mK) (N:=36) [.agg s.cells, .sk q glen gcap] rK rfl rfl];have b:=aQ [.agg s.cells, .sk q glen gcap] 36 s_;refine SD b o_ o_ i j k λa b=> ?_;rw[B]at b;have r:=aR w (.cells s.cells 149);have p:=aV w (.cells s.cells 149);refine Rn.uu b λa b=> ?_;refine Rn.vv b (λo f=>I3 f (b.get (d:=13) rfl)) λa b=> ?_;refine Rn.vv b (λo f=>(di f (b.get (d:=7) rfl) (b.get (d:=21) rfl)).1) λa b=> ?_;refine Rn.vv b (λo f=>Lh f (b.get (d:=1) rfl)) λa b=> ?_;refine Rn.vv b (λo f=>(di f (b.get (d:=26) rfl) (b.get (d:=10) rfl)).1) λa b=> ?_;refine Rn.vv b (λo f=>zP f (b.get (d:=1) rfl) rfl) λa b=> ?_;refine Rn.p rfl (Rn.p rfl (Rn.cond false ((b.get (d:=22) rfl).trans (by simp;omega)) (Rn.p rfl (Rn.p rfl (Rn.cond false ((b.get (d:=27) rfl).trans (by simp;omega)) (Rn.p rfl (Rn.p rfl (Rn.cond false (b.get (d:=28) rfl) (Rn.p rfl ?_)))))))));refine Rn.vv b (λo f=>Dr o_ o_ f (b.get (d:=10) rfl) (b.get (d:=10) rfl)) λa b=> ?_;refine Rn.mvc b 24 (.int .i64 0) d_ rfl λa b=> ?_;refine Rn.p rfl (Rn.p rfl (Rn.p rfl (Rn.p rfl ?_)));have z:=aV (w.alloc (.cells s.cells 149)) (.cells (TG n (.string ⟨#[]⟩)) 9);have x:=bJ (w.alloc (.cells s.cells 149)) (.cells (TG n (.string ⟨#[]⟩)) 9);refine Kq A D E B u i j k v (bL:=(w.alloc (.cells s.cells 149)).heap.size) (by rw[r];omega) y h l ?_ n 0 a _ rfl (W4 _) (aE p p.size z) (by rw[Ae];exact x) (b.only ⟨rfl,rfl,rfl,rfl,rfl,rfl,trivial⟩);intro a w' m g b;refine Rn.uu b λa b=> ?_;refine Rn.p rfl (Rn.ends rfl (.inr ⟨_,rfl⟩) (Rn.now ⟨a,_, .sk ((w.alloc (.cells s.cells 149)).heap.size) n n,rfl,b.defers,b.slot 4 _ rfl,_,rfl, ?_,m⟩));rw[←Ag];exact g
def px(p:ByteArray):Nat->ByteArray
 |0=>p
 |c+1=>(px p c).extract 32 (px p c).size
theorem tE(p:ByteArray):∀c,(px p c).size=p.size- 32*c
 |0=>rfl
 |c+1=>by have:=tE p c;simp only[px,TT];omega
def jZ(n:Nat):Nat->Nat
 |0=>n
 |c+1=>jZ n c/2
theorem tO(n:Nat):∀c,jZ n c=n/2^c
 |0=>by simp[jZ]
 |c+1=>by rw[jZ,tO n c,Nat.div_div_eq_div_mul,Ye]
theorem ET{h c:Nat}(b:2^h<=n)(a:c<h):1<jZ n c:=by rw[tO];refine(Nat.le_div_iff_mul_le (Za c)).2 ?_;have:2^(c+1)<=2^h:=W8 d_ a;rw[Ye]at this;omega
theorem EU{h:Nat}(a:n<2^(h+1)):¬1<jZ n h:=by rw[tO];have:n/2^h<2:=Nat.div_lt_of_lt_mul (by rw[Ye]at a;exact a);omega
theorem tN(n:Nat):∀c,jZ n c<=n
 |0=>TB _
 |c+1=>by have:=tN n c;simp only[jZ];omega
def BL(f:Func):Code:= .seq (.seq (rG f 2) (.cond (.tmp 10) .skip (.exit 0))) (.seq (.block 1 (.seq (.seq (rG f 4) (.cond (.tmp 18) .ret .skip)) (rG f 5))) (rG f 3))
theorem Pw:Tryz.f116.body=some (.seq (rG Tryz.f116 0) (.seq (rG Tryz.f116 1) (.block 0 (.loop (BL Tryz.f116))))):=k_
section
variable{y:Operand}
theorem GN(a:o.op= .fieldAddr 149 x 4)(c:ev x= .pk b 0):(execOp ev o).run lT w= .ok (.value (.pk b 11)) w:=by
 have e:execOp ev o=(do pure (.value (←TS 149 (.pk b 0) 4))):=by simp only[execOp,a,c]
 have d:(do pure (.value (←TS 149 (.pk b 0) 4)):Sem Next).run lT w= .ok (.value (.pk b 11)) w:=k_
 rw[e,d]
theorem sC{t:ByteArray}(a:o.op= .slice 9 x none (some y) none)(c:ev x= .s t)(b:ev y= .i n)(h:n<=t.size):(execOp ev o).run lT w= .ok (.value (.s (t.extract 0 n))) w:=by
 have d:lT.underlying 9=some .string:=k_
 simp[execOp,a,c,b,UF,VE,UK,run_underlying d,UQ,asIntOf,h]
theorem wX{t:ByteArray}(a:o.op= .slice 9 x (some y) none none)(c:ev x= .s t)(b:ev y= .i n)(h:n<=t.size):(execOp ev o).run lT w= .ok (.value (.s (t.extract n t.size))) w:=by
 have d:lT.underlying 9=some .string:=k_
 simp[execOp,a,c,b,UF,VE,UK,run_underlying d,UQ,asIntOf,h]
end
section
variable{Inv:Nat->World->Prop}{r:Loop}{p:ByteArray}{h:Nat}(hp:p.size=32*h)(hn:2^h<=n)(hn2:n<2^(h+1))(hn3:n<9223372036854775808)
 (G:sa (aI true Tryz.prog) Goal cs (λc=>#[.int .i64 (jZ n c), .string ((px p c).extract 0 32)]) h l r Inv)
include hp hn hn2 hn3 G
theorem F4(next:∀a w,Inv h w->a.defers=[]->Rn lT Goal ((base 116).atR a K) cs w):
 ∀(j c:Nat) (a:Act) (w:World),h- c=j->c<=h->Inv c w->aW [(0, .func (.yield l) #[] #[]),(4, .s (px p c)),(5, .i (jZ n c))] 21 [] a->
  Rn lT Goal ((base 116).atR a (.code (BL Tryz.f116):: .inLoop (BL Tryz.f116):: .inBlock 0::K)) cs w:=by
 intro j;induction j with
 |zero=>
  intro c a w m q e b;have d:c=h:=o_
  subst d
  iterate 2 refine Rn.uu b λa b=> ?_
  refine Rn.p rfl (Rn.cond _ (b.G 10) ?_);rw[decide_eq_false (by have:=EU hn2;omega)];exact Rn.p rfl (next a w e b.defers)
 |succ j g=>
  intro c a w m q e b;have d:c<h:=o_
  have r:=ET hn d;have k:=tN n c;have i:=tE p c
  iterate 2 refine Rn.uu b λa b=> ?_
  refine Rn.p rfl (Rn.cond _ (b.G 10) ?_);rw[decide_eq_true o_]
  iterate 3 refine Rn.uu b λa b=> ?_
  refine Rn.vv b (λo f=>sC (n:=32) f (b.G 15) rfl o_) λa b=> ?_;refine Rn.given (c:=c) G b 17 13 (xs:=#[.tmp 14, .tmp 16]) (ats:=#[3,9]) d_ k_ rfl (by simp[b.G 14,b.G 16]) d e λa w b e=> ?_;refine Rn.uu b λa b=> ?_;refine Rn.p rfl (Rn.cond false (b.G 18) (Rn.p rfl (Rn.r (L:=[0,1,2]) rfl ?_)));refine Rn.uu b λa b=> ?_;refine Rn.vv b (λo f=>wX (n:=32) f (b.G 19) rfl o_) λa b=> ?_
  iterate 4 refine Rn.uu b λa b=> ?_
  refine Rn.p rfl (Rn.p rfl (g (c+1) a w o_ o_ e (b.only ⟨rfl,rfl, ?_,trivial⟩)));show some _=some _;rw[jZ,W0];rfl
end
theorem Gm{k:Frame}{b:Nat->World->Prop}{r:Loop}{s:dp}{h bs f:Nat}(m:s.path.size=32*h)(q:2^h<=n)(i:n<2^(h+1))(g:n<9223372036854775808)
 (G:sa lT Goal (k::cs) (λc=>#[.i (jZ n c), .s ((px s.path c).extract 0 32)]) h l r b)  (j:b 0 w) (hs:w.heap[bs]?=some (.cells s.cells 149)) (u:w.heap[f]?=some (.cells #[.i n] 3))
 (e:∀w,b h w->Rn lT Goal (k.finish (.tuple #[])) cs w):
 Rn lT Goal (TJ lT 116 #[.func (.yield l) #[] #[], .pk bs 0, .pk f 0] .normal) (k::cs) w:=by
 rw[aZ (N:=21) [.func (.yield l) #[] #[], .pk bs 0, .pk f 0] Lf.func116 Pw rfl];have d:=aQ [.func (.yield l) #[] #[], .pk bs 0, .pk f 0] 21 s_;refine Rn.vv d (λo p=>GN p (d.G 1)) λa d=> ?_
 iterate 4 refine Rn.uu d λa d=> ?_
 refine Rn.p rfl (Rn.p rfl (Rn.p rfl ?_));refine F4 m q i g G (λa w j t=> ?_) h 0 a w rfl (W4 _) j (d.only ⟨rfl,rfl,rfl,trivial⟩);exact Rn.ends rfl (.inl rfl) (Rn.leave (.tuple #[]) rfl t Lf.func116 (results_none rfl _ _ w) (events_results_none rfl _ _) (e w j))
end L1
section
open Go.RowKit Go.Lib Go.Shelf
def Lf.ren156:Go.Shelf.Ren:=⟨λ|156=>104|165=>71|166=>63|169=>65|240=>80|241=>87|276=>93|277=>94|n=>n,λ|31=>25|9=>9|3=>3|4=>4|0=>0|20=>20|72=>102|76=>105|70=>100|37=>62|75=>104|127=>124|164=>138|5=>5|80=>32|n=>n,λ|n=>n⟩
theorem Lf.lays156:Go.Proofs.Lays.n156 (aI q tP) Lf.ren156:=by
 cases q<;>constructor
 all_goals first|(rw[nT];kernel_rfl)|kernel_rfl|(intro w;kernel_rfl)
theorem Lf.extra156:Builder.Extra (aI q tP) Lf.ren156:=by
 cases q<;>constructor
 all_goals first|kernel_rfl|(intro w;kernel_rfl)|decide|(constructor<;>first|kernel_rfl|(intro w;kernel_rfl)|decide)
theorem Lf.strings_Join(bk o c:Nat)(xs:List ByteArray)(a:ByteArray)(w:World)(b:∀(j:Nat) x,xs[j]?=some x->w.cell? ⟨bk,o+j,none⟩=some (.s x))(g:bk<w.heap.size)(h:xs.length<=140737488355328)(f:xs.length<=c)(d:(ac3 (xs.map (·.data.toList)) a.data.toList).length<=140737488355328):
 Calls (aI q tP) 104 #[.slice (some ⟨bk,o,none⟩) xs.length c, .s a] w λe w'=>e= .returned (.string ⟨(ac3 (xs.map (·.data.toList)) a.data.toList).toArray⟩)/\Bw w w':=Any.strings_Join Lf.lays156 Lf.extra156 bk o c xs a w b g h f d
end
section
open Go.Conc Go.RowKit
def ob(n k:Nat):ByteArray:=⟨(cY n k).toArray⟩
theorem aM(n k:Nat):(ob n k).size=k:=lj n k
def Bs(n:Nat)(cells:Array Value)(ty:TypeId)(v:Value)(w:World):Prop:=∃p,v= .sk p n n/\w.heap[p]?=some (.cells cells ty)
theorem Bs.mono{cells:Array Value}{ty:TypeId}(h:Bs n cells ty v w)(b:Bw w w'):Bs n cells ty v w':=by obtain⟨p,c,a⟩:=h;exact⟨p,c,(b.block p (gA a).1).trans a⟩
def Bx(N:Nat)(cells:Array Value)(ty:TypeId)(v:Value)(w:World):Prop:=∃p,v= .pk p 0/\N<=p/\w.heap[p]?=some (.cells cells ty)
theorem Bx.mono{cells:Array Value}{ty:TypeId}(h:Bx N cells ty v w)(b:Bw w w'):Bx N cells ty v w':=by obtain⟨p,d,c,a⟩:=h;exact⟨p,d,c,(b.block p (gA a).1).trans a⟩
theorem Fb(L:List (List UInt8)):ac3 L []=L.flatten:=by
 cases L with
 |nil=>rfl
 |cons x r=>rw[Lib.join_cons,Lib.joinTail];simp
end
namespace L1
open Go.Conc Go.RowKit
section
variable{y z u v:Operand}
theorem j8(j k:Nat)(d:(j=0/\k=0)\/(j=1/\k=8)\/(j=2/\k=9))(a:o.op= .fieldAddr 149 x j)(c:ev x= .pk b 0):(execOp ev o).run lT w= .ok (.value (.pk b k)) w:=by
 have e:execOp ev o=(do pure (.value (←TS 149 (.pk b 0) j))):=by simp only[execOp,a,c]
 have f:(do pure (.value (←TS 149 (.pk b 0) j)):Sem Next).run lT w= .ok (.value (.pk b k)) w:=by rcases d with⟨rfl,rfl⟩|⟨rfl,rfl⟩|⟨rfl,rfl⟩<;>kernel_rfl
 rw[e,f]
theorem CX{d c b a:ByteArray}(f:o.op= .buildSlice 25 4 #[(0,x),(1,y),(2,z),(3,u)])(j:ev x= .s d)(g:ev y= .s c)(i:ev z= .s b)(h:ev u= .s a):
 (execOp ev o).run lT w= .ok (.value (.sk w.heap.size 4 4)) (w.alloc (.cells #[.s d, .s c, .s b, .s a] 9)):=by
 have e:execOp ev o=(do pure (.value (←Uf 25 4 #[(0, .s d),(1, .s c),(2, .s b),(3, .s a)]))):=by simp[execOp,f,j,g,i,h]
 have g:(do pure (.value (←Uf 25 4 #[(0, .s d),(1, .s c),(2, .s b),(3, .s a)])):Sem Next).run lT w= .ok (.value (.sk w.heap.size 4 4)) (w.alloc (.cells #[.s d, .s c, .s b, .s a] 9)):=k_
 rw[e,g]
theorem CY{f d c b a:ByteArray}(g:o.op= .buildSlice 25 5 #[(0,x),(1,y),(2,z),(3,u),(4,v)])(l:ev x= .s f)(h:ev y= .s d)(k:ev z= .s c)(j:ev u= .s b)(i:ev v= .s a):
 (execOp ev o).run lT w= .ok (.value (.sk w.heap.size 5 5)) (w.alloc (.cells #[.s f, .s d, .s c, .s b, .s a] 9)):=by
 have e:execOp ev o=(do pure (.value (←Uf 25 5 #[(0, .s f),(1, .s d),(2, .s c),(3, .s b),(4, .s a)]))):=by simp[execOp,g,l,h,k,j,i]
 have h:(do pure (.value (←Uf 25 5 #[(0, .s f),(1, .s d),(2, .s c),(3, .s b),(4, .s a)])):Sem Next).run lT w= .ok (.value (.sk w.heap.size 5 5)) (w.alloc (.cells #[.s f, .s d, .s c, .s b, .s a] 9)):=k_
 rw[e,h]
theorem pF(KS:List Int)(a:List ByteArray)(i:Array Value)(w:World)(p n:Nat)(f:i=(a.map Value.string).toArray)(l:n=a.length)(j:w.heap[p]?=some (.cells i 9))(o:w.rangeAt 0 0 (aH KS))(g:KS.length=64)(c:(a.flatMap λp=>p.data.toList).length<=576460752303423488)(d:a.length<=10):
 Calls lT 28 #[.sk p n n] w λe w'=>∃v,e= .returned v/\v= .string ⟨(gV KS (a.flatMap λp=>p.data.toList)).toArray⟩/\Bw w w':=by
 subst l;subst f;have b:dQ a a.length=a.flatMap λp=>p.data.toList:=by simp[dQ]
 refine(By KS a a.length w p (gA j).1 (λk m=> ?_) o g (by rw[b];exact c) o_).mono λe w' h=>⟨_,h.1,by rw[b],h.2⟩;rw[aG j];simp[m]
end
theorem FO(s:dp):∀i,i<8->s.cells[i]?=s.key[i]?:=by intro i a;rcases(o_:i=0\/i=1\/i=2\/i=3\/i=4\/i=5\/i=6\/i=7)with rfl|rfl|rfl|rfl|rfl|rfl|rfl|rfl<;>rfl
theorem GF(KS:List Int)(L:List UInt8):(⟨(gV KS L).toArray⟩:ByteArray).size=32:=by show(gV KS L).toArray.size=32;simp[gV]
def Qe(s:dp)(wd sh n q N:Nat)(msg Qb:ByteArray):Nat->Value->World->Prop
 |0,v,_=>v= .pk N 0
 |1,v,_=>v= .agg s.key
 |2,v,_=>v= .pk N 0
 |3,v,_=>v= .pk N 2
 |4,v,_=>v= .string (s.id)
 |5,v,_=>v= .string (ob q 4)
 |6,v,_=>v= .string (ob 33153 2)
 |7,v,_=>v= .pk N 9
 |8,v,_=>v= .string (s.salt)
 |9,v,_=>v= .string (msg)
 |10,v,w=>Bs 5 #[.string s.id, .string (ob q 4), .string (ob 33153 2), .string s.salt, .string msg] 9 v w
 |11,v,_=>v= .string Qb
 |12,v,w=>p8 n (λc=>dK (xQ Qb.data.toList wd sh) wd c) v w
 |_,v,w=>p8 n (λc=>dK (xQ Qb.data.toList wd sh) wd c) v w
theorem Fw{s:dp}{wd sh q:Nat}{Qb:ByteArray}(k:Nat)(v:Value)(w w':World)(a:Qe s wd sh n q N msg Qb k v w)(b:Bw w w'):Qe s wd sh n q N msg Qb k v w':=by
 match k,a with
 |0,a|1,a|2,a|3,a|4,a|5,a|6,a|7,a|8,a|9,a=>exact a
 |10,a=>exact Bs.mono a b
 |11,a=>exact a
 |12,a=>exact p8.mono a b
 |k+13,a=>exact p8.mono a b
theorem LI{s:dp}{sh q:Nat}{Qb:ByteArray}(z:Qb=⟨(gV KS ([s.id,ob q 4,ob 33153 2,s.salt,msg].flatMap λp=>p.data.toList)).toArray⟩)(O:KS.length=64)(V:Az wd)(C:s.width=wd)(I:s.shift=sh)(t:sh<=8)(X:s.count=n)(L:1<=n)(J:n<=34*(8/wd))(y:([s.id,ob q 4,ob 33153 2,s.salt,msg].flatMap λp=>p.data.toList).length<=576460752303423488)(hK:w.rangeAt 0 0 (aH KS))(h0:0<w.heap.size)(r:w.heap[N]?=some (.cells s.cells 149))
 (Q:aW [(1, .s (msg)),(2, .pt N),(5, .s (ob q 4))] 81 ds a)
 (next:∀a w',(Bw w w'/\∃v,p8 n (λc=>dK (xQ Qb.data.toList wd sh) wd c) v w'/\aW [(6,v),(1, .s msg),(2, .pt N),(5, .s (ob q 4))] 81 ds a)->Rn lT Goal (fr.atR a K) cs w'):
 Rn lT Goal (fr.atR a (.code (rD Tryz.f99 2)::K)) cs w:=by
 refine Rn.grows (fx:=[(1, .s (msg)),(2, .pt N),(5, .s (ob q 4))]) (ds:=[17,18,19,20,21,22,23,24,25,26,27,28,29,6]) (N:=81) (df:=ds) (G:=Qe s wd sh n q N msg Qb) k_ k_ Fw (λm o a w' S f T l b=> ?_)
  (λm a w'=>m=14/\Bw w w'/\∃v,p8 n (λc=>dK (xQ Qb.data.toList wd sh) wd c) v w'/\aW [(6,v),(1, .s msg),(2, .pt N),(5, .s (ob q 4))] 81 ds a) (λa w' A=> ?_) (λm o a w' R S f M Z=> ?_) (λa w' M=> ?_) Q.defers Q.size (Q.all s_)
 ·have j:=(T.block N (gA r).1).trans r;have Y:m<14:=S;rcases(o_:m=0\/m=1\/m=2\/m=3\/m=4\/m=5\/m=6\/m=7\/m=8\/m=9\/m=10\/m=11\/m=12\/m=13)with rfl|rfl|rfl|rfl|rfl|rfl|rfl|rfl|rfl|rfl|rfl|rfl|rfl|rfl
  ·have d:=oS f;exact aJ (j8 0 0 d_ d (aB (l _ (mG (i:=1) rfl)))) ⟨rfl,bR⟩
  ·have d:=oS f;obtain⟨u,g,rfl⟩:=nE b 0 17;exact aJ (ig (s:=s) d (aB g) j (FO s)) ⟨rfl,bR⟩
  ·have d:=oS f;exact aJ (j8 0 0 d_ d (aB (l _ (mG (i:=1) rfl)))) ⟨rfl,bR⟩
  ·have d:=oS f;obtain⟨u,g,rfl⟩:=nE b 2 19;exact aJ (ey 2 d_ d (aB g)) ⟨rfl,bR⟩
  ·have d:=oS f;obtain⟨u,g,rfl⟩:=nE b 3 20;exact aJ (aO bN d (aB g) ((aG j 2).trans rfl)).1 ⟨rfl,bR⟩
  ·have d:=oS f;exact sf (.inl d) (l _ (mG (i:=2) rfl)) ⟨rfl,bR⟩
  ·have d:=oS f;have x:=bU (w:=w') d (show(#[Xt (.i 33153)]:Array Operand).map a.eval=#[.i ((33153:Nat):Int)]from by simp;rfl) (rI (P:=aI true tP) Lf.func64 _);exact .inr ⟨_,_,x.1,(lO 33153 d_ w').mono λe B h=>⟨_,h.1,rfl,h.2⟩⟩
  ·have d:=oS f;exact aJ (j8 2 9 d_ d (aB (l _ (mG (i:=1) rfl)))) ⟨rfl,bR⟩
  ·have d:=oS f;obtain⟨u,g,rfl⟩:=nE b 7 24;exact aJ (aO bN d (aB g) ((aG j 9).trans rfl)).1 ⟨rfl,bR⟩
  ·have d:=oS f;exact sf (.inl d) (l _ (mG (i:=0) rfl)) ⟨rfl,bR⟩
  ·have d:=oS f;obtain⟨u0,H,rfl⟩:=nE b 4 21;obtain⟨u1,F,rfl⟩:=nE b 5 22;obtain⟨U,k,rfl⟩:=nE b 6 23;obtain⟨u3,E,rfl⟩:=nE b 8 25;obtain⟨u4,D,rfl⟩:=nE b 9 26;exact aJ (CY d (aB H) (aB F) (aB k) (aB E) (aB D)) ⟨⟨w'.heap.size,rfl,bJ w' _⟩,aV w' _⟩
  ·have d:=oS f;obtain⟨u,g,p,rfl,W⟩:=nE b 10 27;have x:=bU (w:=w') d (show(#[Ul 27]:Array Operand).map a.eval=#[.sk p 5 5]from by simp[aB g]) (rI (P:=aI true tP) Lf.func28 _);exact .inr ⟨_,_,x.1,(pF KS [s.id,ob q 4,ob 33153 2,s.salt,msg] _ w' p 5 rfl rfl W (Ti h0 T hK) O y s_).mono λe B ⟨v,h1,h2,h3⟩=>⟨v,h1,h2.trans (by rw[z]),h3⟩⟩
  ·have d:=oS f;obtain⟨u,g,rfl⟩:=nE b 1 18;obtain⟨U,k,rfl⟩:=nE b 11 28;have x:=bU (w:=w') d (show(#[Ul 18, .tmp 28]:Array Operand).map a.eval=#[.agg s.key, .s Qb]from by simp[aB g,aB k]) (rI (P:=aI true tP) Lf.func103 _);exact .inr ⟨_,_,x.1,xF s wd sh n Qb w' V C I t X L J (by rw[z];exact GF KS _)⟩
  ·have d:=oS f;obtain⟨u,g,A⟩:=nE b 12 29;exact sf (.inr d) g ⟨A,bR⟩
 ·obtain⟨u,g,k⟩:=A.come 13 6 rfl trivial;exact⟨rfl,A.old,u,k,A.base.more g⟩
 ·exact absurd (gA f).1 (by obtain⟨rfl,_⟩:=M;decide)
 ·exact next a w' M.2
theorem FB(KS:List Int)(s:dp)(dg:Nat->Int)(n:Nat):ac3 (((U5 n).map λc=>lx KS s c (dg c) (s.links.extract (c*32) ((c+1)*32))).map (·.l)) ([]:List UInt8)=rR KS s dg n:=by rw[Fb,rR,List.flatMap_def,List.map_map];rfl
theorem wb(KS:List Int)(a:List UInt8):∀(n j:Nat) (x:List UInt8),x.length=32->(kD KS a n j x).length=32
 |0,_,_,h=>h
 |n+1,j,_,_=>wb KS a n (j+1) _ (pp _ _ _ _)
theorem LB(KS:List Int)(s:dp)(c:Nat)(d:Int)(link:ByteArray)(h:link.size=32):(lx KS s c d link).data.toList.length=32:=by
 have a:link.data.toList.length=32:=by simpa using h
 simpa[lx]using wb KS (jP s c) (eD s.width.toNat- d.toNat) d.toNat link.data.toList a
theorem u5(KS:List Int)(s:dp)(dg:Nat->Int):∀n,n*32<=s.links.size->(rR KS s dg n).length=32*n
 |0,_=>by simp[rR]
 |n+1,h=>by have a:=u5 KS s dg n o_;have b:=LB KS s n (dg n) (s.links.extract (n*32) ((n+1)*32)) (by rw[TT];omega);unfold rR at a⊢;rw[Y7,List.flatMap_append,UT,a,List.flatMap_singleton,b];omega
def Qd(KS:List Int)(s:dp)(n q N:Nat)(dg:Nat->Nat)(vg:Value)(En Xn:ByteArray):Nat->Value->World->Prop
 |0,v,_=>v= .pk N 0
 |1,v,_=>v= .pk N 2
 |2,v,_=>v= .string (s.id)
 |3,v,_=>v= .string (ob q 4)
 |4,v,_=>v= .string (ob 32896 2)
 |5,v,_=>v= .agg s.cells
 |6,v,_=>v=vg
 |7,v,w=>Bs n (WX λc:Fin n=>wH KS s (λc=>(dg c:Nat)) c.val) 9 v w
 |8,v,_=>v= .string En
 |9,v,w=>Bs 4 #[.string s.id, .string (ob q 4), .string (ob 32896 2), .string En] 9 v w
 |10,v,_=>v= .string Xn
 |_,v,_=>v= .string Xn
theorem Fv{s:dp}{q:Nat}{dg:Nat->Nat}{b:Value}{En Xn:ByteArray}(k:Nat)(v:Value)(w w':World)(a:Qd KS s n q N dg b En Xn k v w)(c:Bw w w'):Qd KS s n q N dg b En Xn k v w':=by
 match k,a with
 |0,a|1,a|2,a|3,a|4,a|5,a|6,a=>exact a
 |7,a=>exact Bs.mono a c
 |8,a=>exact a
 |9,a=>exact Bs.mono a c
 |10,a|k+11,a=>exact a
theorem LH{s:dp}{q:Nat}{dg:Nat->Nat}{D:Value}{En Xn:ByteArray}(a1:En=⟨(rR KS s (λc=>(dg c:Nat)) n).toArray⟩)(hX:Xn=⟨(gV KS ([s.id,ob q 4,ob 32896 2,En].flatMap λp=>p.data.toList)).toArray⟩)(I:KS.length=64)(Q:0<=s.width/\s.width<9)(U:0<=s.q/\s.q<4294967296)(X:s.id.size<65536)(hn:s.count=n)(W:1<=n)(V:n<65537)(E:n*32<=s.links.size)(a0:∀c,dg c<256)(F:([s.id,ob q 4,ob 32896 2,En].flatMap λp=>p.data.toList).length<=576460752303423488)(hK:w.rangeAt 0 0 (aH KS))(h0:0<w.heap.size)(C:p8 n dg D w)(x:w.heap[N]?=some (.cells s.cells 149))
 (hF:aW [(2, .pt N),(5, .s (ob q 4)),(6,D)] 81 ds a)
 (next:∀a w',(Bw w w'/\aW [(7, .s Xn),(2, .pt N),(5, .s (ob q 4)),(6,D)] 81 ds a)->Rn lT Goal (fr.atR a K) cs w'):
 Rn lT Goal (fr.atR a (.code (rD Tryz.f99 3)::K)) cs w:=by
 refine Rn.grows (fx:=[(2, .pt N),(5, .s (ob q 4)),(6,D)]) (ds:=[30,31,32,33,34,35,36,37,38,39,40,7]) (N:=81) (df:=ds) (G:=Qd KS s n q N dg D En Xn) k_ k_ Fv (λm o a w' hm f H t b=> ?_)
  (λm a w'=>m=12/\Bw w w'/\aW [(7, .s Xn),(2, .pt N),(5, .s (ob q 4)),(6,D)] 81 ds a) (λa w' J=> ?_) (λm o a w' a2 hm f hS a5=> ?_) (λa w' hS=> ?_) hF.defers hF.size (hF.all s_)
 ·have l:=(H.block N (gA x).1).trans x;have a3:m<12:=hm;rcases(o_:m=0\/m=1\/m=2\/m=3\/m=4\/m=5\/m=6\/m=7\/m=8\/m=9\/m=10\/m=11)with rfl|rfl|rfl|rfl|rfl|rfl|rfl|rfl|rfl|rfl|rfl|rfl
  ·have d:=oS f;exact aJ (j8 0 0 d_ d (aB (t _ (mG (i:=0) rfl)))) ⟨rfl,bR⟩
  ·have d:=oS f;obtain⟨u,g,rfl⟩:=nE b 0 30;exact aJ (ey 2 d_ d (aB g)) ⟨rfl,bR⟩
  ·have d:=oS f;obtain⟨u,g,rfl⟩:=nE b 1 31;exact aJ (aO bN d (aB g) ((aG l 2).trans rfl)).1 ⟨rfl,bR⟩
  ·have d:=oS f;exact sf (.inl d) (t _ (mG (i:=1) rfl)) ⟨rfl,bR⟩
  ·have d:=oS f;have B:=bU (w:=w') d (show(#[Xt (.i 32896)]:Array Operand).map a.eval=#[.i ((32896:Nat):Int)]from by simp;rfl) (rI (P:=aI true tP) Lf.func64 _);exact .inr ⟨_,_,B.1,(lO 32896 d_ w').mono λe A h=>⟨_,h.1,rfl,h.2⟩⟩
  ·have d:=oS f;exact aJ (kN (ex:=#[]) d (aB (t _ (mG (i:=0) rfl))) (by rw[Uw];exact l)).1 ⟨rfl,bR⟩
  ·have d:=oS f;exact sf (.inl d) (t _ (mG (i:=2) rfl)) ⟨rfl,bR⟩
  ·have d:=oS f;obtain⟨u,g,rfl⟩:=nE b 5 35;obtain⟨u2,k,rfl⟩:=nE b 6 36;obtain⟨gb,z,rfl,Y,Z⟩:=C.mono H;have B:=bU (w:=w') d (show(#[Ul 35, .tmp 36]:Array Operand).map a.eval=#[.agg s.cells, .sk gb n z]from by simp[aB g,aB k]) (rI (P:=aI true tP) rK _);exact .inr ⟨_,_,B.1,(IG KS I s n gb n z (λc=>(dg c:Nat)) w' (Ti h0 H hK) (TC h0 H.size) hn W V Q U X E Y (TB _) (λc hc=>⟨⟨o_,by have:=a0 c;omega⟩,Z c hc⟩)).mono λe A ⟨bL,h1,h2,h3⟩=>⟨_,h1,⟨bL,rfl,h2⟩,h3⟩⟩
  ·have d:=oS f;obtain⟨u,g,p,rfl,L⟩:=nE b 7 37;have B:=bU (w:=w') d (show(#[Ul 37, .const (.string ⟨#[]⟩)]:Array Operand).map a.eval=#[.sk p n n, .string ⟨#[]⟩]from by simp[aB g];rfl) (rI (P:=aI true tP) Lf.func104 _);refine .inr ⟨_,_,B.1, ?_⟩;have M:=FB KS s (λc=>(dg c:Nat)) n;have a4:=u5 KS s (λc=>(dg c:Nat)) n E;have r:((U5 n).map λc=>lx KS s c ((dg c:Nat):Int) (s.links.extract (c*32) ((c+1)*32))).length=n:=s_;have hJ:=Lf.strings_Join (q:=true) p 0 n ((U5 n).map λc=>lx KS s c ((dg c:Nat):Int) (s.links.extract (c*32) ((c+1)*32))) ⟨#[]⟩ w' (λj y O=>by have M:j<n:=(by have:=(TM.1 O).1;rw[r]at this;exact this);rw[TL,aG L];simp[M]at O⊢;rw[←O];rfl) (gA L).1 (by rw[r];omega) (by rw[r];exact TB _) (by rw[M];omega)
   rw[r,M]at hJ;exact hJ.mono λe A h=>⟨_,h.1,congrArg Value.string a1.symm,h.2⟩
  ·have d:=oS f;obtain⟨u0,T,rfl⟩:=nE b 2 32;obtain⟨u1,S,rfl⟩:=nE b 3 33;obtain⟨u2,k,rfl⟩:=nE b 4 34;obtain⟨u3,R,rfl⟩:=nE b 8 38;exact aJ (CX d (aB T) (aB S) (aB k) (aB R)) ⟨⟨w'.heap.size,rfl,bJ w' _⟩,aV w' _⟩
  ·have d:=oS f;obtain⟨u,g,p,rfl,L⟩:=nE b 9 39;have B:=bU (w:=w') d (show(#[Ul 39]:Array Operand).map a.eval=#[.sk p 4 4]from by simp[aB g]) (rI (P:=aI true tP) Lf.func28 _);exact .inr ⟨_,_,B.1,(pF KS [s.id,ob q 4,ob 32896 2,En] _ w' p 4 rfl rfl L (Ti h0 H hK) I F s_).mono λe A ⟨v,h1,h2,h3⟩=>⟨v,h1,h2.trans (by rw[hX]),h3⟩⟩
  ·have d:=oS f;obtain⟨u,g,J⟩:=nE b 10 40;exact sf (.inr d) g ⟨J,bR⟩
 ·obtain⟨u,g,k⟩:=J.come 11 7 rfl trivial;obtain rfl:=k;exact⟨rfl,J.old,J.base.more g⟩
 ·exact absurd (gA f).1 (by obtain⟨rfl,_⟩:=hS;decide)
 ·exact next a w' hS.2
def Qc(N h q H2:Nat):Nat->Value->World->Prop
 |0,v,_=>v= .pk N 0
 |1,v,_=>v= .pk N 4
 |2,v,_=>v= .int .i64 h
 |3,v,_=>v= .int .i64 (H2:Int)
 |4,v,_=>v= .pk N 8
 |5,v,_=>v= .int .i64 q
 |6,v,_=>v= .int .i64 ((H2+q:Nat):Int)
 |_,v,_=>v= .int .i64 ((H2+q:Nat):Int)
theorem Fu{h q H2:Nat}(k:Nat)(v:Value)(w w':World)(a:Qc N h q H2 k v w)(_:Bw w w'):Qc N h q H2 k v w':=by
 match k,a with
 |0,a|1,a|2,a|3,a|4,a|5,a|6,a|k+7,a=>exact a
theorem LG{s:dp}{h q H2:Nat}{p:Value}(t:H2=2^h)(F:s.height=h)(E:h<=8)(J:H2<=256)(C:s.q=q)(B:q<4294967296)(g:w.heap[N]?=some (.cells s.cells 149))
 (x:aW [(2, .pt N),(7,p)] 81 ds a)
 (next:∀a w',(Bw w w'/\aW [(8, .i ((H2+q:Nat):Int)),(2, .pt N),(7,p)] 81 ds a)->Rn lT Goal (fr.atR a K) cs w'):
 Rn lT Goal (fr.atR a (.code (rD Tryz.f99 4)::K)) cs w:=by
 refine Rn.grows (fx:=[(2, .pt N),(7,p)]) (ds:=[41,42,43,44,45,46,47,8]) (N:=81) (df:=ds) (G:=Qc N h q H2) k_ k_ Fu (λm o a w' A f I l b=> ?_)
  (λm a w'=>m=8/\Bw w w'/\aW [(8, .i ((H2+q:Nat):Int)),(2, .pt N),(7,p)] 81 ds a) (λa w' n=> ?_) (λm o a w' y A f r H=> ?_) (λa w' r=> ?_) x.defers x.size (x.all s_)
 ·have e:=(I.block N (gA g).1).trans g;have D:m<8:=A;rcases(o_:m=0\/m=1\/m=2\/m=3\/m=4\/m=5\/m=6\/m=7)with rfl|rfl|rfl|rfl|rfl|rfl|rfl|rfl
  ·have c:=oS f;exact aJ (j8 0 0 d_ c (aB (l _ (mG (i:=0) rfl)))) ⟨rfl,bR⟩
  ·have c:=oS f;obtain⟨u,d,rfl⟩:=nE b 0 41;exact aJ (ey 4 d_ c (aB d)) ⟨rfl,bR⟩
  ·have c:=oS f;obtain⟨u,d,rfl⟩:=nE b 1 42;exact aJ (aO (v:= .i h) ce c (aB d) ((aG e 4).trans (by rw[←F];rfl))).1 ⟨rfl,bR⟩
  ·have c:=oS f;obtain⟨u,d,rfl⟩:=nE b 2 43;have z:(1:Int)*2^h=(H2:Int):=(by rw[aa3,t,UY];rfl);refine aJ (wZ (m:=1) (k:=h) c rfl (aB d) o_ (by rw[z];omega)) ⟨?_,bR⟩;rw[z];rfl
  ·have c:=oS f;exact aJ (j8 1 8 d_ c (aB (l _ (mG (i:=0) rfl)))) ⟨rfl,bR⟩
  ·have c:=oS f;obtain⟨u,d,rfl⟩:=nE b 4 45;exact aJ (aO (v:= .i q) ce c (aB d) ((aG e 8).trans (by rw[←C];rfl))).1 ⟨rfl,bR⟩
  ·have c:=oS f;obtain⟨u,d,rfl⟩:=nE b 3 44;obtain⟨L,j,rfl⟩:=nE b 5 46;refine aJ (tD c (aB d) (aB j) o_) ⟨?_,bR⟩;rw[←Vi];rfl
  ·have c:=oS f;obtain⟨u,d,n⟩:=nE b 6 47;exact sf (.inr c) d ⟨n,bR⟩
 ·obtain⟨u,d,j⟩:=n.come 7 8 rfl trivial;obtain rfl:=j;exact⟨rfl,n.old,n.base.more d⟩
 ·exact absurd (gA f).1 (by obtain⟨rfl,_⟩:=r;decide)
 ·exact next a w' r.2
def Qa(s:dp)(N lf M:Nat)(en Xn:ByteArray):Nat->Value->World->Prop
 |0,v,_=>v= .pk N 0
 |1,v,_=>v= .pk N 2
 |2,v,_=>v= .string (s.id)
 |3,v,_=>v= .int .i64 (lf:Int)
 |4,v,_=>v= .string (ob lf 4)
 |5,v,_=>v= .string (ob 33410 2)
 |6,v,_=>v= .string (en)
 |7,v,w=>Bs 4 #[.string s.id, .string (ob lf 4), .string (ob 33410 2), .string en] 9 v w
 |8,v,_=>v= .string Xn
 |_,v,w=>Bx M #[.string ⟨#[]⟩] 9 v w
theorem Ft{s:dp}{lf M:Nat}{en Xn:ByteArray}(k:Nat)(v:Value)(w w':World)(a:Qa s N lf M en Xn k v w)(b:Bw w w'):Qa s N lf M en Xn k v w':=by
 match k,a with
 |0,a|1,a|2,a|3,a|4,a|5,a|6,a=>exact a
 |7,a=>exact Bs.mono a b
 |8,a=>exact a
 |k+9,a=>exact Bx.mono a b
theorem LF{s:dp}{lf M:Nat}{en Xn:ByteArray}(W:Xn=⟨(gV KS ([s.id,ob lf 4,ob 33410 2,en].flatMap λp=>p.data.toList)).toArray⟩)(O:KS.length=64)(V:lf<9223372036854775808)(z:([s.id,ob lf 4,ob 33410 2,en].flatMap λp=>p.data.toList).length<=576460752303423488)(X:w.rangeAt 0 0 (aH KS))(Y:0<w.heap.size)(l:w.heap[N]?=some (.cells s.cells 149))
 (hM:M=w.heap.size)
 (j:aW [(2, .pt N),(7, .s (en)),(8, .i (lf:Int))] 81 ds a)
 (next:∀a w',(∃b9 n,M<=b9/\Bw w n/\n.heap[b9]?=some (.cells #[.string ⟨#[]⟩] 9)/\w'=n.setCell ⟨b9,0,none⟩ (.s Xn)/\aW [(9, .pt b9),(56, .s Xn),(2, .pt N),(7, .s en),(8, .i (lf:Int))] 81 ds a)->Rn lT Goal (fr.atR a K) cs w'):
 Rn lT Goal (fr.atR a (.code (rD Tryz.f99 5)::K)) cs w:=by
 refine Rn.grows (fx:=[(2, .pt N),(7, .s (en)),(8, .i (lf:Int))]) (ds:=[48,49,50,51,52,53,54,55,56,9]) (N:=81) (df:=ds) (G:=Qa s N lf M en Xn) k_ k_ Ft (λm o a w' R f J t d=> ?_)
  (λm a w'=>(m=10/\∃b9,M<=b9/\Bw w w'/\w'.heap[b9]?=some (.cells #[.string ⟨#[]⟩] 9)/\aW [(9, .pt b9),(56, .s Xn),(2, .pt N),(7, .s en),(8, .i (lf:Int))] 81 ds a)\/(m=11/\∃b9 n,M<=b9/\Bw w n/\n.heap[b9]?=some (.cells #[.string ⟨#[]⟩] 9)/\w'=n.setCell ⟨b9,0,none⟩ (.s Xn)/\aW [(9, .pt b9),(56, .s Xn),(2, .pt N),(7, .s en),(8, .i (lf:Int))] 81 ds a)) (λa w' D=> ?_) (λm o a w' Q R f L I=> ?_) (λa w' L=> ?_) j.defers j.size (j.all s_)
 ·have r:=(J.block N (gA l).1).trans l;have U:m<10:=R;rcases(o_:m=0\/m=1\/m=2\/m=3\/m=4\/m=5\/m=6\/m=7\/m=8\/m=9)with rfl|rfl|rfl|rfl|rfl|rfl|rfl|rfl|rfl|rfl
  ·have c:=oS f;exact aJ (j8 0 0 d_ c (aB (t _ (mG (i:=0) rfl)))) ⟨rfl,bR⟩
  ·have c:=oS f;obtain⟨u,g,rfl⟩:=nE d 0 48;exact aJ (ey 2 d_ c (aB g)) ⟨rfl,bR⟩
  ·have c:=oS f;obtain⟨u,g,rfl⟩:=nE d 1 49;exact aJ (aO bN c (aB g) ((aG r 2).trans rfl)).1 ⟨rfl,bR⟩
  ·have c:=oS f;exact sf (.inl c) (t _ (mG (i:=2) rfl)) ⟨rfl,bR⟩
  ·have c:=oS f;obtain⟨u,g,rfl⟩:=nE d 3 51;have y:=bU (w:=w') c (show(#[Ul 51]:Array Operand).map a.eval=#[.i ((lf:Nat):Int)]from by simp[aB g]) (rI (P:=aI true tP) Lf.func102 _);exact .inr ⟨_,_,y.1,(sx (lf) o_ w').mono λe x h=>⟨_,h.1,rfl,h.2⟩⟩
  ·have c:=oS f;have y:=bU (w:=w') c (show(#[Xt (.i 33410)]:Array Operand).map a.eval=#[.i ((33410:Nat):Int)]from by simp;rfl) (rI (P:=aI true tP) Lf.func64 _);exact .inr ⟨_,_,y.1,(lO 33410 d_ w').mono λe x h=>⟨_,h.1,rfl,h.2⟩⟩
  ·have c:=oS f;exact sf (.inl c) (t _ (mG (i:=1) rfl)) ⟨rfl,bR⟩
  ·have c:=oS f;obtain⟨u0,H,rfl⟩:=nE d 2 50;obtain⟨u1,F,rfl⟩:=nE d 4 52;obtain⟨S,q,rfl⟩:=nE d 5 53;obtain⟨Z,E,rfl⟩:=nE d 6 54;exact aJ (CX c (aB H) (aB F) (aB q) (aB E)) ⟨⟨w'.heap.size,rfl,bJ w' _⟩,aV w' _⟩
  ·have c:=oS f;obtain⟨u,g,p,rfl,T⟩:=nE d 7 55;have y:=bU (w:=w') c (show(#[Ul 55]:Array Operand).map a.eval=#[.sk p 4 4]from by simp[aB g]) (rI (P:=aI true tP) Lf.func28 _);exact .inr ⟨_,_,y.1,(pF KS [s.id,ob lf 4,ob 33410 2,en] _ w' p 4 rfl rfl T (Ti Y J X) O z s_).mono λe x ⟨v,C,B,A⟩=>⟨v,C,B.trans (by rw[W]),A⟩⟩
  ·have c:=oS f;exact aJ (qD c).1 ⟨⟨w'.heap.size,rfl,by have:=J.size;omega,bJ w' _⟩,aV w' _⟩
 ·obtain⟨u,g,b9,rfl,C,B⟩:=D.come 9 9 rfl trivial;obtain⟨S,q,rfl⟩:=D.come 8 56 rfl trivial;exact .inl ⟨rfl,b9,C,D.old,B,(D.base.more q).more g⟩
 ·rcases L with⟨rfl,b9,C,B,A,j⟩|⟨rfl,_⟩
  ·refine Rn.does0 j (.store 9 (.tmp 9) (.tmp 56)) k_ s_ (λo f=>(eI (w:=w') (b:=b9) (k:=0) (v:= .s Xn) (v0:= .string ⟨#[]⟩) rfl rfl k_ f (j.G 9) (j.G 56) ((aG A 0).trans rfl) (by simp[Ux,A])).1) λa j=>I a _ (.inr ⟨rfl,b9,w',C,B,A,rfl,j⟩)
  ·exact absurd (gA f).1 d_
 ·rcases L with⟨h,_⟩|⟨_,h⟩
  ·exact absurd h d_
  ·exact next a w' h
def Q7(vb:Value)(x:ByteArray):Nat->Value->World->Prop
 |0,v,_=>v=vb
 |1,v,_=>v= .string (x)
 |2,v,_=>v=vb
 |_,v,_=>v= .string (x)
theorem Fs{vb:Value}{x:ByteArray}(k:Nat)(v:Value)(w w':World)(a:Q7 vb x k v w)(_:Bw w w'):Q7 vb x k v w':=by
 match k,a with
 |0,a|1,a|2,a|k+3,a=>exact a
theorem LE{vn vb:Value}{x:ByteArray}(b:w.heap[b9]?=some (.cells #[.s x] 9))
 (p:aW [(2, .pt N),(9, .pt b9),(10,vn),(11,vb)] 81 ds a)
 (next:∀a w',(Bw w w'/\aW [(12,vb),(13, .s x),(2, .pt N),(9, .pt b9),(10,vn),(11,vb)] 81 ds a)->Rn lT Goal (fr.atR a K) cs w'):
 Rn lT Goal (fr.atR a (.code (rD Tryz.f99 11)::K)) cs w:=by
 refine Rn.grows (fx:=[(2, .pt N),(9, .pt b9),(10,vn),(11,vb)]) (ds:=[67,68,12,13]) (N:=81) (df:=ds) (G:=Q7 vb x) k_ k_ Fs (λm o a w' r e v h g=> ?_)
  (λm a w'=>m=4/\Bw w w'/\aW [(12,vb),(13, .s x),(2, .pt N),(9, .pt b9),(10,vn),(11,vb)] 81 ds a) (λa w' c=> ?_) (λm o a w' q r e n t=> ?_) (λa w' n=> ?_) p.defers p.size (p.all s_)
 ·have s:m<4:=r;rcases(o_:m=0\/m=1\/m=2\/m=3)with rfl|rfl|rfl|rfl
  ·have d:=oS e;exact sf (.inl d) (h _ (mG (i:=3) rfl)) ⟨rfl,bR⟩
  ·have d:=oS e;exact aJ (aO bN d (aB (h _ (mG (i:=1) rfl))) ((aG ((v.block b9 (gA b).1).trans b) 0).trans rfl)).1 ⟨rfl,bR⟩
  ·have d:=oS e;obtain⟨u,f,c⟩:=nE g 0 67;exact sf (.inr d) f ⟨c,bR⟩
  ·have d:=oS e;obtain⟨u,f,c⟩:=nE g 1 68;exact sf (.inr d) f ⟨c,bR⟩
 ·obtain⟨u,f,l⟩:=c.come 2 12 rfl trivial;obtain⟨y,k,j⟩:=c.come 3 13 rfl trivial;obtain rfl:=l;obtain rfl:=j;exact⟨rfl,c.old,(c.base.more k).more f⟩
 ·exact absurd (gA e).1 (by obtain⟨rfl,_⟩:=n;decide)
 ·exact next a w' n.2
def Q6(s:dp)(N nn:Nat)(lt rt Xn:ByteArray):Nat->Value->World->Prop
 |0,v,_=>v= .pk N 0
 |1,v,_=>v= .pk N 2
 |2,v,_=>v= .string (s.id)
 |3,v,_=>v= .int .i64 (nn:Int)
 |4,v,_=>v= .int .i64 ((nn/2:Nat):Int)
 |5,v,_=>v= .string (ob (nn/2) 4)
 |6,v,_=>v= .string (ob 33667 2)
 |7,v,_=>v= .string (lt)
 |8,v,_=>v= .string (rt)
 |9,v,w=>Bs 5 #[.string s.id, .string (ob (nn/2) 4), .string (ob 33667 2), .string lt, .string rt] 9 v w
 |_,v,_=>v= .string Xn
theorem Fq{s:dp}{b:Nat}{lt rt Xn:ByteArray}(k:Nat)(v:Value)(w w':World)(a:Q6 s N b lt rt Xn k v w)(c:Bw w w'):Q6 s N b lt rt Xn k v w':=by
 match k,a with
 |0,a|1,a|2,a|3,a|4,a|5,a|6,a|7,a|8,a=>exact a
 |9,a=>exact Bs.mono a c
 |k+10,a=>exact a
theorem LD{s:dp}{j:Nat}{x t rt Xn:ByteArray}(Z:Xn=⟨(gV KS ([s.id,ob (j/2) 4,ob 33667 2,t,rt].flatMap λp=>p.data.toList)).toArray⟩)(Q:KS.length=64)(X:j<9223372036854775808)(D:([s.id,ob (j/2) 4,ob 33667 2,t,rt].flatMap λp=>p.data.toList).length<=576460752303423488)(hK:w.rangeAt 0 0 (aH KS))(h0:0<w.heap.size)(q:w.heap[N]?=some (.cells s.cells 149))
 (g:w.heap[b9]?=some (.cells #[.s x] 9))
 (r:aW [(2, .pt N),(9, .pt b9),(10, .i (j:Int)),(12, .s (t)),(13, .s (rt))] 81 ds a)
 (next:∀a w',(∃A,Bw w A/\w'=A.setCell ⟨b9,0,none⟩ (.s Xn))->Rn lT Goal (fr.atR a K) cs w'):
 Rn lT Goal (fr.atR a (.code (rD Tryz.f99 12)::K)) cs w:=by
 refine Rn.grows (fx:=[(2, .pt N),(9, .pt b9),(10, .i (j:Int)),(12, .s (t)),(13, .s (rt))]) (ds:=[69,70,71,72,73,74,75,76,77,78,79]) (N:=81) (df:=ds) (G:=Q6 s N j t rt Xn) k_ k_ Fq (λm o a w' T f U n c=> ?_)
  (λm a w'=>(m=11/\Bw w w'/\aW [(79, .s Xn),(2, .pt N),(9, .pt b9),(10, .i (j:Int)),(12, .s t),(13, .s rt)] 81 ds a)\/(m=12/\∃A,Bw w A/\w'=A.setCell ⟨b9,0,none⟩ (.s Xn))) (λa w' R=> ?_) (λm o a w' S T f O M=> ?_) (λa w' O=> ?_) r.defers r.size (r.all s_)
 ·have z:=(U.block N (gA q).1).trans q;have Y:m<11:=T;rcases(o_:m=0\/m=1\/m=2\/m=3\/m=4\/m=5\/m=6\/m=7\/m=8\/m=9\/m=10)with rfl|rfl|rfl|rfl|rfl|rfl|rfl|rfl|rfl|rfl|rfl
  ·have d:=oS f;exact aJ (j8 0 0 d_ d (aB (n _ (mG (i:=0) rfl)))) ⟨rfl,bR⟩
  ·have d:=oS f;obtain⟨u,l,rfl⟩:=nE c 0 69;exact aJ (ey 2 d_ d (aB l)) ⟨rfl,bR⟩
  ·have d:=oS f;obtain⟨u,l,rfl⟩:=nE c 1 70;exact aJ (aO bN d (aB l) ((aG z 2).trans rfl)).1 ⟨rfl,bR⟩
  ·have d:=oS f;exact sf (.inl d) (n _ (mG (i:=2) rfl)) ⟨rfl,bR⟩
  ·have d:=oS f;obtain⟨u,l,rfl⟩:=nE c 3 72;refine aJ (NT d (aB l) rfl o_ o_) ⟨?_,bR⟩;show _=_;rw[W0];rfl
  ·have d:=oS f;obtain⟨u,l,rfl⟩:=nE c 4 73;have C:=bU (w:=w') d (show(#[Ul 73]:Array Operand).map a.eval=#[.i ((j/2:Nat):Int)]from by simp[aB l]) (rI (P:=aI true tP) Lf.func102 _);exact .inr ⟨_,_,C.1,(sx (j/2) o_ w').mono λe B h=>⟨_,h.1,rfl,h.2⟩⟩
  ·have d:=oS f;have C:=bU (w:=w') d (show(#[Xt (.i 33667)]:Array Operand).map a.eval=#[.i ((33667:Nat):Int)]from by simp;rfl) (rI (P:=aI true tP) Lf.func64 _);exact .inr ⟨_,_,C.1,(lO 33667 d_ w').mono λe B h=>⟨_,h.1,rfl,h.2⟩⟩
  ·have d:=oS f;exact sf (.inl d) (n _ (mG (i:=3) rfl)) ⟨rfl,bR⟩
  ·have d:=oS f;exact sf (.inl d) (n _ (mG (i:=4) rfl)) ⟨rfl,bR⟩
  ·have d:=oS f;obtain⟨u0,L,rfl⟩:=nE c 2 71;obtain⟨u1,J,rfl⟩:=nE c 5 74;obtain⟨V,y,rfl⟩:=nE c 6 75;obtain⟨u3,I,rfl⟩:=nE c 7 76;obtain⟨u4,H,rfl⟩:=nE c 8 77;exact aJ (CY d (aB L) (aB J) (aB y) (aB I) (aB H)) ⟨⟨w'.heap.size,rfl,bJ w' _⟩,aV w' _⟩
  ·have d:=oS f;obtain⟨u,l,p,rfl,W⟩:=nE c 9 78;have C:=bU (w:=w') d (show(#[Ul 78]:Array Operand).map a.eval=#[.sk p 5 5]from by simp[aB l]) (rI (P:=aI true tP) Lf.func28 _);exact .inr ⟨_,_,C.1,(pF KS [s.id,ob (j/2) 4,ob 33667 2,t,rt] _ w' p 5 rfl rfl W (Ti h0 U hK) Q D s_).mono λe B ⟨v,h1,F,E⟩=>⟨v,h1,F.trans (by rw[Z]),E⟩⟩
 ·obtain⟨V,y,rfl⟩:=R.come 10 79 rfl trivial;exact .inl ⟨rfl,R.old,R.base.more y⟩
 ·rcases O with⟨rfl,F,r⟩|⟨rfl,_⟩
  ·have E:=(F.block b9 (gA g).1).trans g;refine Rn.does0 r (.store 9 (.tmp 9) (.tmp 79)) k_ s_ (λo f=>(eI (w:=w') (b:=b9) (k:=0) (v:= .s Xn) (v0:= .s x) rfl rfl k_ f (r.G 9) (r.G 79) ((aG E 0).trans rfl) (by simp[Ux,E])).1) λa r=>M a _ (.inr ⟨rfl,w',F,rfl⟩)
  ·exact absurd (gA f).1 d_
 ·rcases O with⟨h,_⟩|⟨_,h⟩
  ·exact absurd h d_
  ·exact next a w' h
end L1
section
open Go.Conc Go.RowKit
def vl(KS:List Int)(ps:List ByteArray):ByteArray:=⟨(gV KS (ps.flatMap λp=>p.data.toList)).toArray⟩
def qB(KS:List Int)(s:dp)(q:Nat)(msg:ByteArray):ByteArray:=vl KS [s.id,ob q 4,ob 33153 2,s.salt,msg]
def Qw(KS:List Int)(s:dp)(wd sh q:Nat)(msg:ByteArray)(c:Nat):Nat:=dK (xQ (qB KS s q msg).data.toList wd sh) wd c
def T1(KS:List Int)(s:dp)(wd sh n q:Nat)(msg:ByteArray):ByteArray:=⟨(rR KS s (λc=>(Qw KS s wd sh q msg c:Nat)) n).toArray⟩
def Sf(KS:List Int)(s:dp)(wd sh n q:Nat)(msg:ByteArray):ByteArray:=vl KS [s.id,ob q 4,ob 32896 2,T1 KS s wd sh n q msg]
def QF(KS:List Int)(s:dp)(wd sh n q lf:Nat)(msg:ByteArray):ByteArray:=vl KS [s.id,ob lf 4,ob 33410 2,Sf KS s wd sh n q msg]
def Nq(KS:List Int)(id:ByteArray)(nn:Nat)(p x:ByteArray):ByteArray:=vl KS [id,ob (nn/2) 4,ob 33667 2,if nn%2=1 then p else x,if nn%2=1 then x else p]
theorem tj(KS:List Int)(a:List ByteArray):(vl KS a).size=32:=by show(gV KS _).toArray.size=32;simp[gV]
theorem Rm(a b c d e:ByteArray):([a,b,c,d,e].flatMap λp=>p.data.toList).length=a.size+b.size+c.size+d.size+e.size:=by simp[YC];omega
theorem Ro(a b c d:ByteArray):([a,b,c,d].flatMap λp=>p.data.toList).length=a.size+b.size+c.size+d.size:=by simp[YC];omega
structure Cm (ts tg:TypeId) (s:dp) (N b9 l ld:Nat) (r:Loop) (w0:World) (x:ByteArray) (w:World):Prop where
 old:Bw w0 w
 sig:w.heap[N]?=some (.cells s.cells tg)
 nine:w.heap[b9]?=some (.cells #[.string x] ts)
 list:w.heap[ld]?=some (.deferred (some []))
 loop:w.heap[l]?=some (.loop r)
section
variable{ts tg:TypeId}{s:dp}{ld:Nat}{r:Loop}{x:ByteArray}
theorem Cm.below(h:Cm ts tg s N b9 l ld r w0 x w)(c:Bw w w'):Cm ts tg s N b9 l ld r w0 x w':=by have g:∀{b:Nat} {o:Obj},w.heap[b]?=some o->w'.heap[b]?=some o:=λ{b o} a=>(c.block b (gA a).1).trans a;exact⟨aE h.old h.old.size c,g h.sig,g h.nine,g h.list,g h.loop⟩
theorem Cm.turn(h:Cm ts tg s N b9 l ld r w0 x w)(f:w0.heap.size<=l)(a:Loop):Cm ts tg s N b9 l ld a w0 x (bP w l a):=by
 have d:N≠l:=λe=>by have:=h.sig;rw[e,h.loop]at this;cases this
 have c:b9≠l:=λe=>by have:=h.nine;rw[e,h.loop]at this;cases this
 have b:ld≠l:=λe=>by have:=h.list;rw[e,h.loop]at this;cases this
 exact⟨h.old.trans (em w _ _ f),(bD w _ d).trans h.sig,(bD w _ c).trans h.nine,(bD w _ b).trans h.list,gq h.loop⟩
theorem Cm.put(h:Cm ts tg s N b9 l ld r w0 x w)(d:ts≠tg)(f:w0.heap.size<=b9)(y:ByteArray):Cm ts tg s N b9 l ld r w0 y (w.setCell ⟨b9,0,none⟩ (.s y)):=by
 have c:N≠b9:=λe=>by have:=h.sig;rw[e,h.nine]at this;injection this with this;injection this with _ this;exact d this
 have b:l≠b9:=λe=>by have:=h.nine;rw[←e,h.loop]at this;cases this
 have a:ld≠b9:=λe=>by have:=h.nine;rw[←e,h.list]at this;cases this
 exact⟨h.old.trans (ee w _ _ f),(cA w _ c).trans h.sig,jn h.nine,(cA w _ a).trans h.list,(cA w _ b).trans h.loop⟩
end
end
namespace L1
open Go.Conc Go.RowKit
def zj(KS:List Int)(id path:ByteArray)(lf:Nat)(x:ByteArray):Nat->ByteArray
 |0=>x
 |c+1=>Nq KS id (jZ lf c) ((px path c).extract 0 32) (zj KS id path lf x c)
theorem Bz(KS:List Int)(id path:ByteArray)(lf:Nat)(x:ByteArray)(a:x.size=32):∀c,(zj KS id path lf x c).size=32
 |0=>a
 |_+1=>tj _ _
def xM(f:Func):Code:= .block 1 (.seq (rG f 9) (.seq (.seq (rG f 10) (.cond (.tmp 66) (rD f 11) .skip)) (rD f 12)))
def Ca(f:Func)(T:Array Value)(ld:Nat)(st:LoopState):Loop:={state:=st,pending:=none,fn:=99,tmps:=T,params:=#[60,61],assign:= .seq (rG f 7) (rG f 8),body:=xM f,defers:=ld}
section
variable{y:Operand}{m n:Int}
theorem SE(a:o.op= .binOp .rem 3 x y u)(c:ev x= .i m)(b:ev y= .i 2)(d:0<=m):(execOp ev o).run lT w= .ok (.value (.i (m%2))) w:=by have e:m.tmod 2=m%2:=Wp d;simp[execOp,a,c,b,go_sem,e]
theorem mU(a:o.op= .binOp .eql 3 x y u)(c:ev x= .i m)(b:ev y= .i n):(execOp ev o).run lT w= .ok (.value (.bool (m==n))) w:=by simp[execOp,a,c,b,go_sem]
end
section
variable{T:Array Value}{s:dp}{ld nn:Nat}{p x:ByteArray}
theorem Km(hKl:KS.length=64)(hK:w0.rangeAt 0 0 (aH KS))(h0:0<w0.heap.size)(hid:s.id.size<65536)(hnn:nn<9223372036854775808)(hp:p.size<=32)(hx:x.size=32)(hb9:w0.heap.size<=b9)(hl:w0.heap.size<=l)
 (hT:aW [(2, .pt N),(9, .pt b9)] 81 [] ⟨T,[]⟩) {cf:Frame}
 (hI:Cm 9 149 s N b9 l ld (Ca Tryz.f99 T ld .ready) w0 x w)
 (next:∀w',Cm 9 149 s N b9 l ld (Ca Tryz.f99 T ld .ready) w0 (Nq KS s.id nn p x) w'->Rn lT Goal (cf.finish (.bool true)) cs w'):
 Rn lT Goal (Vt l 99 (((#[60,61]:Array Tmp).zip #[.i nn, .s p]).foldl (λtmps (t,a)=>tmps.setIfInBounds t a) T) (.seq (rG Tryz.f99 7) (rG Tryz.f99 8)) (xM Tryz.f99) .normal) (cf::cs) w:=by
 have hF:=(hT.put (d:=60) d_ (.i nn)).put (d:=61) d_ (.s p);have ez:((#[60,61]:Array Tmp).zip #[.i nn, .s p]).foldl (λ(tmps:Array Value) (x:Tmp×Value)=>match x with|(t,a)=>tmps.setIfInBounds t a) T=(T.setIfInBounds 60 (.i nn)).setIfInBounds 61 (.s p):=s_
 rw[ez];show Rn _ Goal ((rb 99 l).atR (VN (VN ⟨T,[]⟩ (some 60) (.i nn)) (some 61) (.s p)) [.code (.seq (rG Tryz.f99 7) (rG Tryz.f99 8)), .beginRound, .code (xM Tryz.f99)]) (cf::cs) w;revert hF;generalize VN (VN ⟨T,[]⟩ (some 60) (.i nn)) (some 61) (.s p)=a;intro hF;refine Rn.p rfl (Rn.r (L:=[0]) rfl (Rn.S hF 10 60 rfl λa hF=> ?_));refine Rn.p rfl (Rn.r (L:=[0]) rfl (Rn.S hF 11 61 rfl λa hF=> ?_));refine Rn.p rfl (Rn.rounds (r:=Ca Tryz.f99 T ld .ready) rfl hI.loop rfl ?_);have hI1:=hI.turn hl (Ca Tryz.f99 T ld .busy);show Rn _ Goal _ _ (bP w l (Ca Tryz.f99 T ld .busy));revert hI1;generalize bP w l (Ca Tryz.f99 T ld .busy)=w1;intro hI1;refine Rn.vv hF (λo ho=>(aO bN ho (hF.G 9) ((aG hI1.nine 0).trans rfl)).1) λa hF=> ?_
 iterate 4 refine Rn.uu hF λa hF=> ?_
 refine Rn.uu hF λa hF=> ?_;refine Rn.uu hF λa hF=> ?_;have done:∀(lt rt:ByteArray) (a:Act) (w2:World),Nq KS s.id nn p x=vl KS [s.id,ob (nn/2) 4,ob 33667 2,lt,rt]->lt.size<=32->rt.size<=32->Cm 9 149 s N b9 l ld (Ca Tryz.f99 T ld .busy) w0 x w2->
  aW [(2, .pt N),(9, .pt b9),(10, .i (nn:Int)),(12, .s lt),(13, .s rt)] 81 [] a->
  Rn lT Goal ((rb 99 l).atR a [.code (rD Tryz.f99 12), .inBlock 1]) (cf::cs) w2:=by intro lt rt a w2 hup hlt hrt hI2 hF;refine LD (x:=x) (Xn:=Nq KS s.id nn p x) hup hKl hnn (by rw[Rm,aM,aM];omega) (Ti h0 hI2.old hK) (TC h0 hI2.old.size) hI2.sig hI2.nine hF λa w3 hw3=> ?_;obtain⟨w4,hb4,rfl⟩:=hw3;have hI3:=(hI2.below hb4).put d_ hb9 (Nq KS s.id nn p x);exact Rn.p rfl (Rn.through rfl rfl hI3.loop (next _ (hI3.turn hl _)))
 refine Rn.p rfl (Rn.cond _ (hF.G 66) ?_);by_cases hodd:nn%2=1
 ·rw[show(((nn:Int)%2)==1)=true from by rw[beq_iff_eq];omega];refine LE (x:=x) (vb:= .s p) (vn:= .i nn) (N:=N) hI1.nine (hF.only ⟨rfl,rfl,rfl,rfl,trivial⟩) λa w2 ⟨hb2,hF⟩=> ?_;exact done p x a w2 (by simp[Nq,hodd]) hp o_ (hI1.below hb2) (hF.only ⟨rfl,rfl,rfl,rfl,rfl,trivial⟩)
 ·rw[show(((nn:Int)%2)==1)=false from by rw[beq_eq_false_iff_ne];omega];refine Rn.p rfl ?_;exact done x p a w1 (by simp[Nq,hodd]) o_ hp hI1 (hF.only ⟨rfl,rfl,rfl,rfl,rfl,trivial⟩)
end
theorem PF:Tryz.f106.body=some (.seq (rG Tryz.f106 0) (.seq (rG Tryz.f106 1) .ret)):=k_
theorem JI(s:dp)(lf:Nat)(w:World):
 Calls lT 106 #[.agg s.cells, .i lf] w λe w'=>e= .returned (.func (.func 116) #[] #[.pk w.heap.size 0, .pk (w.heap.size+1) 0])/\w'=(w.alloc (.cells s.cells 149)).alloc (.cells #[.i lf] 3):=by
 refine bI (t:=4) Lf.func106 rfl λd=> ?_;rw[aZ (N:=6) [.agg s.cells, .i lf] Lf.func106 PF rfl];have b:=aQ [.agg s.cells, .i lf] 6 s_;refine Rn.gr ?_;refine Rn.z b 2 0 149 rfl λa b=> ?_;show Rn _ _ _ _ (w.alloc (.cells s.cells 149));refine Rn.z b 3 1 3 rfl λa b=> ?_;rw[aR]at b;show Rn _ _ _ _ ((w.alloc (.cells s.cells 149)).alloc (.cells #[.i lf] 3));refine Rn.uu b λa b=> ?_;refine Rn.gr ?_;refine Rn.O b 5 (.makeFunc (.func 116) #[] #[.tmp 2, .tmp 3]) (v:= .func (.func 116) #[] #[.pk w.heap.size 0, .pk (w.heap.size+1) 0]) (w':=(w.alloc (.cells s.cells 149)).alloc (.cells #[.i lf] 3)) (λo c=> ?_) λa b=> ?_
 ·have h:=(fv lT (w:=(w.alloc (.cells s.cells 149)).alloc (.cells #[.i lf] 3)) (ev:=a.eval) c).1;rw[h];simp[b.G 2,b.G 3]
 refine Rn.uu b λa b=> ?_;exact Rn.fi b ⟨rfl,rfl⟩
theorem FV:Tryz.f99.body=some (.seq (rG Tryz.f99 0) (.seq (rG Tryz.f99 1) (.seq (rD Tryz.f99 2) (.seq (rD Tryz.f99 3)
 (.seq (rD Tryz.f99 4) (.seq (rD Tryz.f99 5) (.seq (.seq (rG Tryz.f99 6) (.block 0 (.rangeFunc (.tmp 59) #[60,61] (.seq (rG Tryz.f99 7) (rG Tryz.f99 8)) (xM Tryz.f99))))
 (.seq (rG Tryz.f99 13) .ret)))))))):=k_
structure RZ (s:dp) (h wd sh n q:Nat):Prop where
 wid:Az wd
 width:s.width=wd
 shift:s.shift=sh
 shift8:sh<=8
 count:s.count=n
 one:1<=n
 most:n<=34*(8/wd)
 height:s.height=h
 low:h<=5
 qq:s.q=q
 leaf:q<2^h
 id:s.id.size<=1000
 salt:s.salt.size<=1000
 links:n*32<=s.links.size
 path:s.path.size=32*h
def GH(KS:List Int)(s:dp)(h wd sh n q:Nat)(msg:ByteArray):ByteArray:=zj KS s.id s.path (2^h+q) (QF KS s wd sh n q (2^h+q) msg) h
theorem A2(KS:List Int)(x:KS.length=64)(s:dp)(h wd sh n q:Nat)(f:RZ s h wd sh n q)(msg:ByteArray)(af:msg.size<=281474976706560)(w:World)(hK:w.rangeAt 0 0 (aH KS))(T:0<w.heap.size):
 Calls lT 99 #[.agg s.cells, .s msg] w λe w'=>e= .returned (.s (GH KS s h wd sh n q msg))/\Bw w w':=by
 have ag:wd<=8:=by rcases f.wid with h|h|h<;>omega
 have X:8/wd<=4:=by rcases f.wid with h|h|h<;>subst h<;>decide
 have ab:n<=136:=TW f.most (TW (Nat.mul_le_mul_left 34 X) d_);have ak:2^h<=32:=TW (W8 d_ f.low) d_;have hq:=f.leaf;have ah:=f.id;have aa:=f.salt;have ac:∀c,Qw KS s wd sh q msg c<256:=λc=>by have:=zX (xQ (qB KS s q msg).data.toList wd sh) wd c;have:=wI f.wid;unfold Qw;omega
 have ai:(T1 KS s wd sh n q msg).size<=5000:=by have:=u5 KS s (λc=>(Qw KS s wd sh q msg c:Nat)) n f.links;show(rR KS s (λc=>(Qw KS s wd sh q msg c:Nat)) n).toArray.size<=5000;simp only[Uq];omega
 refine bI (t:=4) Lf.func99 rfl λcs=> ?_;rw[aZ (N:=81) [.agg s.cells, .s msg] Lf.func99 FV rfl];have b:=aQ [.agg s.cells, .s msg] 81 s_;refine Rn.zz b λw1 a S J _ b=> ?_;refine Rn.C b 4 (.string ⟨#[]⟩) λa b=> ?_;refine Rn.vv b (λo K=>j8 1 8 d_ K (b.G 2)) λa b=> ?_;refine Rn.vv b (λo K=>(aO (v:= .i q) ce K (b.G 14) ((aG J 8).trans (by rw[←f.qq];rfl))).1) λa b=> ?_;refine Rn.cw b Lf.func102 ((sx q o_ w1)) λw2 R a b=> ?_;refine Rn.uu b λa b=> ?_;refine Rn.p rfl (Rn.p rfl ?_);have A:Bw w w2:=aE S S.size R;have I:=bk R J;clear S J R;have b:aW [(1, .s msg),(2, .pt w.heap.size),(5, .s (ob q 4))] 81 [] a:=b.only ⟨rfl,rfl,rfl,trivial⟩;refine LI (Qb:=qB KS s q msg) (wd:=wd) (sh:=sh) (n:=n) rfl x f.wid f.width f.shift f.shift8 f.count f.one f.most (by rw[Rm,aM,aM];omega) (Ti T A hK) (TC T A.size) I b λa w3 ⟨Q,vg,j,b⟩=> ?_;have z:Bw w w3:=aE A A.size Q;have H:=bk Q I;clear Q I;refine Rn.p rfl ?_;refine LH (dg:=Qw KS s wd sh q msg) (En:=T1 KS s wd sh n q msg) (Xn:=Sf KS s wd sh n q msg) rfl rfl x ⟨by have:=f.width;omega,by have:=f.width;omega⟩ ⟨by have:=f.qq;omega,by have:=f.qq;omega⟩ o_ f.count f.one o_ f.links ac (by rw[Ro,aM,aM];omega) (Ti T z hK) (TC T z.size) j H (b.only ⟨rfl,rfl,rfl,trivial⟩) λa w4 ⟨P,b⟩=> ?_;have a8:Bw w w4:=aE z z.size P;have F:=bk P H;clear P H j;refine Rn.p rfl ?_;refine LG (h:=h) (q:=q) (H2:=2^h) rfl f.height (by have:=f.low;omega) o_ f.qq o_ F (b.only ⟨rfl,rfl,trivial⟩) λa w5 ⟨g,b⟩=> ?_;have l:Bw w w5:=aE a8 a8.size g;have r:=bk g F;clear g F;refine Rn.p rfl ?_;refine LF (lf:=2^h+q) (en:=Sf KS s wd sh n q msg) (Xn:=QF KS s wd sh n q (2^h+q) msg) (M:=w5.heap.size) rfl x o_ (by rw[Ro,aM,aM,Sf,tj];omega) (Ti T l hK) (TC T l.size) r rfl (b.only ⟨rfl,rfl,rfl,trivial⟩) λa i ⟨B,a9,aj,g,a1,p,b⟩=> ?_;have C:Bw w a9:=aE l l.size g;have ae:=l.size;have a5:=(gA r).1;have E:i.heap[w.heap.size]?=some (.cells s.cells 149):=by rw[p,cA _ _ (by show _≠B;omega)];exact(g.block _ a5).trans r
 have a0:i.heap[B]?=some (.cells #[.s (QF KS s wd sh n q (2^h+q) msg)] 9):=by rw[p];exact jn a1
 have a7:Bw w i:=by rw[p];exact C.trans (ee _ _ _ (by show _<=B;omega))
 clear p g a1 C r;refine Rn.vv b (λo K=>(kN (ex:=#[]) K (b.G 2) (by rw[Uw];exact E)).1) λa b=> ?_;refine Rn.uu b λa b=> ?_;refine Rn.cw b Lf.func106 ((JI s (2^h+q) i)) λd m a b=> ?_;have u:Bw i d:=by rw[m];exact aE (aV i _) (by rw[aR];omega) (aV _ _)
 have k0:d.heap[i.heap.size]?=some (.cells s.cells 149):=by rw[m];exact(cQ _ _ (by rw[aR];omega)).trans (bJ i _)
 have k1:d.heap[i.heap.size+1]?=some (.cells #[.i ((2^h+q:Nat):Int)] 3):=by rw[m];have:=bJ (i.alloc (.cells s.cells 149)) (.cells #[.i ((2^h+q:Nat):Int)] 3);rw[aR]at this;exact this
 have a6:Bw w d:=aE a7 a7.size u;have W:=bk u E;have Z:=bk u a0;clear m u E a0;have U:=a6.size;have O:=(gA k0).1;have L:=(gA k1).1;have V:=(gA W).1;have Y:=(gA Z).1;refine Rn.p rfl (Rn.p rfl ?_);refine Rn.rangeAs (Ca Tryz.f99 a.tmps d.heap.size .ready) (args:=#[.func (.yield (d.heap.size+1)) #[] #[], .pk i.heap.size 0, .pk (i.heap.size+1) 0]) rfl rfl Lf.func116 k_ k_ (b.G 59) s_ ?_;have hT:aW [(2, .pt w.heap.size),(9, .pt B)] 81 [] ⟨a.tmps,[]⟩:=⟨rfl,b.size,(b.only (G:=[(2, .pt w.heap.size),(9, .pt B)]) ⟨rfl,rfl,trivial⟩).slot⟩;have ad:Cm 9 149 s w.heap.size B (d.heap.size+1) d.heap.size (Ca Tryz.f99 a.tmps d.heap.size .ready) w (zj KS s.id s.path (2^h+q) (QF KS s wd sh n q (2^h+q) msg) 0) (cR d (Ca Tryz.f99 a.tmps d.heap.size .ready)):=
  ⟨aE a6 U (fO d _),(bM d _ V).trans W,(bM d _ Y).trans Z,eL d _,eK d _⟩
 have G:∀D,sa lT D (((base 99).atR ⟨a.tmps,{target:= .collected d.heap.size,args:=#[]}::a.defers⟩ (.inRangeFunc (d.heap.size+1)::[.inBlock 0, .code (.seq (rG Tryz.f99 13) .ret)]))::cs) (λc=>#[.i (jZ (2^h+q) c), .s ((px s.path c).extract 0 32)]) h (d.heap.size+1) (Ca Tryz.f99 a.tmps d.heap.size .ready)
  (λc=>Cm 9 149 s w.heap.size B (d.heap.size+1) d.heap.size (Ca Tryz.f99 a.tmps d.heap.size .ready) w (zj KS s.id s.path (2^h+q) (QF KS s wd sh n q (2^h+q) msg) c)):=
  λD=>
  {below:=λc w w' h hb=>h.below hb
   loop:=λc w h=>h.loop
   size:=λc=>rfl
   round:=λc w' cf hc hI next=>Km x hK T o_ (by have:=tN (2^h+q) c;omega) (by rw[TT];omega) (Bz _ _ _ _ _ (tj _ _) c) o_ o_ hT hI next}
 refine Gm (s:=s) f.path o_ (by rw[Ye];omega) o_ (G _) ad ((bM d _ O).trans k0) ((bM d _ L).trans k1) λw8 hI=> ?_;show Rn _ _ ((base 99).atR ⟨a.tmps,{target:= .collected d.heap.size,args:=#[]}::a.defers⟩ (.endRangeFunc (d.heap.size+1)::_)) cs w8;refine Rn.rangeOver hI.loop rfl rfl ?_;have k:=hI.turn o_ (Ca Tryz.f99 a.tmps d.heap.size .exhausted);show Rn _ _ _ _ (bP w8 (d.heap.size+1) (Ca Tryz.f99 a.tmps d.heap.size .exhausted));have y:aW [(9, .pt B)] 81 [{target:= .collected d.heap.size,args:=#[]}] ⟨a.tmps,{target:= .collected d.heap.size,args:=#[]}::a.defers⟩:=⟨by rw[b.defers],b.size,(b.only (G:=[(9, .pt B)]) ⟨rfl,trivial⟩).slot⟩;revert y k;generalize bP w8 (d.heap.size+1) (Ca Tryz.f99 a.tmps d.heap.size .exhausted)=w9;generalize (Act.mk a.tmps ({target:= .collected d.heap.size,args:=#[]}::a.defers))=a2;intro k y;refine Rn.gr ?_;refine Rn.O y 80 (.load 9 (.tmp 9)) (λo K=>(aO bN K (y.G 9) ((aG k.nine 0).trans rfl)).1) λa3 y=> ?_;refine Rn.S y 4 80 rfl λa4 y=> ?_;exact Rn.p rfl (Rn.ends rfl (.inr ⟨_,rfl⟩) (Rn.take (ds:=[]) y.defers k.list (Rn.now ⟨⟨a4.tmps,[]⟩,_, .s (GH KS s h wd sh n q msg),rfl,rfl,y.slot 4 _ rfl,rfl,k.old.trans (fG _ _ o_)⟩)))
end L1
section
open Go
def gP(t:Int):Nat:=if t=5 then 5 else if t=226 then 2 else 0
def kl(c:Int):Nat:=if c=2 then 2 else if c=3 then 4 else if c=4 then 8 else 0
def nw(c:Int):Nat:=if c=2 then 133 else if c=3 then 67 else if c=4 then 34 else 0
def mO(c:Int):Nat:=if c=2 then 6 else if c=3 then 4 else 0
def cU(b:ByteArray)(i j:Nat):Int:=fq (b.extract i j).data.toList
def ip(b:ByteArray):dp:={tree:=b.extract 0 4,chains:=b.extract 4 8,id:=b.extract 8 24,root:=b.extract 24 b.size,height:=gP (cU b 0 4),width:=kl (cU b 4 8),count:=nw (cU b 4 8),shift:=mO (cU b 4 8),q:=0,salt:=⟨#[]⟩,links:=⟨#[]⟩,path:=⟨#[]⟩}
def gD:Array Value:=#[.string ⟨#[]⟩, .string ⟨#[]⟩, .string ⟨#[]⟩, .string ⟨#[]⟩, .int .i64 0, .int .i64 0, .int .i64 0, .int .i64 0]
def i5(b:ByteArray):Prop:=b.size=56/\gP (cU b 0 4)≠0/\kl (cU b 4 8)≠0
end
namespace L1
open Go.Conc Go.RowKit
section
variable{y z u:Operand}{m n:Int}
theorem Be(a:o.op= .binOp .neq 3 x y t)(c:ev x= .i m)(b:ev y= .i n):(execOp ev o).run lT w= .ok (.value (.bool (m !=n))) w:=by simp[execOp,a,c,b,go_sem]
theorem Sj(a:o.op= .binOp .eql 67 x y t)(c:ev x= .int .u64 m)(b:ev y= .int .u64 n):(execOp ev o).run lT w= .ok (.value (.bool (m==n))) w:=by simp[execOp,a,c,b,go_sem]
theorem BE(a:o.op= .alloc 145):(execOp ev o).run lT w= .ok (.value (.pk w.heap.size 0)) (w.alloc (.cells gD 145)):=by
 have e:execOp ev o=(do pure (.value (←Uo 145 true (.tuple #[])))):=by simp only[execOp,a]
 have b:(do pure (.value (←Uo 145 true (.tuple #[]))):Sem Next).run lT w= .ok (.value (.pk w.heap.size 0)) (w.alloc (.cells gD 145)):=k_
 rw[e,b]
theorem GK(a:o.op= .build 145 #[]):(execOp ev o).run lT w= .ok (.value (.agg gD)) w:=by
 have e:execOp ev o=(do pure (.value (←Uj 145 #[]))):=by simp[execOp,a]
 have b:(do pure (.value (←Uj 145 #[])):Sem Next).run lT w= .ok (.value (.agg gD)) w:=k_
 rw[e,b]
theorem GM{a b c d:ByteArray}(f:o.op= .build 145 #[(0,x),(1,y),(2,z),(3,u)])(j:ev x= .s a)(g:ev y= .s b)(i:ev z= .s c)(h:ev u= .s d):
 (execOp ev o).run lT w= .ok (.value (.agg #[.s a, .s b, .s c, .s d, .i 0, .i 0, .i 0, .i 0])) w:=by
 have e:execOp ev o=(do pure (.value (←Uj 145 #[(0, .s a),(1, .s b),(2, .s c),(3, .s d)]))):=by simp[execOp,f,j,g,i,h]
 have g:(do pure (.value (←Uj 145 #[(0, .s a),(1, .s b),(2, .s c),(3, .s d)])):Sem Next).run lT w= .ok (.value (.agg #[.s a, .s b, .s c, .s d, .i 0, .i 0, .i 0, .i 0])) w:=k_
 rw[e,g]
end
theorem zC:(lT.info? 145).map (·.size)=some 8:=k_
theorem jp{b:Frame}{k:List Item}{t:Nat}(u:aW F N ds a)(d x j:Nat)(c:Int)(A:d<N)(z:j<8){g:Array Value}(y:F.lookup x=some (.pk b4 0))
 (D:(ops[m]?).map (λo=>(o.dst,o.op,o.guard))=some (some d, .fieldAddr 145 (.tmp x) j,none)) (C:(ops[t]?).map (λo=>(o.dst,o.op,o.guard))=some (none, .store 3 (.tmp d) (.const (.i c)),none)) (f:w.heap[b4]?=some (.cells g 145)) {v0:Value} (h:g[j]?=some v0)
 (next:∀a' w',aW F N ds a'->w'.heap[b4]?=some (.cells (g.setIfInBounds j (.i c)) 145)->(∀M,M<=b4->Below M w w')->Rn lT Goal (b.atR a' (.inRegion ops rest::k)) cs w') (r:F.lookup d=none):Rn lT Goal (b.atR a (.inRegion ops (m::t::rest)::k)) cs w:=by
 refine Rn.op u d (.fieldAddr 145 (.tmp x) j) A D s_ (λo l=>ey j z l (u.get y)) λa i=> ?_;refine Rn.does0 i (.store 3 (.tmp d) (.const (.i c))) C s_ (λo l=>(eI (w:=w) (b:=b4) (k:=j) (v:= .i c) (v0:=v0) rfl rfl k_ l (i.get (d:=d) (by simp[TU])) rfl (by rw[aG f];exact h) (by simp[Ux,f])).1) λa s=> ?_;refine next a _ (s.sub λe v p=> ?_) (kU f) λM B=>ee w _ _ B
 have n:e≠d:=λq=>by rw[q,r]at p;cases p
 simp only[TU,show(e==d)=false from by simpa using n];exact p
def T8(b:ByteArray)(M:Nat):Nat->Value->World->Prop
 |0,v,_=>v= .string b
 |1,v,_=>v= .string (b.extract 0 4)
 |2,v,_=>v= .string b
 |3,v,_=>v= .string (b.extract 4 8)
 |4,v,_=>v= .string b
 |5,v,_=>v= .string (b.extract 8 24)
 |6,v,_=>v= .string b
 |7,v,_=>v= .string (b.extract 24 b.size)
 |8,v,_=>v= .agg #[.string (b.extract 0 4), .string (b.extract 4 8), .string (b.extract 8 24), .string (b.extract 24 b.size), .int .i64 0, .int .i64 0, .int .i64 0, .int .i64 0]
 |_,v,w=>Bx M gD 145 v w
theorem It{b:ByteArray}{M:Nat}(k:Nat)(v:Value)(w w':World)(h:T8 b M k v w)(a:Bw w w'):T8 b M k v w':=by
 match k,h with
 |0,h|1,h|2,h|3,h|4,h|5,h|6,h|7,h|8,h=>exact h
 |k+9,h=>exact Bx.mono h a
theorem OR{b:ByteArray}(E:b.size=56){p:Value}(g:aW [(0, .s b),(2,p)] 48 [] a)
 (next:∀a w' b4,w.heap.size<=b4->Bw w w'->w'.heap[b4]?=some (.cells #[.s (b.extract 0 4), .s (b.extract 4 8), .s (b.extract 8 24), .s (b.extract 24 b.size), .int .i64 0, .int .i64 0, .int .i64 0, .int .i64 0] 145)->aW [(4, .pt b4),(0, .s b),(2,p)] 48 [] a->Rn (aI true tP) Goal ((base 97).atR a K) cs w'):
 Rn (aI true tP) Goal ((base 97).atR a (.code (rD Tryz.f97 3)::K)) cs w:=by
 refine Rn.grows (fx:=[(0, .s b),(2,p)]) (ds:=[9,10,11,12,13,14,15,16,17,4]) (N:=48) (df:=[]) (G:=T8 b w.heap.size) k_ k_ It (λm o a w' D f I A e=> ?_)
  (λm a w'=>(m=10/\∃b4,w.heap.size<=b4/\Bw w w'/\w'.heap[b4]?=some (.cells gD 145)/\aW [(4, .pt b4),(17, .agg #[.s (b.extract 0 4), .s (b.extract 4 8), .s (b.extract 8 24), .s (b.extract 24 b.size), .int .i64 0, .int .i64 0, .int .i64 0, .int .i64 0]),(0, .s b),(2,p)] 48 [] a)\/
    (m=11/\∃b4,w.heap.size<=b4/\Bw w w'/\w'.heap[b4]?=some (.cells #[.s (b.extract 0 4), .s (b.extract 4 8), .s (b.extract 8 24), .s (b.extract 24 b.size), .int .i64 0, .int .i64 0, .int .i64 0, .int .i64 0] 145)/\aW [(4, .pt b4),(0, .s b),(2,p)] 48 [] a))
  (λa w' r=> ?_) (λm o a w' C D f B z=> ?_) (λa w' B=> ?_) g.defers g.size (g.all s_)
 ·have t:=aB (A _ (mG (i:=0) rfl));have H:m<10:=D;rcases(o_:m=0\/m=1\/m=2\/m=3\/m=4\/m=5\/m=6\/m=7\/m=8\/m=9)with rfl|rfl|rfl|rfl|rfl|rfl|rfl|rfl|rfl|rfl
  ·have c:=oS f;exact aJ (by rw[cE (.inl c),t]) ⟨rfl,bR⟩
  ·have c:=oS f;obtain⟨u,j,rfl⟩:=nE e 0 9;exact aJ (sC (n:=4) c (aB j) rfl o_) ⟨rfl,bR⟩
  ·have c:=oS f;exact aJ (by rw[cE (.inl c),t]) ⟨rfl,bR⟩
  ·have c:=oS f;obtain⟨u,j,rfl⟩:=nE e 2 11;exact aJ (ft (m:=4) (n:=8) c (aB j) rfl rfl o_ o_).1 ⟨rfl,bR⟩
  ·have c:=oS f;exact aJ (by rw[cE (.inl c),t]) ⟨rfl,bR⟩
  ·have c:=oS f;obtain⟨u,j,rfl⟩:=nE e 4 13;exact aJ (ft (m:=8) (n:=24) c (aB j) rfl rfl o_ o_).1 ⟨rfl,bR⟩
  ·have c:=oS f;exact aJ (by rw[cE (.inl c),t]) ⟨rfl,bR⟩
  ·have c:=oS f;obtain⟨u,j,rfl⟩:=nE e 6 15;exact aJ (wX (n:=24) c (aB j) rfl o_) ⟨rfl,bR⟩
  ·have c:=oS f;obtain⟨M,y,rfl⟩:=nE e 1 10;obtain⟨L,x,rfl⟩:=nE e 3 12;obtain⟨F,k,rfl⟩:=nE e 5 14;obtain⟨J,v,rfl⟩:=nE e 7 16;exact aJ (GM c (aB y) (aB x) (aB k) (aB v)) ⟨rfl,bR⟩
  ·have c:=oS f;exact aJ (BE c) ⟨⟨w'.heap.size,rfl,I.size,bJ w' _⟩,aV w' _⟩
 ·obtain⟨u,j,b4,rfl,l,q⟩:=r.come 9 4 rfl trivial;obtain⟨F,k,rfl⟩:=r.come 8 17 rfl trivial;exact .inl ⟨rfl,b4,l,r.old,q,(r.base.more k).more j⟩
 ·rcases B with⟨rfl,b4,l,q,s,g⟩|⟨rfl,_⟩
  ·refine Rn.does0 g (.store 145 (.tmp 4) (.tmp 17)) k_ s_ (λo f=>cZ f (g.get (d:=4) rfl) (g.get (d:=17) rfl) s zC rfl (by simp[Va])) λa g=>z a _ (.inr ⟨rfl,b4,l,q.trans (eo w' b4 _ l),setRow_heap w' b4 _ _ _ _ s,g.only ⟨rfl,rfl,rfl,trivial⟩⟩)
  ·exact absurd (gA f).1 d_
 ·rcases B with⟨h,_⟩|⟨_,b4,l,q,s,g⟩
  ·exact absurd h d_
  ·exact next a w' b4 l q s g
def A6(f:Func):Code:= .seq (.seq (rG f 10) (.block 1 (.seq (rG f 12) (.cond (.tmp 32) (rG f 13) (.seq (rG f 14) (.cond (.tmp 37) (rG f 15) (.seq (rG f 16) (.cond (.tmp 42) (rG f 17) (.seq (rG f 11) .ret))))))))) (.seq (rG f 18) .ret)
def Gs(f:Func):Code:= .seq (.seq (rG f 4) (.block 0 (.seq (rG f 6) (.cond (.tmp 22) (rG f 7) (.seq (rG f 8) (.cond (.tmp 25) (rG f 9) (.seq (rG f 5) .ret))))))) (A6 f)
theorem PK:Tryz.f97.body=some (.seq (rG Tryz.f97 0) (.seq (.seq (rG Tryz.f97 1) (.cond (.tmp 7) (.seq (rG Tryz.f97 2) .ret) .skip)) (.seq (rD Tryz.f97 3) (Gs Tryz.f97)))):=k_
def N1(b:ByteArray)(w0:World)(e:Ending)(w':World):Prop:=((i5 b/\e= .returned (.tuple #[.agg (ip b).key, .bool true]))\/(¬i5 b/\e= .returned (.tuple #[.agg gD, .bool false])))/\Bw w0 w'
def ra(b:ByteArray)(w0:World)(cs:List Frame)(g:Goroutine)(w':World):Prop:=∃(a:Act) (k:List Item) (bk:Nat) (cells:Array Value) (tt:TypeId) (v:Value),g=cJ {(base 97).atR a k with mode:= .returning} cs/\a.defers=[]/\a.tmps[2]?=some (.pk bk 0)/\w'.heap[bk]?=some (.cells cells tt)/\cells.size=8/\a.tmps[3]?=some v/\N1 b w0 (.returned (.tuple #[.agg cells,v])) w'
section
variable{b:ByteArray}{k:List Item}
theorem J0(id d:Nat)(h:d<48/\d≠2)(f:¬i5 b)(c:aW [(2, .pt w0.heap.size)] 48 [] a)(i:w.heap[w0.heap.size]?=some (.cells gD 145))(e:Bw w0 w)(j:U5 (bV Tryz.f97 id).size=[0,1,2])
 (n:((bV Tryz.f97 id)[0]?).map (λo=>(o.dst,o.op,o.guard))=some (some d, .build 145 #[],none)) (m:((bV Tryz.f97 id)[1]?).map (λo=>(o.dst,o.op,o.guard))=some (none, .store 145 (.tmp 2) (.tmp d),none)) (l:((bV Tryz.f97 id)[2]?).map (λo=>(o.dst,o.op,o.guard))=some (some 3, .assign (.const (.bool false)),none)):
 Rn lT (ra b w0 cs) ((base 97).atR a (.code (.seq (rG Tryz.f97 id) .ret)::k)) cs w:=by
 refine Rn.p rfl (Rn.r j ?_);refine Rn.op c d (.build 145 #[]) h.1 n s_ (λo g=>GK g) λa c=> ?_;have p:((d,WQ gD)::[(2, .pt w0.heap.size)]:List (Nat×Value)).lookup 2=some (.pk w0.heap.size 0):=by simp[TU,show(2==d)=false from by simpa using UP h.2]
 refine Rn.does0 c (.store 145 (.tmp 2) (.tmp d)) m s_ (λo g=>cZ (cells:=gD) g (c.get (d:=2) p) (c.get (d:=d) (by simp[TU])) i zC rfl (by simp[gD,Va])) λa c=> ?_;refine Rn.asc c 3 (.bool false) d_ l λa c=> ?_;refine Rn.p rfl (Rn.ends rfl (.inr ⟨_,rfl⟩) (Rn.now ⟨a,_,w0.heap.size,gD,145, .bool false,rfl,c.defers,c.slot 2 _ ?_,setRow_heap w _ _ _ _ _ i,rfl,c.slot 3 _ (by simp[TU]), .inr ⟨f,rfl⟩,e.trans (eo _ _ _ (TB _))⟩));simp[TU,show(2==d)=false from by simpa using UP h.2]
theorem OD(f:i5 b)(c:aW [(2, .pt w0.heap.size),(4, .pt b4)] 48 [] a)(i:w.heap[w0.heap.size]?=some (.cells gD 145))(e:Bw w0 w)(h:w.heap[b4]?=some (.cells (ip b).key 145)):
 Rn (aI true tP) (ra b w0 cs) ((base 97).atR a (.code (.seq (rG Tryz.f97 18) .ret)::k)) cs w:=by refine Rn.vv c (λo g=>ig (s:=ip b) g (c.get (d:=4) rfl) h λ_ _=>rfl) λa c=> ?_;refine Rn.nn c (λo g=>cZ g (c.get (d:=2) rfl) (c.get (d:=47) rfl) i zC rfl (by simp[dp.key,Va])) λa c=> ?_;refine Rn.uu c λa c=> ?_;exact Rn.p rfl (Rn.ends rfl (.inr ⟨_,rfl⟩) (Rn.now ⟨a,_,w0.heap.size,(ip b).key,145, .bool true,rfl,c.defers,c.slot 2 _ rfl,setRow_heap w _ _ _ _ _ i,rfl,c.slot 3 _ rfl, .inl ⟨f,rfl⟩,e.trans (eo _ _ _ (TB _))⟩))
def Sq(b:ByteArray)(h w c s:Int):Array Value:=#[.string (b.extract 0 4), .string (b.extract 4 8), .string (b.extract 8 24), .string (b.extract 24 b.size), .int .i64 h, .int .i64 w, .int .i64 c, .int .i64 s]
theorem Hb(F:b.size=56)(G:gP (cU b 0 4)≠0)(c:aW [(2, .pt w0.heap.size),(4, .pt b4)] 48 [] a)(L:w.heap[w0.heap.size]?=some (.cells gD 145))(l:Bw w0 w)(n:w.heap[b4]?=some (.cells (Sq b (gP (cU b 0 4)) 0 0 0) 145))(Q:w0.heap.size<b4):
 Rn lT (ra b w0 cs) ((base 97).atR a (.code (A6 Tryz.f97)::k)) cs w:=by
 have D:(b.extract 4 8).size<=8:=by rw[TT];omega
 refine Rn.vv c (λo P=>ey 1 d_ P (c.G 4)) λa c=> ?_;refine Rn.uu c λa c=> ?_;refine Rn.cl c Lf.func81 (R:=λv K=>v= .int .u64 (cU b 4 8)/\K=w) ((eM (b.extract 4 8) w D).mono λe K h=>⟨_,h.1,rfl,h.2⟩) λv N O a c=> ?_;obtain⟨rfl,rfl⟩:=O;have q:∀(a:Act) (m:World),i5 b->(ip b).key=Sq b (gP (cU b 0 4)) (kl (cU b 4 8)) (nw (cU b 4 8)) (mO (cU b 4 8))->m.heap[b4]?=some (.cells (Sq b (gP (cU b 0 4)) (kl (cU b 4 8)) (nw (cU b 4 8)) (mO (cU b 4 8))) 145)->(∀M,M<=b4->Below M N m)->aW [(2, .pt w0.heap.size),(4, .pt b4)] 48 [] a->
  Rn lT (ra b w0 cs) ((base 97).atR a (.code (.seq (rG Tryz.f97 18) .ret)::k)) cs m:=by intro a m E s p S c;have t:=S (w0.heap.size+1) o_;exact OD E c ((t.block _ o_).trans L) (l.trans (t.mono o_)) (by rw[s];exact p)
 iterate 2 refine Rn.uu c λa c=> ?_
 refine Rn.p rfl (Rn.cond _ (c.G 32) ?_);have I:∀(x y:Int) (h:x=y),(x==y)=true:=λx y h=>by simpa using h
 have H:∀(x y:Int) (h:x≠y),(x==y)=false:=λx y h=>by simpa using h
 by_cases C:cU b 4 8=2
 ·rw[I _ _ C];have c:aW [(2, .pt w0.heap.size),(4, .pt b4)] 48 [] a:=c.only ⟨rfl,rfl,trivial⟩;refine Rn.gr ?_;refine jp c 34 4 5 2 d_ d_ rfl k_ k_ n rfl (λa m c z j=> ?_) rfl;refine jp c 35 4 6 133 d_ d_ rfl k_ k_ z rfl (λa J c u i=> ?_) rfl;refine jp c 36 4 7 6 d_ d_ rfl k_ k_ u rfl (λa r c p g=> ?_) rfl;have d:kl (cU b 4 8)=2/\nw (cU b 4 8)=133/\mO (cU b 4 8)=6:=by rw[C];decide
  refine Rn.p rfl (Rn.p rfl (q a r ⟨F,G,by rw[d.1];decide⟩ rfl ?_ (λM f=>((j M f).trans (i M f)).trans (g M f)) c));rw[d.1,d.2.1,d.2.2];exact p
 rw[H _ _ C]
 iterate 2 refine Rn.uu c λa c=> ?_
 refine Rn.p rfl (Rn.cond _ (c.G 37) ?_);by_cases B:cU b 4 8=3
 ·rw[I _ _ B];have c:aW [(2, .pt w0.heap.size),(4, .pt b4)] 48 [] a:=c.only ⟨rfl,rfl,trivial⟩;refine Rn.gr ?_;refine jp c 39 4 5 4 d_ d_ rfl k_ k_ n rfl (λa m c z j=> ?_) rfl;refine jp c 40 4 6 67 d_ d_ rfl k_ k_ z rfl (λa J c u i=> ?_) rfl;refine jp c 41 4 7 4 d_ d_ rfl k_ k_ u rfl (λa r c p g=> ?_) rfl;have d:kl (cU b 4 8)=4/\nw (cU b 4 8)=67/\mO (cU b 4 8)=4:=by rw[B];decide
  refine Rn.p rfl (Rn.p rfl (q a r ⟨F,G,by rw[d.1];decide⟩ rfl ?_ (λM f=>((j M f).trans (i M f)).trans (g M f)) c));rw[d.1,d.2.1,d.2.2];exact p
 rw[H _ _ B]
 iterate 2 refine Rn.uu c λa c=> ?_
 refine Rn.p rfl (Rn.cond _ (c.G 42) ?_);by_cases A:cU b 4 8=4
 ·rw[I _ _ A];have c:aW [(2, .pt w0.heap.size),(4, .pt b4)] 48 [] a:=c.only ⟨rfl,rfl,trivial⟩;refine Rn.gr ?_;refine jp c 44 4 5 8 d_ d_ rfl k_ k_ n rfl (λa m c z j=> ?_) rfl;refine jp c 45 4 6 34 d_ d_ rfl k_ k_ z rfl (λa J c u i=> ?_) rfl;refine jp c 46 4 7 0 d_ d_ rfl k_ k_ u rfl (λa r c p g=> ?_) rfl;have d:kl (cU b 4 8)=8/\nw (cU b 4 8)=34/\mO (cU b 4 8)=0:=by rw[A];decide
  refine Rn.p rfl (Rn.p rfl (q a r ⟨F,G,by rw[d.1];decide⟩ rfl ?_ (λM f=>((j M f).trans (i M f)).trans (g M f)) c));rw[d.1,d.2.1,d.2.2];exact p
 rw[H _ _ A];refine J0 11 31 d_ (λh=>h.2.2 ?_) (c.only ⟨rfl,trivial⟩) L l rfl k_ k_ k_;simp[kl,C,B,A]
theorem Eo(t:b.size=56)(c:aW [(2, .pt w0.heap.size),(4, .pt b4)] 48 [] a)(q:w.heap[w0.heap.size]?=some (.cells gD 145))(d:Bw w0 w)(j:w.heap[b4]?=some (.cells (Sq b 0 0 0 0) 145))(i:w0.heap.size<b4):
 Rn lT (ra b w0 cs) ((base 97).atR a (.code (Gs Tryz.f97)::k)) cs w:=by
 have p:(b.extract 0 4).size<=8:=by rw[TT];omega
 refine Rn.vv c (λo C=>ey 0 d_ C (c.G 4)) λa c=> ?_;refine Rn.uu c λa c=> ?_;refine Rn.cl c Lf.func81 (R:=λv s=>v= .int .u64 (cU b 0 4)/\s=w) ((eM (b.extract 0 4) w p).mono λe s h=>⟨_,h.1,rfl,h.2⟩) λv D B a c=> ?_;obtain⟨rfl,rfl⟩:=B;have z:∀(x y:Int) (h:x=y),(x==y)=true:=λx y h=>by simpa using h
 have u:∀(x y:Int) (h:x≠y),(x==y)=false:=λx y h=>by simpa using h
 iterate 2 refine Rn.uu c λa c=> ?_
 refine Rn.p rfl (Rn.cond _ (c.G 22) ?_);by_cases n:cU b 0 4=5
 ·rw[z _ _ n];have c:aW [(2, .pt w0.heap.size),(4, .pt b4)] 48 [] a:=c.only ⟨rfl,rfl,trivial⟩;refine Rn.gr ?_;refine jp c 24 4 4 5 d_ d_ rfl k_ k_ j rfl (λa A c r g=> ?_) rfl;have l:gP (cU b 0 4)=5:=by rw[n];decide
  have f:=g (w0.heap.size+1) o_;refine Rn.p rfl (Rn.p rfl (Hb t (by rw[l];decide) c ((f.block _ o_).trans q) (d.trans (f.mono o_)) ?_ i));rw[l];exact r
 rw[u _ _ n]
 iterate 2 refine Rn.uu c λa c=> ?_
 refine Rn.p rfl (Rn.cond _ (c.G 25) ?_);by_cases m:cU b 0 4=226
 ·rw[z _ _ m];have c:aW [(2, .pt w0.heap.size),(4, .pt b4)] 48 [] a:=c.only ⟨rfl,rfl,trivial⟩;refine Rn.gr ?_;refine jp c 27 4 4 2 d_ d_ rfl k_ k_ j rfl (λa A c r g=> ?_) rfl;have l:gP (cU b 0 4)=2:=by rw[m];decide
  have f:=g (w0.heap.size+1) o_;refine Rn.p rfl (Rn.p rfl (Hb t (by rw[l];decide) c ((f.block _ o_).trans q) (d.trans (f.mono o_)) ?_ i));rw[l];exact r
 rw[u _ _ m];refine J0 5 21 d_ (λh=>h.2.1 ?_) (c.only ⟨rfl,trivial⟩) q d rfl k_ k_ k_;simp[gP,n,m]
end
theorem yN(b:ByteArray)(w:World):Calls lT 97 #[.s b] w (N1 b w):=by
 refine pV (t:=2) (u:=3) (ty:=145) (n:=8) Lf.func97 rfl Lf.underlying145 rfl zC λi=> ?_;show Rn _ (ra b w i) _ i w;rw[aZ (N:=48) [.s b] Lf.func97 PK rfl];have c:=aQ [.s b] 48 s_;refine Rn.al c (λo k=>BE k) λp a d f j c=> ?_
 iterate 4 refine Rn.uu c λa c=> ?_
 refine Rn.p rfl (Rn.cond _ (c.G 7) ?_);by_cases e:b.size=56
 ·rw[show((b.size:Int) !=56)=false from by simp;omega];refine Rn.p rfl (Rn.p rfl ?_);refine OR e (c.only ⟨rfl,rfl,trivial⟩) λa m r q g l c=> ?_;exact Eo e (c.only ⟨rfl,rfl,trivial⟩) ((g.block _ o_).trans f) (aE d o_ g) l o_
 ·rw[show((b.size:Int) !=56)=true from by simp;omega];exact J0 2 8 d_ (λh=>e h.1) (c.only ⟨rfl,trivial⟩) f d rfl k_ k_ k_
end L1
section
open Go
def gC:Array Value:=#[.string ⟨#[]⟩, .string ⟨#[]⟩, .string ⟨#[]⟩, .string ⟨#[]⟩, .int .i64 0, .int .i64 0, .int .i64 0, .int .i64 0, .int .i64 0, .string ⟨#[]⟩, .string ⟨#[]⟩, .string ⟨#[]⟩]
def kT(k:dp)(h n:Nat)(b:ByteArray):Prop:=b.size=44+32*n+32*h/\cU b 0 4<2^h/\(b.extract 4 8).data.toList=k.chains.data.toList/\(b.extract (40+32*n) (44+32*n)).data.toList=k.tree.data.toList
def wP(k:dp)(n:Nat)(b:ByteArray):dp:={k with q:=cU b 0 4,salt:=b.extract 8 40,links:=b.extract 40 (40+32*n),path:=b.extract (44+32*n) b.size}
end
namespace L1
open Go.Conc Go.RowKit
section
variable{y z u v:Operand}{m n:Int}
theorem xa{a b:ByteArray}(c:o.op= .binOp .neq 9 x y t)(e:ev x= .s a)(d:ev y= .s b):(execOp ev o).run lT w= .ok (.value (.bool (a.data.toList !=b.data.toList))) w:=by have g:=Xp a;have f:=Xp b;simp[execOp,c,e,d,go_sem,g,f,bne]
theorem KE(a:o.op= .binOp .geq 67 x y t)(c:ev x= .int .u64 m)(b:ev y= .int .u64 n):(execOp ev o).run lT w= .ok (.value (.bool (decide (m≥n)))) w:=by simp[execOp,a,c,b,go_sem]
theorem Kv(a:o.op= .binOp .shl 67 x y t)(c:ev x= .int .u64 m)(b:ev y= .i k)(h:k<=64)(d:0<=m*2^k/\m*2^k<18446744073709551616):(execOp ev o).run lT w= .ok (.value (.int .u64 (m*2^k))) w:=by
 have e:UV.wrap (m*2^k)=m*2^k:=by rw[Vz];omega
 simp[execOp,a,c,b,go_sem,e]
theorem GP(a:o.op= .convert 67 3 x)(b:ev x= .int .u64 m)(h:0<=m/\m<9223372036854775808):(execOp ev o).run lT w= .ok (.value (.i m)) w:=by
 have d:lT.underlying 67=some (.int .u64):=k_
 have c:lT.underlying 3=some (.int .i64):=k_
 have e:U2.wrap m=m:=by rw[TR];omega
 simp[execOp,a,b,go_sem,d,c,e]
theorem GJ(a:o.op= .build 149 #[]):(execOp ev o).run lT w= .ok (.value (.agg gC)) w:=by
 have e:execOp ev o=(do pure (.value (←Uj 149 #[]))):=by simp[execOp,a]
 have b:(do pure (.value (←Uj 149 #[])):Sem Next).run lT w= .ok (.value (.agg gC)) w:=k_
 rw[e,b]
theorem HI(a:o.op= .alloc 149):(execOp ev o).run lT w= .ok (.value (.pk w.heap.size 0)) (w.alloc (.cells gC 149)):=by
 have e:execOp ev o=(do pure (.value (←Uo 149 true (.tuple #[])))):=by simp only[execOp,a]
 have b:(do pure (.value (←Uo 149 true (.tuple #[]))):Sem Next).run lT w= .ok (.value (.pk w.heap.size 0)) (w.alloc (.cells gC 149)):=k_
 rw[e,b]
theorem NS{s:dp}(a:o.op= .build 149 #[(0,x),(1,y),(2,z),(3,u),(4,v)])(g:ev x= .agg s.key)(b:ev y= .i s.q)(f:ev z= .s s.salt)(d:ev u= .s s.links)(c:ev v= .s s.path):
 (execOp ev o).run lT w= .ok (.value (.agg s.cells)) w:=by
 have e:execOp ev o=(do pure (.value (←Uj 149 #[(0, .agg s.key),(1, .i s.q),(2, .s s.salt),(3, .s s.links),(4, .s s.path)]))):=by simp[execOp,a,g,b,f,d,c]
 have b:(do pure (.value (←Uj 149 #[(0, .agg s.key),(1, .i s.q),(2, .s s.salt),(3, .s s.links),(4, .s s.path)])):Sem Next).run lT w= .ok (.value (.agg s.cells)) w:=k_
 rw[e,b]
end
theorem Dy:(lT.info? 149).map (·.size)=some 12:=k_
end L1
section
open Go
theorem nL{tmps:Array Value}{g d:Nat}{a:Bool}(b:o.guard=some (g,a))(c:(ops[g]?).bind (·.dst)=some d)(hv:tmps[d]?=some (.bool q)):TD o (yielded ops tmps)=(q==a):=by unfold TD yielded;rw[b];simp[c,hv]
end
namespace L1
open Go.Conc Go.RowKit
def T7(k:dp)(b:ByteArray)(N H2 h T:Nat)(c1 n1 n2:Bool):Nat->Value->World->Prop
 |0,v,_=>v= .int .u64 (cU b 0 4)
 |1,v,_=>v= .pk N 4
 |2,v,_=>v= .int .i64 h
 |3,v,_=>v= .int .u64 (H2:Int)
 |4,v,_=>v= .bool c1
 |5,v,_=>v= .bool c1
 |6,v,_=>c1=false->v= .string b
 |7,v,_=>c1=false->v= .string (b.extract 4 8)
 |8,v,_=>c1=false->v= .pk N 1
 |9,v,_=>c1=false->v= .string k.chains
 |10,v,_=>c1=false->v= .bool n1
 |11,v,_=>v= .bool (c1||n1)
 |12,v,_=>v= .bool (c1||n1)
 |13,v,_=>(c1||n1)=false->v= .string b
 |14,v,_=>(c1||n1)=false->v= .int .i64 T
 |15,v,_=>(c1||n1)=false->v= .int .i64 ((T+4:Nat):Int)
 |16,v,_=>(c1||n1)=false->v= .string (b.extract T (T+4))
 |17,v,_=>(c1||n1)=false->v= .pk N 0
 |18,v,_=>(c1||n1)=false->v= .string k.tree
 |19,v,_=>(c1||n1)=false->v= .bool n2
 |_,v,_=>v= .bool (c1||n1||n2)
theorem Is{k:dp}{b:ByteArray}{H2 h T:Nat}{c1 n1 n2:Bool}(m:Nat)(v:Value)(w w':World)(a:T7 k b N H2 h T c1 n1 n2 m v w):T7 k b N H2 h T c1 n1 n2 m v w':=by
 match m,a with
 |0,h|1,h|2,h|3,h|4,h|5,h|6,h|7,h|8,h|9,h|10,h|11,h|12,h|13,h|14,h|15,h|16,h|17,h|18,h|19,h|_+20,h=>exact h
section
variable{k:dp}{b:ByteArray}{H2 h T:Nat}{c1 n1 n2:Bool}
theorem OQ(U:H2=2^h)(hh:k.height=h)(a2:h<=8)(a5:H2<=256)(hb:T+4<=b.size)(a4:8<=b.size)(Q:c1=decide (cU b 0 4≥(H2:Int)))(P:n1=((b.extract 4 8).data.toList !=k.chains.data.toList))(O:n2=((b.extract T (T+4)).data.toList !=k.tree.data.toList))
 (E:w.heap[N]?=some (.cells k.key 145)) (W:aW [(1, .s b),(2, .pt N),(6, .i T),(7, .i ((T+4:Nat):Int)),(8, .int .u64 (cU b 0 4)),(4, .pt (N+1))] 61 [] a)
 (next:∀a w',Bw w w'->aW [(47, .bool (c1||n1||n2)),(1, .s b),(2, .pt N),(6, .i T),(7, .i ((T+4:Nat):Int)),(8, .int .u64 (cU b 0 4)),(4, .pt (N+1))] 61 [] a->Rn lT Goal ((base 98).atR a K) cs w'):
 Rn lT Goal ((base 98).atR a (.code (rD Tryz.f98 6)::K)) cs w:=by
 refine Rn.growsG (fx:=[(1, .s b),(2, .pt N),(6, .i T),(7, .i ((T+4:Nat):Int)),(8, .int .u64 (cU b 0 4)),(4, .pt (N+1))]) (ds:=[27,28,29,30,31,32,33,34,35,36,37,38,39,40,41,42,43,44,45,46,47]) (N:=61) (df:=[]) (G:=T7 k b N H2 h T c1 n1 n2) k_ k_ (λm v w w' hg _=>Is m v w w' hg) (λm o a w' hm s S a0 D c=> ?_)
  (λm a w'=>m=21/\Bw w w'/\aW [(47, .bool (c1||n1||n2)),(1, .s b),(2, .pt N),(6, .i T),(7, .i ((T+4:Nat):Int)),(8, .int .u64 (cU b 0 4)),(4, .pt (N+1))] 61 [] a)
  (λa w' V=> ?_) (λm o a w' Z hm s J a3=> ?_) (λa w' J=> ?_) W.defers W.size (W.all s_)
 ·have f1:=aB (D _ (mG (i:=0) rfl));have Y:=aB (D _ (mG (i:=1) rfl));have f6:=aB (D _ (mG (i:=2) rfl));have f7:=aB (D _ (mG (i:=3) rfl));have f8:=aB (D _ (mG (i:=4) rfl));have B:=(S.block N (gA E).1).trans E;have first:∀{o:Oper} {R:Value->World->Prop} (q:Bool) (g d:Nat),o.guard=some (g,false)->((bV Tryz.f98 6)[g]?).bind (·.dst)=some d->a.tmps[d]?=some (.bool q)->(q=false->sq lT a o w' R)->(q=true->R undef w')->AF lT (bV Tryz.f98 6) a o w' R:=λ{o R} q g d z I X h4 h5=>by
   have hw:=nL (ops:=bV Tryz.f98 6) (tmps:=a.tmps) z I X;cases q with
   |false=>exact .inl ⟨hw,h4 rfl⟩
   |true=>exact .inr ⟨hw,h5 rfl⟩
  have t:∀{m:Nat} {o:Oper} {d:Option Tmp} {p:Op} {g:Nat},(bV Tryz.f98 6)[m]?=some o->((bV Tryz.f98 6)[m]?).map (λo=>(o.dst,o.op,o.guard))=some (d,p,some (g,false))->o.op=p/\o.guard=some (g,false):=λ{m o d p g} s C=>by rw[s]at C;simp only[TE,Option.some.injEq,Prod.mk.injEq]at C;exact⟨C.2.1,C.2.2⟩
  have a1:m<21:=hm;rcases(o_:m=0\/m=1\/m=2\/m=3\/m=4\/m=5\/m=6\/m=7\/m=8\/m=9\/m=10\/m=11\/m=12\/m=13\/m=14\/m=15\/m=16\/m=17\/m=18\/m=19\/m=20)with rfl|rfl|rfl|rfl|rfl|rfl|rfl|rfl|rfl|rfl|rfl|rfl|rfl|rfl|rfl|rfl|rfl|rfl|rfl|rfl|rfl
  ·obtain⟨F,f,A⟩:=oQ s;exact .inl ⟨A _,aJ (by rw[cE (.inl f),f8]) ⟨rfl,bR⟩⟩
  ·obtain⟨F,f,A⟩:=oQ s;exact .inl ⟨A _,aJ (ey 4 d_ f Y) ⟨rfl,bR⟩⟩
  ·obtain⟨F,f,A⟩:=oQ s;obtain⟨u,j,rfl⟩:=nE c 1 28;exact .inl ⟨A _,aJ (aO (v:= .i h) ce f (aB j) ((aG B 4).trans (by rw[←hh];rfl))).1 ⟨rfl,bR⟩⟩
  ·obtain⟨F,f,A⟩:=oQ s;obtain⟨u,j,rfl⟩:=nE c 2 29;have hp:(1:Int)*2^h=(H2:Int):=(by rw[aa3,U,UY];rfl);refine .inl ⟨A _,aJ (Kv (m:=1) (k:=h) f rfl (aB j) o_ (by rw[hp];omega)) ⟨?_,bR⟩⟩;rw[hp];rfl
  ·obtain⟨F,f,A⟩:=oQ s;obtain⟨u,j,rfl⟩:=nE c 0 27;obtain⟨L,y,rfl⟩:=nE c 3 30;exact .inl ⟨A _,aJ (KE f (aB j) (aB y)) ⟨by rw[Q];rfl,bR⟩⟩
  ·obtain⟨F,f,A⟩:=oQ s;obtain⟨u,j,rfl⟩:=nE c 4 31;exact .inl ⟨A _,sf (.inl f) j ⟨rfl,bR⟩⟩
  ·obtain⟨f,x⟩:=t (d:=some 33) (p:= .move (.tmp 1)) s k_;obtain⟨u,j,rfl⟩:=nE c 5 32;exact first c1 5 32 x k_ j (λ_=>aJ (by rw[cE (.inl f),f1]) ⟨λ_=>rfl,bR⟩) λe=>⟨λl=>(by rw[e]at l;cases l),bR⟩
  ·obtain⟨f,x⟩:=t (d:=some 34) (p:= .slice 9 (.tmp 33) (some (.const (.i 4))) (some (.const (.i 8))) none) s k_;obtain⟨u,j,rfl⟩:=nE c 5 32;obtain⟨H,r,z⟩:=nE c 6 33;exact first c1 5 32 x k_ j (λe=>aJ (ft (m:=4) (n:=8) f ((aB r).trans (z e)) rfl rfl o_ o_).1 ⟨λ_=>rfl,bR⟩) λe=>⟨λl=>(by rw[e]at l;cases l),bR⟩
  ·obtain⟨f,x⟩:=t (d:=some 35) (p:= .fieldAddr 145 (.tmp 2) 1) s k_;obtain⟨u,j,rfl⟩:=nE c 5 32;exact first c1 5 32 x k_ j (λ_=>aJ (ey 1 d_ f Y) ⟨λ_=>rfl,bR⟩) λe=>⟨λl=>(by rw[e]at l;cases l),bR⟩
  ·obtain⟨f,x⟩:=t (d:=some 36) (p:= .load 9 (.tmp 35)) s k_;obtain⟨u,j,rfl⟩:=nE c 5 32;obtain⟨H,r,z⟩:=nE c 8 35;exact first c1 5 32 x k_ j (λe=>aJ (aO (v:= .s k.chains) bN f ((aB r).trans (z e)) ((aG B 1).trans rfl)).1 ⟨λ_=>rfl,bR⟩) λe=>⟨λl=>(by rw[e]at l;cases l),bR⟩
  ·obtain⟨f,x⟩:=t (d:=some 37) (p:= .binOp .neq 9 (.tmp 34) (.tmp 36) 9) s k_;obtain⟨u,j,rfl⟩:=nE c 5 32;obtain⟨H,r,z⟩:=nE c 7 34;obtain⟨L,y,I⟩:=nE c 9 36;exact first c1 5 32 x k_ j (λe=>aJ (xa f ((aB r).trans (z e)) ((aB y).trans (I e))) ⟨λ_=>by rw[P],bR⟩) λe=>⟨λl=>(by rw[e]at l;cases l),bR⟩
  ·obtain⟨F,f,A⟩:=oQ s;obtain⟨u,j,rfl⟩:=nE c 5 32;obtain⟨H,r,z⟩:=nE c 10 37;refine .inl ⟨A _,aJ (tw f (aB j)) ⟨?_,bR⟩⟩;cases e:c1 with
   |true=>rfl
   |false=>exact(aB r).trans (z e)
  ·obtain⟨F,f,A⟩:=oQ s;obtain⟨u,j,rfl⟩:=nE c 11 38;exact .inl ⟨A _,sf (.inl f) j ⟨rfl,bR⟩⟩
  ·obtain⟨f,x⟩:=t (d:=some 40) (p:= .move (.tmp 1)) s k_;obtain⟨u,j,rfl⟩:=nE c 12 39;exact first (c1||n1) 12 39 x k_ j (λ_=>aJ (by rw[cE (.inl f),f1]) ⟨λ_=>rfl,bR⟩) λe=>⟨λl=>(by rw[e]at l;cases l),bR⟩
  ·obtain⟨f,x⟩:=t (d:=some 41) (p:= .move (.tmp 6)) s k_;obtain⟨u,j,rfl⟩:=nE c 12 39;exact first (c1||n1) 12 39 x k_ j (λ_=>aJ (by rw[cE (.inl f),f6]) ⟨λ_=>rfl,bR⟩) λe=>⟨λl=>(by rw[e]at l;cases l),bR⟩
  ·obtain⟨f,x⟩:=t (d:=some 42) (p:= .move (.tmp 7)) s k_;obtain⟨u,j,rfl⟩:=nE c 12 39;exact first (c1||n1) 12 39 x k_ j (λ_=>aJ (by rw[cE (.inl f),f7]) ⟨λ_=>rfl,bR⟩) λe=>⟨λl=>(by rw[e]at l;cases l),bR⟩
  ·obtain⟨f,x⟩:=t (d:=some 43) (p:= .slice 9 (.tmp 40) (some (.tmp 41)) (some (.tmp 42)) none) s k_;obtain⟨u,j,rfl⟩:=nE c 12 39;obtain⟨H,r,z⟩:=nE c 13 40;obtain⟨L,y,I⟩:=nE c 14 41;obtain⟨u3,M,X⟩:=nE c 15 42;exact first (c1||n1) 12 39 x k_ j (λe=>aJ (ft (m:=T) (n:=T+4) f ((aB r).trans (z e)) ((aB y).trans (I e)) ((aB M).trans (X e)) o_ hb).1 ⟨λ_=>rfl,bR⟩) λe=>⟨λl=>(by rw[e]at l;cases l),bR⟩
  ·obtain⟨f,x⟩:=t (d:=some 44) (p:= .fieldAddr 145 (.tmp 2) 0) s k_;obtain⟨u,j,rfl⟩:=nE c 12 39;exact first (c1||n1) 12 39 x k_ j (λ_=>aJ (ey 0 d_ f Y) ⟨λ_=>rfl,bR⟩) λe=>⟨λl=>(by rw[e]at l;cases l),bR⟩
  ·obtain⟨f,x⟩:=t (d:=some 45) (p:= .load 9 (.tmp 44)) s k_;obtain⟨u,j,rfl⟩:=nE c 12 39;obtain⟨H,r,z⟩:=nE c 17 44;exact first (c1||n1) 12 39 x k_ j (λe=>aJ (aO (v:= .s k.tree) bN f ((aB r).trans (z e)) ((aG B 0).trans rfl)).1 ⟨λ_=>rfl,bR⟩) λe=>⟨λl=>(by rw[e]at l;cases l),bR⟩
  ·obtain⟨f,x⟩:=t (d:=some 46) (p:= .binOp .neq 9 (.tmp 43) (.tmp 45) 9) s k_;obtain⟨u,j,rfl⟩:=nE c 12 39;obtain⟨H,r,z⟩:=nE c 16 43;obtain⟨L,y,I⟩:=nE c 18 45;exact first (c1||n1) 12 39 x k_ j (λe=>aJ (xa f ((aB r).trans (z e)) ((aB y).trans (I e))) ⟨λ_=>by rw[O],bR⟩) λe=>⟨λl=>(by rw[e]at l;cases l),bR⟩
  ·obtain⟨F,f,A⟩:=oQ s;obtain⟨u,j,rfl⟩:=nE c 12 39;obtain⟨H,r,z⟩:=nE c 19 46;refine .inl ⟨A _,aJ (tw f (aB j)) ⟨?_,bR⟩⟩;show _=Value.bool ((c1||n1)||n2);cases e:(c1||n1)with
   |true=>rfl
   |false=>exact(aB r).trans (z e)
 ·obtain⟨u,j,y⟩:=V.come 20 47 rfl trivial;obtain rfl:=y;exact⟨rfl,V.old,V.base.more j⟩
 ·exact absurd (gA s).1 (by obtain⟨rfl,_⟩:=J;decide)
 ·exact next a w' J.2.1 J.2.2
end
def Qf(k:dp)(b:ByteArray)(T:Nat)(s:dp):Nat->Value->World->Prop
 |0,v,_=>v= .agg k.key
 |1,v,_=>v= .int .u64 (cU b 0 4)
 |2,v,_=>v= .int .i64 (cU b 0 4)
 |3,v,_=>v= .string b
 |4,v,_=>v= .string (b.extract 8 40)
 |5,v,_=>v= .string b
 |6,v,_=>v= .int .i64 T
 |7,v,_=>v= .string (b.extract 40 T)
 |8,v,_=>v= .string b
 |9,v,_=>v= .int .i64 ((T+4:Nat):Int)
 |10,v,_=>v= .string (b.extract (T+4) b.size)
 |_,v,_=>v= .agg s.cells
theorem Fx{k:dp}{b:ByteArray}{T:Nat}{s:dp}(m:Nat)(v:Value)(w w':World)(a:Qf k b T s m v w):Qf k b T s m v w':=by
 match m,a with
 |0,h|1,h|2,h|3,h|4,h|5,h|6,h|7,h|8,h|9,h|10,h|_+11,h=>exact h
section
variable{k s:dp}{b:ByteArray}{T:Nat}
theorem LJ(hs:s=wP k n b)(U:T=40+32*n)(Y:T+4<=b.size)(V:0<=cU b 0 4/\cU b 0 4<9223372036854775808)(r:w.heap[N]?=some (.cells k.key 145))(q:w.heap[N+1]?=some (.cells gC 149))(g:aW [(1, .s b),(2, .pt N),(6, .i T),(7, .i ((T+4:Nat):Int)),(8, .int .u64 (cU b 0 4)),(4, .pt (N+1))] 61 [] a)
 (next:∀a w',Below (N+1) w w'->w'.heap[N+1]?=some (.cells s.cells 149)->aW [(5, .bool true),(4, .pt (N+1))] 61 [] a->Rn lT Goal ((base 98).atR a K) cs w'):
 Rn lT Goal ((base 98).atR a (.code (rD Tryz.f98 8)::K)) cs w:=by
 have C:=(gA q).1;have p:s.links=b.extract 40 T:=by rw[hs,U];rfl
 have y:s.path=b.extract (T+4) b.size:=by rw[hs,U];show b.extract (44+32*n) b.size=_;rw[show 40+32*n+4=44+32*n from o_]
 have x:s.salt=b.extract 8 40:=by rw[hs];rfl
 have J:s.q=cU b 0 4:=by rw[hs];rfl
 have t:s.key=k.key:=by rw[hs];rfl
 refine Rn.grows (fx:=[(1, .s b),(2, .pt N),(6, .i T),(7, .i ((T+4:Nat):Int)),(8, .int .u64 (cU b 0 4)),(4, .pt (N+1))]) (ds:=[49,50,51,52,53,54,55,56,57,58,59,60]) (N:=61) (df:=[]) (G:=Qf k b T s) k_ k_ (λm v w w' X _=>Fx m v w w' X) (λm o a w' S e L j c=> ?_)
  (λm a w'=>(m=12/\Bw w w'/\aW [(60, .agg s.cells),(4, .pt (N+1))] 61 [] a)\/(m=13/\Below (N+1) w w'/\w'.heap[N+1]?=some (.cells s.cells 149)/\aW [(4, .pt (N+1))] 61 [] a)\/(m=14/\Below (N+1) w w'/\w'.heap[N+1]?=some (.cells s.cells 149)/\aW [(5, .bool true),(4, .pt (N+1))] 61 [] a))
  (λa w' O=> ?_) (λm o a w' R S e M D=> ?_) (λa w' M=> ?_) g.defers g.size (g.all s_)
 ·have P:=aB (j _ (mG (i:=0) rfl));have f2:=aB (j _ (mG (i:=1) rfl));have f6:=aB (j _ (mG (i:=2) rfl));have f7:=aB (j _ (mG (i:=3) rfl));have Z:=aB (j _ (mG (i:=4) rfl));have z:=(L.block N (gA r).1).trans r;have W:m<12:=S;rcases(o_:m=0\/m=1\/m=2\/m=3\/m=4\/m=5\/m=6\/m=7\/m=8\/m=9\/m=10\/m=11)with rfl|rfl|rfl|rfl|rfl|rfl|rfl|rfl|rfl|rfl|rfl|rfl
  ·have d:=oS e;exact aJ (ig (s:=k) d f2 z λ_ _=>rfl) ⟨rfl,bR⟩
  ·have d:=oS e;exact aJ (by rw[cE (.inl d),Z]) ⟨rfl,bR⟩
  ·have d:=oS e;obtain⟨u,l,rfl⟩:=nE c 1 50;exact aJ (GP d (aB l) V) ⟨rfl,bR⟩
  ·have d:=oS e;exact aJ (by rw[cE (.inl d),P]) ⟨rfl,bR⟩
  ·have d:=oS e;obtain⟨u,l,rfl⟩:=nE c 3 52;exact aJ (ft (m:=8) (n:=40) d (aB l) rfl rfl o_ o_).1 ⟨rfl,bR⟩
  ·have d:=oS e;exact aJ (by rw[cE (.inl d),P]) ⟨rfl,bR⟩
  ·have d:=oS e;exact aJ (by rw[cE (.inl d),f6]) ⟨rfl,bR⟩
  ·have d:=oS e;obtain⟨u,l,rfl⟩:=nE c 5 54;obtain⟨Q,f,rfl⟩:=nE c 6 55;exact aJ (ft (m:=40) (n:=T) d (aB l) rfl (aB f) o_ o_).1 ⟨rfl,bR⟩
  ·have d:=oS e;exact aJ (by rw[cE (.inl d),P]) ⟨rfl,bR⟩
  ·have d:=oS e;exact aJ (by rw[cE (.inl d),f7]) ⟨rfl,bR⟩
  ·have d:=oS e;obtain⟨u,l,rfl⟩:=nE c 8 57;obtain⟨Q,f,rfl⟩:=nE c 9 58;exact aJ (wX (n:=T+4) d (aB l) (aB f) Y) ⟨rfl,bR⟩
  ·have d:=oS e;obtain⟨u0,I,rfl⟩:=nE c 0 49;obtain⟨u1,H,rfl⟩:=nE c 2 51;obtain⟨Q,f,rfl⟩:=nE c 4 53;obtain⟨u3,F,rfl⟩:=nE c 7 56;obtain⟨u4,E,rfl⟩:=nE c 10 59;exact aJ (NS (s:=s) d ((aB I).trans (by rw[t])) ((aB H).trans (by rw[J])) ((aB f).trans (by rw[x])) ((aB F).trans (by rw[p])) ((aB E).trans (by rw[y]))) ⟨rfl,bR⟩
 ·obtain⟨u,l,f⟩:=O.come 11 60 rfl trivial;obtain rfl:=f;exact .inl ⟨rfl,O.old,(O.base.more l).only ⟨rfl,rfl,trivial⟩⟩
 ·rcases M with⟨rfl,A,g⟩|⟨rfl,A,B,g⟩|⟨rfl,_⟩
  ·have B:=(A.block (N+1) C).trans q;refine Rn.does0 g (.store 149 (.tmp 4) (.tmp 60)) k_ s_ (λo e=>cZ (cells:=s.cells) e (g.G 4) (g.G 60) B Dy rfl (by simp[dp.cells,Va])) λa g=>D a _ (.inr (.inl ⟨rfl,(A.mono o_).trans (eo w' (N+1) _ (TB _)),setRow_heap w' (N+1) _ _ _ _ B,g.only ⟨rfl,trivial⟩⟩))
  ·refine Rn.C g 5 (.bool true) λa g=>D a w' (.inr (.inr ⟨rfl,A,B,g⟩))
  ·exact absurd (gA e).1 d_
 ·rcases M with⟨h,_⟩|⟨h,_⟩|⟨_,A,B,g⟩
  ·exact absurd h d_
  ·exact absurd h d_
  ·exact next a w' A B g
end
theorem PI:Tryz.f98.body=some (.seq (rG Tryz.f98 0) (.seq (rG Tryz.f98 1) (.seq (rG Tryz.f98 2) (.seq (.seq (rG Tryz.f98 3) (.cond (.tmp 22) (.seq (rG Tryz.f98 4) .ret) .skip))
 (.seq (rG Tryz.f98 5) (.seq (.seq (rD Tryz.f98 6) (.cond (.tmp 47) (.seq (rG Tryz.f98 7) .ret) .skip)) (.seq (rD Tryz.f98 8) .ret))))))):=k_
def MX(k:dp)(h n:Nat)(b:ByteArray)(w0:World)(e:Ending)(w':World):Prop:=((kT k h n b/\e= .returned (.tuple #[.agg (wP k n b).cells, .bool true]))\/(¬kT k h n b/\e= .returned (.tuple #[.agg gC, .bool false])))/\Bw w0 w'
def Js(k:dp)(h n:Nat)(b:ByteArray)(w0:World)(cs:List Frame)(g:Goroutine)(w':World):Prop:=∃(a:Act) (K:List Item) (bk:Nat) (cells:Array Value) (tt:TypeId) (v:Value),g=cJ {(base 98).atR a K with mode:= .returning} cs/\a.defers=[]/\a.tmps[4]?=some (.pk bk 0)/\w'.heap[bk]?=some (.cells cells tt)/\cells.size=12/\a.tmps[5]?=some v/\MX k h n b w0 (.returned (.tuple #[.agg cells,v])) w'
section
variable{kk:dp}{h:Nat}{b:ByteArray}{k:List Item}
theorem MP(id d:Nat)(i:d<61/\d≠4)(f:¬kT kk h n b)(c:aW [(4, .pt (w0.heap.size+1))] 61 [] a)(j:w.heap[w0.heap.size+1]?=some (.cells gC 149))(e:Bw w0 w)(l:U5 (bV Tryz.f98 id).size=[0,1,2])
 (q:((bV Tryz.f98 id)[0]?).map (λo=>(o.dst,o.op,o.guard))=some (some d, .build 149 #[],none)) (p:((bV Tryz.f98 id)[1]?).map (λo=>(o.dst,o.op,o.guard))=some (none, .store 149 (.tmp 4) (.tmp d),none)) (m:((bV Tryz.f98 id)[2]?).map (λo=>(o.dst,o.op,o.guard))=some (some 5, .assign (.const (.bool false)),none)):
 Rn lT (Js kk h n b w0 cs) ((base 98).atR a (.code (.seq (rG Tryz.f98 id) .ret)::k)) cs w:=by
 refine Rn.p rfl (Rn.r l ?_);refine Rn.op c d (.build 149 #[]) i.1 q s_ (λo g=>GJ g) λa c=> ?_;have r:((d,WQ gC)::[(4, .pt (w0.heap.size+1))]:List (Nat×Value)).lookup 4=some (.pk (w0.heap.size+1) 0):=by simp[TU,show(4==d)=false from by simpa using UP i.2]
 refine Rn.does0 c (.store 149 (.tmp 4) (.tmp d)) p s_ (λo g=>cZ (cells:=gC) g (c.get (d:=4) r) (c.get (d:=d) (by simp[TU])) j Dy rfl (by simp[gC,Va])) λa c=> ?_;refine Rn.asc c 5 (.bool false) d_ m λa c=> ?_;refine Rn.p rfl (Rn.ends rfl (.inr ⟨_,rfl⟩) (Rn.now ⟨a,_,w0.heap.size+1,gC,149, .bool false,rfl,c.defers,c.slot 4 _ ?_,setRow_heap w _ _ _ _ _ j,rfl,c.slot 5 _ (by simp[TU]), .inr ⟨f,rfl⟩,e.trans (eo _ _ _ o_)⟩));simp[TU,show(4==d)=false from by simpa using UP i.2]
end
theorem GX(k:dp)(h n:Nat)(L:k.height=h)(A:h<=8)(U:k.count=n)(S:n<=1000)(b:ByteArray)(X:b.size<=1125899906842624)(w:World):Calls lT 98 #[.agg k.key, .s b] w (MX k h n b w):=by
 refine pV (t:=4) (u:=5) (ty:=149) (n:=12) Lf.func98 rfl Lf.underlying149 rfl Dy λO=> ?_;show Rn _ (Js k h n b w O) _ O w;rw[aZ (N:=61) [.agg k.key, .s b] Lf.func98 PI rfl];have c:=aQ [.agg k.key, .s b] 61 s_;refine Rn.gr ?_;refine Rn.z c 2 0 145 rfl λa c=> ?_;show Rn _ _ _ _ (w.alloc (.cells k.key 145));refine Rn.vv c (λo g=>HI g) λa c=> ?_;rw[aR]at c;have f:=(cQ (w.alloc (.cells k.key 145)) (.cells gC 149) (b:=w.heap.size) (by rw[aR];omega)).trans (bJ w _);have d:=bJ (w.alloc (.cells k.key 145)) (.cells gC 149);rw[aR]at d;have i:Bw w ((w.alloc (.cells k.key 145)).alloc (.cells gC 149)):=aE (aV w _) (by rw[aR];omega) (aV _ _);revert f d i;generalize (w.alloc (.cells k.key 145)).alloc (.cells gC 149)=J;intro f d i;have z:=(gA d).1
 iterate 2 refine Rn.uu c λa c=> ?_
 refine Rn.vv c (λo g=>(aO (v:= .i n) ce g (c.G 9) ((aG f 6).trans (by rw[←U];rfl))).1) λa c=> ?_;refine Rn.O c 11 (.binOp .mul 3 (.tmp 10) (.const (.i 32)) 3) (λo g=>(mH g (c.G 10) rfl o_).1) λa c=> ?_;refine Rn.vv c (λo g=>tD (m:=40) g rfl (c.G 11) o_) λa c=> ?_;rw[show(40:Int)+(n:Int)*32=((40+32*n:Nat):Int)from o_]at c
 iterate 3 refine Rn.uu c λa c=> ?_
 rw[show((40+32*n:Nat):Int)+4=((40+32*n+4:Nat):Int)from o_]at c;refine Rn.uu c λa c=> ?_
 iterate 2 refine Rn.uu c λa c=> ?_
 refine Rn.y c 17 7 rfl λa c=> ?_;refine Rn.vv c (λo g=>ey 4 d_ g (c.G 2)) λa c=> ?_;refine Rn.vv c (λo g=>(aO (v:= .i h) ce g (c.G 18) ((aG f 4).trans (by rw[←L];rfl))).1) λa c=> ?_;refine Rn.O c 20 (.binOp .mul 3 (.tmp 19) (.const (.i 32)) 3) (λo g=>(mH g (c.G 19) rfl o_).1) λa c=> ?_;refine Rn.vv c (λo g=>tD g (c.G 17) (c.G 20) o_) λa c=> ?_;refine Rn.vv c (λo g=>Be g (c.G 16) (c.G 21)) λa c=> ?_;refine Rn.p rfl (Rn.cond _ (c.G 22) ?_);by_cases x:b.size=44+32*n+32*h
 ·rw[show((b.size:Int) !=((40+32*n+4:Nat):Int)+(h:Int)*32)=false from by simp;omega];have M:=pG (b.extract 0 4).data.toList 4 (by simp;omega);have I:0<=cU b 0 4/\cU b 0 4<4294967296:=⟨M.1,by have:=M.2;rw[show(256:Int)^4=4294967296 from d_]at this;exact this⟩;refine Rn.uu c λa c=> ?_;refine Rn.vv c (λo g=>sC (n:=4) g (c.G 24) rfl o_) λa c=> ?_;refine Rn.cl c Lf.func81 (R:=λv K=>v= .int .u64 (cU b 0 4)/\K=J) ((eM (b.extract 0 4) J (by rw[TT];omega)).mono λe K h=>⟨_,h.1,rfl,h.2⟩) λv W Q a c=> ?_;obtain⟨rfl,rfl⟩:=Q;refine Rn.uu c λa c=> ?_;refine Rn.p rfl (Rn.p rfl (Rn.p rfl ?_));have F:2^h<=256:=TW (W8 d_ A) d_;refine OQ (k:=k) (b:=b) (N:=w.heap.size) (H2:=2^h) (h:=h) (T:=40+32*n) rfl L A F o_ o_ rfl rfl rfl f (c.only ⟨rfl,rfl,rfl,rfl,rfl,rfl,trivial⟩) λa P r c=> ?_;have q:=bk r f;have j:=(r.block _ z).trans d;have l:Bw w P:=aE i i.size r;refine Rn.cond _ (c.G 47) ?_;by_cases p:kT k h n b
  ·have e:(decide (cU b 0 4≥((2^h:Nat):Int))||((b.extract 4 8).data.toList !=k.chains.data.toList)||((b.extract (40+32*n) (40+32*n+4)).data.toList !=k.tree.data.toList))=false:=by obtain⟨_,C,G,B⟩:=p;rw[show 44+32*n=40+32*n+4 from o_]at B;have H:¬cU b 0 4≥((2^h:Nat):Int):=(by rw[UY];exact af7.2 C);rw[decide_eq_false H,G,B];simp
   rw[e];refine Rn.p rfl (Rn.p rfl ?_);refine LJ (k:=k) (s:=wP k n b) (n:=n) rfl rfl o_ ⟨I.1,o_⟩ q j (c.only ⟨rfl,rfl,rfl,rfl,rfl,rfl,trivial⟩) λa V E D c=> ?_;exact Rn.ends rfl (.inr ⟨_,rfl⟩) (Rn.now ⟨a,_,w.heap.size+1,(wP k n b).cells,149, .bool true,rfl,c.defers,c.slot 4 _ rfl,D,rfl,c.slot 5 _ rfl, .inl ⟨p,rfl⟩,l.trans (E.mono o_)⟩)
  ·have e:(decide (cU b 0 4≥((2^h:Nat):Int))||((b.extract 4 8).data.toList !=k.chains.data.toList)||((b.extract (40+32*n) (40+32*n+4)).data.toList !=k.tree.data.toList))=true:=by
    refine Classical.byContradiction λy=>p ?_;rw[Bool.not_eq_true,Zr,Zr,decide_eq_false_iff_not,bne_eq_false_iff_eq,bne_eq_false_iff_eq]at y;obtain⟨⟨C,G⟩,B⟩:=y;refine⟨x, ?_,G, ?_⟩
    ·rw[UY]at C;exact af7.1 C
    ·rw[show 44+32*n=40+32*n+4 from o_];exact B
   rw[e];exact MP 7 48 d_ p (c.only ⟨rfl,trivial⟩) j l rfl k_ k_ k_
 ·rw[show((b.size:Int) !=((40+32*n+4:Nat):Int)+(h:Int)*32)=true from by simp;omega];exact MP 4 23 d_ (λh=>x h.1) (c.only ⟨rfl,trivial⟩) d i rfl k_ k_ k_
def hK(key:ByteArray):Nat:=gP (cU key 0 4)
def wK(key:ByteArray):Nat:=kl (cU key 4 8)
def nK(key:ByteArray):Nat:=nw (cU key 4 8)
def Qo(key:ByteArray):Nat:=mO (cU key 4 8)
def tz(KS:List Int)(key msg sig:ByteArray):ByteArray:=GH KS (wP (ip key) (nK key) sig) (hK key) (wK key) (Qo key) (nK key) (cU sig 0 4).toNat msg
def AA(KS:List Int)(key msg sig:ByteArray)(c:Int):Prop:=
 (¬i5 key/\c=9)\/(i5 key/\¬kT (ip key) (hK key) (nK key) sig/\c=10)\/(i5 key/\kT (ip key) (hK key) (nK key) sig/\(tz KS key msg sig).data.toList≠(key.extract 24 key.size).data.toList/\c=10)\/(i5 key/\kT (ip key) (hK key) (nK key) sig/\(tz KS key msg sig).data.toList=(key.extract 24 key.size).data.toList/\c=0)
theorem kinds(h:i5 key):(hK key=5\/hK key=2)/\((wK key=2/\nK key=133/\Qo key=6)\/(wK key=4/\nK key=67/\Qo key=4)\/(wK key=8/\nK key=34/\Qo key=0)):=by
 obtain⟨_,g,f⟩:=h;constructor
 ·unfold hK gP at*;split
  ·exact .inl rfl
  ·split
   ·exact .inr rfl
   ·rename_i a b;simp[a,b]at g
 ·unfold wK nK Qo kl nw mO at*;by_cases e:cU key 4 8=2
  ·rw[e];exact .inl d_
  ·by_cases d:cU key 4 8=3
   ·rw[d];exact .inr (.inl d_)
   ·by_cases c:cU key 4 8=4
    ·rw[c];exact .inr (.inr d_)
    ·simp[e,d,c]at f
theorem OG(h:i5 key)(e:kT (ip key) (hK key) (nK key) sig):RZ (wP (ip key) (nK key) sig) (hK key) (wK key) (Qo key) (nK key) (cU sig 0 4).toNat:=by
 obtain⟨j,c⟩:=kinds h;obtain⟨g,_,_⟩:=h;obtain⟨d,f,_,_⟩:=e;have i:0<=cU sig 0 4:=(pG (sig.extract 0 4).data.toList 4 (by simp;omega)).1;have a:((cU sig 0 4).toNat:Int)=cU sig 0 4:=Int.toNat_of_nonneg i;exact
  {wid:=by rcases c with⟨h,_⟩|⟨h,_⟩|⟨h,_⟩<;>rw[h]<;>simp[Az]
   width:=rfl
   shift:=rfl
   shift8:=o_
   count:=rfl
   one:=o_
   most:=by rcases c with⟨h,b,_⟩|⟨h,b,_⟩|⟨h,b,_⟩<;>rw[h,b]<;>decide
   height:=rfl
   low:=o_
   qq:=a.symm
   leaf:=by have:((cU sig 0 4).toNat:Int)<((2^hK key:Nat):Int):=(by rw[a,UY];exact f);exact Int.ofNat_lt.1 this
   id:=by show(key.extract 8 24).size<=1000;rw[TT];omega
   salt:=by show(sig.extract 8 40).size<=1000;rw[TT];omega
   links:=by show nK key*32<=(sig.extract 40 (40+32*nK key)).size;rw[TT];omega
   path:=by show(sig.extract (44+32*nK key) sig.size).size=32*hK key;rw[TT];omega}
def T9(s:dp)(msg root:ByteArray)(b7:Nat)(rt:ByteArray)(bad ne:Bool):Nat->Value->World->Prop
 |0,v,_=>v= .bool (!bad)
 |1,v,_=>v= .bool bad
 |2,v,_=>v= .bool bad
 |3,v,_=>bad=false->v= .agg s.cells
 |4,v,_=>bad=false->v= .string msg
 |5,v,_=>bad=false->v= .string rt
 |6,v,_=>bad=false->v= .pk b7 3
 |7,v,_=>bad=false->v= .string root
 |8,v,_=>bad=false->v= .bool ne
 |_,v,_=>v= .bool (bad||ne)
theorem Iu{s:dp}{root:ByteArray}{b7:Nat}{rt:ByteArray}{bad ne:Bool}(m:Nat)(v:Value)(w w':World)(a:T9 s msg root b7 rt bad ne m v w):T9 s msg root b7 rt bad ne m v w':=by
 match m,a with
 |0,h|1,h|2,h|3,h|4,h|5,h|6,h|7,h|8,h|_+9,h=>exact h
section
variable{s:dp}{rt:ByteArray}{k:dp}{bad ne:Bool}
theorem OS(hC:bad=false->∀w',Bw w w'->Calls lT 99 #[.agg s.cells, .s msg] w' λe D=>e= .returned (.s rt)/\Bw w' D)(H:ne=(rt.data.toList !=k.root.data.toList))(V:w.heap[b7]?=some (.cells k.key 145))(U:bad=false->w.heap[b9]?=some (.cells s.cells 149))
 (J:aW [(1, .s msg),(7, .pt b7),(8, .bool (!bad)),(9, .pt b9)] 33 [] a)
 (next:∀a w',Bw w w'->aW [(32, .bool (bad||ne))] 33 [] a->Rn lT Goal ((base 91).atR a K) cs w'):
 Rn lT Goal ((base 91).atR a (.code (rD Tryz.f91 5)::K)) cs w:=by
 refine Rn.growsG (fx:=[(1, .s msg),(7, .pt b7),(8, .bool (!bad)),(9, .pt b9)]) (ds:=[23,24,25,26,27,28,29,30,31,32]) (N:=33) (df:=[]) (G:=T9 s msg k.root b7 rt bad ne) k_ k_ (λm v w w' hg _=>Iu m v w w' hg) (λm o a w' T q B X z b=> ?_)
  (λm a w'=>m=10/\Bw w w'/\aW [(32, .bool (bad||ne))] 33 [] a)
  (λa w' I=> ?_) (λm o a w' Q T q E a0=> ?_) (λa w' E=> ?_) J.defers J.size (J.all s_)
 ·have f1:=aB (z _ (mG (i:=0) rfl));have f7:=aB (z _ (mG (i:=1) rfl));have f8:=aB (z _ (mG (i:=2) rfl));have f9:=aB (z _ (mG (i:=3) rfl));have L:=(B.block b7 (gA V).1).trans V;have first:∀{o:Oper} {R:Value->World->Prop},o.guard=some (2,false)->a.tmps[25]?=some (.bool bad)->(bad=false->sq lT a o w' R)->(bad=true->R undef w')->AF lT (bV Tryz.f91 5) a o w' R:=λ{o R} A h3 h4 h5=>by
   have S:=nL (ops:=bV Tryz.f91 5) (tmps:=a.tmps) (d:=25) A k_ h3;cases bad with
   |false=>exact .inl ⟨S,h4 rfl⟩
   |true=>exact .inr ⟨S,h5 rfl⟩
  have t:∀{m:Nat} {o:Oper} {d:Option Tmp} {p:Op} {g:Nat},(bV Tryz.f91 5)[m]?=some o->((bV Tryz.f91 5)[m]?).map (λo=>(o.dst,o.op,o.guard))=some (d,p,some (g,false))->o.op=p/\o.guard=some (g,false):=λ{m o d p g} q r=>by rw[q]at r;simp only[TE,Option.some.injEq,Prod.mk.injEq]at r;exact⟨r.2.1,r.2.2⟩
  have Z:m<10:=T;rcases(o_:m=0\/m=1\/m=2\/m=3\/m=4\/m=5\/m=6\/m=7\/m=8\/m=9)with rfl|rfl|rfl|rfl|rfl|rfl|rfl|rfl|rfl|rfl
  ·obtain⟨O,j,C⟩:=oQ q;exact .inl ⟨C _,aJ (by rw[cE (.inl j),f8]) ⟨rfl,bR⟩⟩
  ·obtain⟨O,j,C⟩:=oQ q;obtain⟨u,f,rfl⟩:=b 0 23 rfl k_;exact .inl ⟨C _,aJ (qe j (aB f)).1 ⟨by show Value.bool (!!bad)=Value.bool bad;rw[Bool.not_not],bR⟩⟩
  ·obtain⟨O,j,C⟩:=oQ q;obtain⟨u,f,rfl⟩:=b 1 24 rfl k_;exact .inl ⟨C _,sf (.inl j) f ⟨rfl,bR⟩⟩
  ·obtain⟨j,y⟩:=t (d:=some 26) (p:= .load 149 (.tmp 9)) q k_;obtain⟨u,f,rfl⟩:=b 2 25 rfl k_;exact first y f (λc=>aJ (kN (ex:=#[]) j f9 (by rw[Uw];exact(B.block b9 (gA (U c)).1).trans (U c))).1 ⟨λ_=>rfl,bR⟩) λc=>⟨λl=>(by rw[c]at l;cases l),bR⟩
  ·obtain⟨j,y⟩:=t (d:=some 27) (p:= .move (.tmp 1)) q k_;obtain⟨u,f,rfl⟩:=b 2 25 rfl k_;exact first y f (λ_=>aJ (by rw[cE (.inl j),f1]) ⟨λ_=>rfl,bR⟩) λc=>⟨λl=>(by rw[c]at l;cases l),bR⟩
  ·obtain⟨j,y⟩:=t (d:=some 28) (p:= .call {callee:= .value (.func 99),args:=#[.tmp 26, .tmp 27],argTypes:=#[149,9]}) q k_;obtain⟨u,f,rfl⟩:=b 2 25 rfl k_;obtain⟨F,n,A⟩:=b 3 26 rfl k_;obtain⟨W,x,M⟩:=b 4 27 rfl k_;refine first y f (λc=> ?_) λc=>⟨λl=>(by rw[c]at l;cases l),bR⟩
   have Y:=bU (w:=w') j (show(#[Ul 26, .tmp 27]:Array Operand).map a.eval=#[.agg s.cells, .s msg]from by simp[aB n,aB x,A c,M c]) (rI (P:=aI true tP) Lf.func99 _);exact .inr ⟨_,_,Y.1,(hC c w' B).mono λe D h=>⟨_,h.1,λ_=>rfl,h.2⟩⟩
  ·obtain⟨j,y⟩:=t (d:=some 29) (p:= .fieldAddr 145 (.tmp 7) 3) q k_;obtain⟨u,f,rfl⟩:=b 2 25 rfl k_;exact first y f (λ_=>aJ (ey 3 d_ j f7) ⟨λ_=>rfl,bR⟩) λc=>⟨λl=>(by rw[c]at l;cases l),bR⟩
  ·obtain⟨j,y⟩:=t (d:=some 30) (p:= .load 9 (.tmp 29)) q k_;obtain⟨u,f,rfl⟩:=b 2 25 rfl k_;obtain⟨F,n,A⟩:=b 6 29 rfl k_;exact first y f (λc=>aJ (aO (v:= .s k.root) bN j ((aB n).trans (A c)) ((aG L 3).trans rfl)).1 ⟨λ_=>rfl,bR⟩) λc=>⟨λl=>(by rw[c]at l;cases l),bR⟩
  ·obtain⟨j,y⟩:=t (d:=some 31) (p:= .binOp .neq 9 (.tmp 28) (.tmp 30) 9) q k_;obtain⟨u,f,rfl⟩:=b 2 25 rfl k_;obtain⟨F,n,A⟩:=b 5 28 rfl k_;obtain⟨W,x,M⟩:=b 7 30 rfl k_;exact first y f (λc=>aJ (xa j ((aB n).trans (A c)) ((aB x).trans (M c))) ⟨λ_=>by rw[H],bR⟩) λc=>⟨λl=>(by rw[c]at l;cases l),bR⟩
  ·obtain⟨O,j,C⟩:=oQ q;obtain⟨u,f,rfl⟩:=b 2 25 rfl k_;obtain⟨F,n,A⟩:=b 8 31 rfl k_;refine .inl ⟨C _,aJ (tw j (aB f)) ⟨?_,bR⟩⟩;cases c:bad with
   |true=>rfl
   |false=>exact(aB n).trans (A c)
 ·obtain⟨u,f,x⟩:=I.come 9 32 rfl trivial;obtain rfl:=x;exact⟨rfl,I.old,(I.base.more f).only ⟨rfl,trivial⟩⟩
 ·exact absurd (gA q).1 (by obtain⟨rfl,_⟩:=E;decide)
 ·exact next a w' E.2.1 E.2.2
end
theorem PO:Tryz.f91.body=some (.seq (rG Tryz.f91 0) (.seq (rG Tryz.f91 1) (.seq (.seq (rG Tryz.f91 2) (.cond (.tmp 16) (.seq (rG Tryz.f91 3) .ret) .skip))
 (.seq (rG Tryz.f91 4) (.seq (.seq (rD Tryz.f91 5) (.cond (.tmp 32) (.seq (rG Tryz.f91 6) .ret) .skip)) (.seq (rG Tryz.f91 7) .ret)))))):=k_
theorem uA(KS:List Int)(a2:KS.length=64)(key msg sig:ByteArray)(hm:msg.size<=281474976706560)(hs:sig.size<=1125899906842624)(w:World)(Q:w.rangeAt 0 0 (aH KS))(h0:0<w.heap.size):
 Calls lT 91 #[.s key, .s msg, .s sig] w λe w'=>∃c,e= .returned (.i c)/\AA KS key msg sig c/\Bw w w':=by
 refine bI (t:=6) Lf.func91 rfl λcs=> ?_;rw[aZ (N:=33) [.s key, .s msg, .s sig] Lf.func91 PO rfl];have b:=aQ [.s key, .s msg, .s sig] 33 s_
 iterate 2 refine Rn.uu b λa b=> ?_
 refine Rn.calls (f:=97) (xs:=#[.tmp 11]) (ats:=#[9]) (args:=#[.s key]) b 12 d_ k_ (by simp[b.G 11]) Lf.func97 k_ k_
  (R:=λv w'=>((i5 key/\v= .tuple #[.agg (ip key).key, .bool true])\/(¬i5 key/\v= .tuple #[.agg gD, .bool false]))/\Bw w w')
  ((yN key w).mono λe w' h=>by
    rcases h with⟨⟨l,j⟩|⟨l,j⟩,U⟩
    ·exact⟨_,j, .inl ⟨l,rfl⟩,U⟩
    ·exact⟨_,j, .inr ⟨l,rfl⟩,U⟩) λv J z a b=> ?_
 obtain⟨z,D⟩:=z;obtain⟨cells,W,d,y⟩:∃cells W,((¬i5 key/\cells=gD/\W=false)\/(i5 key/\cells=(ip key).key/\W=true))/\v= .tuple #[.agg cells, .bool W]:=by
  rcases z with⟨l,j⟩|⟨l,j⟩
  ·exact⟨_,_, .inr ⟨l,rfl,rfl⟩,j⟩
  ·exact⟨_,_, .inl ⟨l,rfl,rfl⟩,j⟩
 subst y;have n:cells.size=8/\cells.all (·.oneCell')=true:=by
  rcases d with⟨_,rfl,_⟩|⟨_,rfl,_⟩
  ·exact⟨rfl,by simp[gD,Va]⟩
  ·exact⟨rfl,by simp[dp.key,Va]⟩
 iterate 3 refine Rn.uu b λa b=> ?_
 refine Rn.al b (λo x=>BE x) λZ a O h7 _ b=> ?_;refine Rn.nn b (λo x=>cZ (cells:=cells) x (b.G 7) (b.G 13) h7 (by rw[n.1];exact zC) (by rw[n.1];rfl) n.2) λa b=> ?_;have u:=setRow_heap Z J.heap.size gD cells 145 (0,0) h7;have r:Bw w (Z.setRow J.heap.size cells):=(aE D D.size O).trans (eo _ _ _ D.size);have q:=(gA u).1;revert u r q;generalize Z.setRow J.heap.size cells=Y;intro u r q;clear h7 O
 iterate 3 refine Rn.uu b λa b=> ?_
 refine Rn.p rfl (Rn.cond _ (b.G 16) ?_);rcases d with⟨L,rfl,rfl⟩|⟨p,rfl,rfl⟩
 ·refine Rn.uu b λa b=> ?_;exact Rn.fi b ⟨9,rfl, .inl ⟨L,rfl⟩,r⟩
 obtain⟨hh,hk⟩:=kinds p;refine Rn.vv b (λo x=>ig (s:=ip key) x (b.G 7) u λ_ _=>rfl) λa b=> ?_;refine Rn.uu b λa b=> ?_;refine Rn.calls (f:=98) (xs:=#[.tmp 18, .tmp 19]) (ats:=#[145,9]) (args:=#[.agg (ip key).key, .s sig]) b 20 d_ k_ (by simp[b.G 18,b.G 19]) Lf.func98 k_ k_
  (R:=λv w'=>((kT (ip key) (hK key) (nK key) sig/\v= .tuple #[.agg (wP (ip key) (nK key) sig).cells, .bool true])\/(¬kT (ip key) (hK key) (nK key) sig/\v= .tuple #[.agg gC, .bool false]))/\Bw Y w')
  ((GX (ip key) (hK key) (nK key) rfl o_ rfl o_ sig hs Y).mono λe w' h=>by
    rcases h with⟨⟨l,j⟩|⟨l,j⟩,U⟩
    ·exact⟨_,j, .inl ⟨l,rfl⟩,U⟩
    ·exact⟨_,j, .inr ⟨l,rfl⟩,U⟩) λv I z a b=> ?_
 obtain⟨z,M⟩:=z;obtain⟨cells,bad,d,y⟩:∃cells bad,((kT (ip key) (hK key) (nK key) sig/\cells=(wP (ip key) (nK key) sig).cells/\bad=false)\/(¬kT (ip key) (hK key) (nK key) sig/\cells=gC/\bad=true))/\v= .tuple #[.agg cells, .bool (!bad)]:=by
  rcases z with⟨l,j⟩|⟨l,j⟩
  ·exact⟨_,false, .inl ⟨l,rfl,rfl⟩,j⟩
  ·exact⟨_,true, .inr ⟨l,rfl,rfl⟩,j⟩
 subst y;have i:cells.size=12/\cells.all (·.oneCell')=true:=by
  rcases d with⟨_,rfl,_⟩|⟨_,rfl,_⟩
  ·exact⟨rfl,by simp[dp.cells,Va]⟩
  ·exact⟨rfl,by simp[gC,Va]⟩
 have T:=(M.block _ q).trans u;have F:Bw w I:=aE r r.size M
 iterate 3 refine Rn.uu b λa b=> ?_
 refine Rn.al b (λo x=>HI x) λV a C h9 _ b=> ?_;have S:=bk C T;have a0:=(gA T).1;refine Rn.nn b (λo x=>cZ (cells:=cells) x (b.G 9) (b.G 21) h9 (by rw[i.1];exact Dy) (by rw[i.1];rfl) i.2) λa b=> ?_;have G:=setRow_heap V I.heap.size gC cells 149 (0,0) h9;have H:=(setRow_other V I.heap.size J.heap.size cells o_).trans S;have g:Bw w (V.setRow I.heap.size cells):=(aE F F.size C).trans (eo _ _ _ F.size);revert G H g;generalize V.setRow I.heap.size cells=w6;intro G H g;clear h9 C S;refine Rn.uu b λa b=> ?_;refine Rn.p rfl (Rn.p rfl (Rn.p rfl ?_));refine OS (s:=wP (ip key) (nK key) sig) (k:=ip key) (rt:=tz KS key msg sig) (bad:=bad) (b9:=I.heap.size) (b7:=J.heap.size) (msg:=msg) (λK w' P=> ?_) rfl H (λK=> ?_) (b.only ⟨rfl,rfl,rfl,rfl,trivial⟩) λa w7 a1 b=> ?_
 ·rcases d with⟨m,_,_⟩|⟨_,_,B⟩
  ·exact A2 KS a2 _ _ _ _ _ _ (OG p m) msg hm w' (Ti h0 (aE g g.size P) Q) (TC h0 (aE g g.size P).size)
  ·rw[B]at K;cases K
 ·rcases d with⟨_,hc,_⟩|⟨_,_,B⟩
  ·rw[G,hc]
  ·rw[B]at K;cases K
 have E:Bw w w7:=aE g g.size a1;refine Rn.cond _ (b.G 32) ?_;rcases d with⟨m,_,rfl⟩|⟨A,_,rfl⟩
 ·by_cases X:(tz KS key msg sig).data.toList=(key.extract 24 key.size).data.toList
  ·rw[show(false||((tz KS key msg sig).data.toList !=(ip key).root.data.toList))=false from by rw[YH,bne_eq_false_iff_eq];exact X];refine Rn.uu b λa b=> ?_;exact Rn.fi b ⟨0,rfl, .inr (.inr (.inr ⟨p,m,X,rfl⟩)),E⟩
  ·rw[show(false||((tz KS key msg sig).data.toList !=(ip key).root.data.toList))=true from by rw[YH,bne_iff_ne];exact X];refine Rn.uu b λa b=> ?_;exact Rn.fi b ⟨10,rfl, .inr (.inr (.inl ⟨p,m,X,rfl⟩)),E⟩
 ·refine Rn.uu b λa b=> ?_;exact Rn.fi b ⟨10,rfl, .inr (.inl ⟨p,A,rfl⟩),E⟩
end L1
section
open Go.RowKit Go.Lib Go.Shelf
@[simp] theorem Lf.func89:(aI q tP).funcs[89]?=some Tryz.f89:=aN Tryz.func89 d_ rfl rfl k_
@[simp] theorem Lf.func95:(aI q tP).funcs[95]?=some Tryz.f95:=aN Tryz.func95 d_ rfl rfl k_
@[simp] theorem Lf.call95(args:Array Value)(w:World):(callFunc 95 args).run (aI q tP) w= .ok (.enter 95 args) w:=dI Lf.func95 k_ rfl args w
@[simp] theorem Lf.func100:(aI q tP).funcs[100]?=some Tryz.f100:=aN Tryz.func100 d_ rfl rfl k_
@[simp] theorem Lf.call100(args:Array Value)(w:World):(callFunc 100 args).run (aI q tP) w= .ok (.enter 100 args) w:=dI Lf.func100 k_ rfl args w
@[simp] theorem Lf.func75:(aI q tP).funcs[75]?=some Tryz.f75:=aN Tryz.func75 d_ rfl rfl k_
@[simp] theorem Lf.func90:(aI q tP).funcs[90]?=some Tryz.f90:=aN Tryz.func90 d_ rfl rfl k_
@[simp] theorem Lf.func96:(aI q tP).funcs[96]?=some Tryz.f96:=aN Tryz.func96 d_ rfl rfl k_
@[simp] theorem Lf.func101:(aI q tP).funcs[101]?=some Tryz.f101:=aN Tryz.func101 d_ rfl rfl k_
theorem Lf.underlying133:type_of%((cq (q:=q) (P:=tP) 133).trans Tryz.underlying133):=(cq 133).trans Tryz.underlying133
theorem Lf.laysM316:Go.Proofs.LaysM.n316 (aI q tP) Tryz.laysM316_ren:=by
 cases q<;>constructor
 all_goals first|(constructor<;>first|(rw[nT];kernel_rfl)|kernel_rfl|(intro w;kernel_rfl);done)|(rw[nT];kernel_rfl)|kernel_rfl|(intro w;kernel_rfl)
theorem Lf.stringslite_Clone(s:ByteArray)(w:World)(a:s.size<=281474976710656):
 Calls (aI q tP) 100 #[.s s] w λe w'=>e= .returned (.s s)/\Bw w w':=Any.stringslite_Clone Lf.laysM316 s w a
end
section
open Go.RowKit
theorem Lf.func10:(aI q tP).funcs[10]?=some Tryz.f10:=aN Tryz.func10 d_ rfl rfl k_
theorem Lf.func11:(aI q tP).funcs[11]?=some Tryz.f11:=aN Tryz.func11 d_ rfl rfl k_
theorem Lf.func12:(aI q tP).funcs[12]?=some Tryz.f12:=aN Tryz.func12 d_ rfl rfl k_
theorem Lf.func14:(aI q tP).funcs[14]?=some Tryz.f14:=aN Tryz.func14 d_ rfl rfl k_
theorem Lf.func23:(aI q tP).funcs[23]?=some Tryz.f23:=aN Tryz.func23 d_ rfl rfl k_
theorem Lf.func24:(aI q tP).funcs[24]?=some Tryz.f24:=aN Tryz.func24 d_ rfl rfl k_
theorem Lf.func25:(aI q tP).funcs[25]?=some Tryz.f25:=aN Tryz.func25 d_ rfl rfl k_
theorem Lf.func26:(aI q tP).funcs[26]?=some Tryz.f26:=aN Tryz.func26 d_ rfl rfl k_
theorem Lf.func27:(aI q tP).funcs[27]?=some Tryz.f27:=aN Tryz.func27 d_ rfl rfl k_
theorem Lf.func37:(aI q tP).funcs[37]?=some Tryz.f37:=aN Tryz.func37 d_ rfl rfl k_
theorem Lf.func54:(aI q tP).funcs[54]?=some Tryz.f54:=aN Tryz.func54 d_ rfl rfl k_
theorem Lf.func29:(aI q tP).funcs[29]?=some Tryz.f29:=aN Tryz.func29 d_ rfl rfl k_
theorem Lf.func41:(aI q tP).funcs[41]?=some Tryz.f41:=aN Tryz.func41 d_ rfl rfl k_
theorem Lf.func42:(aI q tP).funcs[42]?=some Tryz.f42:=aN Tryz.func42 d_ rfl rfl k_
theorem Lf.func43:(aI q tP).funcs[43]?=some Tryz.f43:=aN Tryz.func43 d_ rfl rfl k_
theorem Lf.func58:(aI q tP).funcs[58]?=some Tryz.f58:=aN Tryz.func58 d_ rfl rfl k_
theorem Lf.func59:(aI q tP).funcs[59]?=some Tryz.f59:=aN Tryz.func59 d_ rfl rfl k_
theorem Lf.func73:(aI q tP).funcs[73]?=some Tryz.f73:=aN Tryz.func73 d_ rfl rfl k_
theorem Lf.func74:(aI q tP).funcs[74]?=some Tryz.f74:=aN Tryz.func74 d_ rfl rfl k_
theorem Lf.func76:(aI q tP).funcs[76]?=some Tryz.f76:=aN Tryz.func76 d_ rfl rfl k_
theorem Lf.func77:(aI q tP).funcs[77]?=some Tryz.f77:=aN Tryz.func77 d_ rfl rfl k_
theorem Lf.func88:(aI q tP).funcs[88]?=some Tryz.f88:=aN Tryz.func88 d_ rfl rfl k_
theorem Lf.func92:(aI q tP).funcs[92]?=some Tryz.f92:=aN Tryz.func92 d_ rfl rfl k_
theorem Lf.func36:(aI q tP).funcs[36]?=some Tryz.f36:=aN Tryz.func36 d_ rfl rfl k_
theorem Lf.func46:(aI q tP).funcs[46]?=some Tryz.f46:=aN Tryz.func46 d_ rfl rfl k_
theorem Lf.func47:(aI q tP).funcs[47]?=some Tryz.f47:=aN Tryz.func47 d_ rfl rfl k_
theorem Lf.func48:(aI q tP).funcs[48]?=some Tryz.f48:=aN Tryz.func48 d_ rfl rfl k_
theorem Lf.func49:(aI q tP).funcs[49]?=some Tryz.f49:=aN Tryz.func49 d_ rfl rfl k_
theorem Lf.func50:(aI q tP).funcs[50]?=some Tryz.f50:=aN Tryz.func50 d_ rfl rfl k_
theorem Lf.func61:(aI q tP).funcs[61]?=some Tryz.f61:=aN Tryz.func61 d_ rfl rfl k_
theorem Lf.func51:(aI q tP).funcs[51]?=some Tryz.f51:=aN Tryz.func51 d_ rfl rfl k_
theorem Lf.func52:(aI q tP).funcs[52]?=some Tryz.f52:=aN Tryz.func52 d_ rfl rfl k_
theorem Lf.func53:(aI q tP).funcs[53]?=some Tryz.f53:=aN Tryz.func53 d_ rfl rfl k_
theorem Lf.func62:(aI q tP).funcs[62]?=some Tryz.f62:=aN Tryz.func62 d_ rfl rfl k_
theorem Lf.func60:(aI q tP).funcs[60]?=some Tryz.f60:=aN Tryz.func60 d_ rfl rfl k_
theorem Lf.func79:(aI q tP).funcs[79]?=some Tryz.f79:=aN Tryz.func79 d_ rfl rfl k_
end
section
open Go.Conc Go.RowKit
theorem pU{R:Ending->World->Prop}{t:Tmp}{ty:TypeId}{d:TypeDesc}(r:P.funcs[f]?=some fn)(c:fn.results=#[.cell t ty])(l:P.underlying ty=some d)(s:d.isRow=true)(q:(P.info? ty).map (·.size)=some n)
 (h:∀cs,Rn P (λg w'=>∃(a:Act) (k:List Item) (b:Nat) (cells:Array Value) (e:TypeId),g=cJ {(base f).atR a k with mode:= .returning} cs/\a.defers=[]/\a.tmps[t]?=some (.pk b 0)/\w'.heap[b]?=some (.cells cells e)/\cells.size=n/\R (.returned (.agg cells)) w') (TJ P f args .normal) cs w):Calls P f args w R:=λcs=>by
 obtain⟨C,w',B,a,k,b,cells,e,rfl,A,z,y,v,u⟩:=h cs;refine⟨.returned (.agg cells),w',{(base f).atR a k with mode:= .returning},u,W3 B,rfl,rfl,A,rfl,fn,r, ?_⟩;have o:a.tmps[t]?.getD undef= .pk b 0:=by rw[z];rfl
 have m:w'.rangeAt b 0 cells.toList:=λj x i=>by
  rw[TL];have:w'.cell? ⟨b,j,none⟩=cells[j]?:=by simp[U6,y]
  rw[this,←i,VG]
 have p:=run_loadVar_mid (P:=P) w' b 0 ty cells.toList d m l s (by rw[q];simp[v]);show(results fn a.tmps).run P w'=_;simp[results,c,o,asAddr,p]
end
namespace L1
open Go.Conc Go.RowKit
theorem CL{d:Int}(h:AA KS key msg sig c)(j:AA KS key msg sig d):c=d:=by rcases h with⟨i,rfl⟩|⟨i,b,rfl⟩|⟨i,b,g,rfl⟩|⟨i,b,g,rfl⟩<;>rcases j with⟨f,rfl⟩|⟨f,a,rfl⟩|⟨f,a,e,rfl⟩|⟨f,a,e,rfl⟩<;>first|rfl|exact absurd ‹i5 key› ‹¬i5 key›|exact absurd b a|exact absurd a b|exact absurd g e|exact absurd e g
section
variable{y:Operand}
theorem CU(b:o.op= .binOp .quo 3 x y u)(f:ev x= .i m)(d:ev y= .i n)(i:0<n)(j:m<9223372036854775808):(execOp ev o).run lT w= .ok (.value (.i ((m/n:Nat):Int))) w:=by
 obtain⟨q,a⟩:∃q,q=m/n:=⟨_,rfl⟩;have g:q<=m:=by rw[a];exact Y8 _ _
 have e:U2.wrap (q:Int)=(q:Int):=by rw[TR];omega
 have h:(m:Int).tdiv (n:Int)=(q:Int):=by rw[Int.tdiv_eq_ediv_of_nonneg o_,a,W0]
 have c:¬n=0:=o_
 rw[←a];simp[execOp,b,f,d,go_sem,h,e,c]
theorem CS(a:o.op= .binOp .rem 3 x y u)(d:ev x= .i m)(c:ev y= .i n)(f:0<n):(execOp ev o).run lT w= .ok (.value (.i ((m%n:Nat):Int))) w:=by
 have e:(m:Int).tmod (n:Int)=((m%n:Nat):Int):=by rw[Wp o_,YO]
 have b:¬n=0:=o_
 simp[execOp,a,d,c,go_sem,e,b]
theorem Sl{m n:Int}(a:o.op= .binOp .eql t x y u)(d:t=34)(c:ev x= .i m)(b:ev y= .i n):(execOp ev o).run lT w= .ok (.value (.bool (m==n))) w:=by subst d;simp[execOp,a,c,b,go_sem]
theorem Si{g:Addr}{c t:Nat}(a:o.op= .call {callee:= .builtin .len,args:=#[.tmp t],argTypes:=#[62]})(b:ev (.tmp t)= .slice (some g) l c):(execOp ev o).run lT w= .ok (.value (.i l)) w:=by
 have d:lT.underlying 62=some (.slice 5):=k_
 simp[execOp,a,resolve,b,invoke,builtin,Vy,run_underlying d,goInt]
theorem NR(a:o.op= .convert 9 62 x)(b:ev x= .s s):(execOp ev o).run lT w= .ok (.value (.sk w.heap.size s.size (grownCap w s.size 0 5))) (w.drew.alloc (.cells (bytesRow s (grownCap w s.size 0 5)) 5 ((bytesRow s (grownCap w s.size 0 5)).size,(bytesRow s (grownCap w s.size 0 5)).size+1))):=by
 have h:=run_bytes_of_string (P:=lT) w 9 62 5 s k_ k_ k_;have e:execOp ev o=(do pure (.value (←convert 9 62 (.s s)))):=by simp only[execOp,a,b]
 rw[e];simp[h]
theorem wW{g cap:Nat}{l:List UInt8}(a:o.op= .convert 62 9 x)(c:ev x= .sk g l.length cap)(d:∀j (b:j<l.length),w.cell? ⟨g,j,none⟩=some (.int .u8 (l[j].toNat:Int))):(execOp ev o).run lT w= .ok (.value (.string ⟨l.toArray⟩)) w:=by
 have h:=run_convert_bytes_back (P:=lT) w 62 9 5 ⟨g,0,none⟩ cap l k_ k_ k_ (λj b=>by rw[Uu,TL];exact d j b);have e:execOp ev o=(do pure (.value (←convert 62 9 (.sk g l.length cap)))):=by simp only[execOp,a,c]
 rw[e];simp[h]
theorem yI{m:Int}(a:o.op= .convert 3 5 x)(b:ev x= .i m):(execOp ev o).run lT w= .ok (.value (.int .u8 (YY.wrap m))) w:=by
 have d:lT.underlying 5=some (.int .u8):=k_
 have c:lT.underlying 3=some (.int .i64):=k_
 simp[execOp,a,b,go_sem,d,c]
theorem Sg{m n:Int}(a:o.op= .binOp .neq t x y u)(d:t=34)(c:ev x= .i m)(b:ev y= .i n):(execOp ev o).run lT w= .ok (.value (.bool (m !=n))) w:=by subst d;simp[execOp,a,c,b,go_sem]
theorem tA{t:ByteArray}(a:o.op= .slice 9 x none (some y) none)(c:ev x= .s t)(b:ev y= .i n)(e:n<=t.size):(execOp ev o).run lT w= .ok (.value (.s (t.extract 0 n))) w:=by
 have d:lT.underlying 9=some .string:=k_
 simp[execOp,a,c,b,UF,VE,UK,run_underlying d,UQ,asIntOf,e]
variable{m:Int}
end
section
variable{b:Frame}{k:List Item}
theorem Rn.G(j:aW F N ds a)(d:Nat)(p:Op)(g l:Nat)(q:Bool)(V:Value->Prop)(y:F.lookup l=some (.bool q))(i:∀c,p≠ .defer c)(u:q=true->∀o:Oper,o.op=p->sq lT a o w λv w'=>V v/\w'=w)
 (next:∀v a',(q=true->V v)->aW ((d,v)::F) N ds a'->Rn lT Goal (b.atR a' (.inRegion ops rest::k)) cs w) (r:d<N:=by decide) (h:(ops[m]?).map (λo=>(o.dst,o.op,o.guard))=some (some d,p,some (g,true)):=by kernel_rfl) (z:(ops[g]?).bind (·.dst)=some l:=by kernel_rfl):Rn lT Goal (b.atR a (.inRegion ops (m::rest)::k)) cs w:=by
 cases e:ops[m]? with
 |none=>rw[e]at h;cases h
 |some o=>
  rw[e]at h;simp only[Option.map_some,Option.some.injEq,Prod.mk.injEq]at h;obtain⟨t,s,A⟩:=h;have n:=nL (tmps:=a.tmps) A z (j.slot l _ y);cases q with
  |false=>
   refine Rn.skips e n ?_;rw[t];exact next _ _ (λh=>by cases h) (j.put r _)
  |true=>
   refine Rn.does e n (by rw[s];exact i) (u rfl o s) λv w' ⟨x,f⟩=> ?_;rw[t,f];exact next v _ (λ_=>x) (j.put r v)
end
end L1
section
open Go.Conc Go.RowKit
def jQ(w:World)(v:Value)(L:List Value):Prop:=∃p cap,v= .slice p L.length cap/\∀(i:Nat) (u:Value),L[i]?=some u->∃a:Addr,p=some a/\w.cell? (a.add i)=some u
theorem d9{a:Addr}{u:Value}(c:Bw w w')(h:w.cell? a=some u):w'.cell? a=some u:=by
 have b:a.block<w.heap.size:=by
  unfold U6 at h;split at h
  ·exact(gA ‹_›).1
  ·cases h
 unfold U6 at h⊢;rw[c.block _ b];exact h
theorem jQ.below{L:List Value}(h:jQ w v L)(d:Bw w w'):jQ w' v L:=by obtain⟨p,b,g,f⟩:=h;exact⟨p,b,g,λi u c=>let ⟨a,e,hc⟩:=f i u c;⟨a,e,d9 d hc⟩⟩
def i7(st le:Int)(u h:Value):Array Value:=#[.int .i64 st,u, .int .i64 le,h]
def i9:List Bool->List ByteArray->ByteArray->Bool
 |u::us,h::hs,x=>(u&&h.data.toList==x.data.toList)||i9 us hs x
 |_,_,_=>false
structure Cv (tf tb ts:TypeId) (w0:World) (b3 b4 b5 l ld:Nat) (r:Loop) (fz:Array Value) (x:ByteArray) (q:Bool) (w:World):Prop where
 old:Bw w0 w
 fus:w.heap[b3]?=some (.cells fz tf)
 res:w.heap[b4]?=some (.cells #[.bool q] tb)
 hsh:w.heap[b5]?=some (.cells #[.string x] ts)
 list:w.heap[ld]?=some (.deferred (some []))
 loop:w.heap[l]?=some (.loop r)
section
variable{tf tb ts:TypeId}{b5 ld:Nat}{r:Loop}{fz:Array Value}{x:ByteArray}
theorem Cv.turn(h:Cv tf tb ts w0 b3 b4 b5 l ld r fz x q w)(f:w0.heap.size<=l)(a:Loop):Cv tf tb ts w0 b3 b4 b5 l ld a fz x q (bP w l a):=by
 have n:∀{b:Nat} {o:Obj},w.heap[b]?=some o->(∀r,o≠ .loop r)->b≠l:=λc d e=>by rw[e,h.loop]at c;exact d r (Option.some.inj c).symm
 exact⟨h.old.trans (em w _ _ f),(bD w _ (n h.fus (by intro r e;cases e))).trans h.fus,(bD w _ (n h.res (by intro r e;cases e))).trans h.res,(bD w _ (n h.hsh (by intro r e;cases e))).trans h.hsh,(bD w _ (n h.list (by intro r e;cases e))).trans h.list,gq h.loop⟩
theorem Cv.put(h:Cv tf tb ts w0 b3 b4 b5 l ld r fz x q w)(i:tf≠tb)(g:ts≠tb)(f:w0.heap.size<=b4)(p:Bool):Cv tf tb ts w0 b3 b4 b5 l ld r fz x p (w.setCell ⟨b4,0,none⟩ (.bool p)):=by
 have d:b3≠b4:=λe=>by have:=h.fus;rw[e,h.res]at this;injection this with this;injection this with _ this;exact i this.symm
 have c:b5≠b4:=λe=>by have:=h.hsh;rw[e,h.res]at this;injection this with this;injection this with _ this;exact g this.symm
 have b:l≠b4:=λe=>by have:=h.res;rw[←e,h.loop]at this;cases this
 have a:ld≠b4:=λe=>by have:=h.res;rw[←e,h.list]at this;cases this
 exact⟨h.old.trans (ee w _ _ f),(cA w _ d).trans h.fus,jn h.res,(cA w _ c).trans h.hsh,(cA w _ a).trans h.list,(cA w _ b).trans h.loop⟩
end
end
namespace L1
open Go.Conc Go.RowKit
section
variable{y z:Operand}
theorem Sk{a b:ByteArray}(c:o.op= .binOp .eql 9 x y t)(e:ev x= .s a)(d:ev y= .s b):(execOp ev o).run lT w= .ok (.value (.bool (a.data.toList==b.data.toList))) w:=by have g:=Xp a;have f:=Xp b;simp[execOp,c,e,d,go_sem,g,f]
theorem sy{p:Option Addr}{c:Nat}{ty e:TypeId}(d:lT.underlying ty=some (.slice e))(a:o.op= .call {callee:= .builtin .len,args:=#[.tmp k],argTypes:=#[ty]})(b:ev (.tmp k)= .slice p l c):(execOp ev o).run lT w= .ok (.value (.i l)) w:=by simp[execOp,a,resolve,b,invoke,builtin,Vy,run_underlying d,goInt]
theorem Bf(a:o.op= .call {callee:= .builtin .min,args:=#[.tmp k, .tmp j],argTypes:=#[3,3]})(c:ev (.tmp k)= .i m)(b:ev (.tmp j)= .i n):(execOp ev o).run lT w= .ok (.value (.i (min m n:Nat))) w:=by
 have h:(if (n:Int)<m then(n:Int)else m)=((min m n:Nat):Int):=by split<;>omega
 have e:(Builtin.min2 (.i m) (.i n):Sem Value)=pure (.i (min m n:Nat)):=by rw[←h];rfl
 simp[execOp,a,resolve,c,b,invoke,builtin,Builtin.min_,e]
theorem My(j:Nat)(f:j<4)(a:o.op= .fieldAddr 48 x j)(c:ev x= .pk b 0):(execOp ev o).run lT w= .ok (.value (.pk b j)) w:=by
 have e:execOp ev o=(do pure (.value (←TS 48 (.pk b 0) j))):=by simp only[execOp,a,c]
 have d:(do pure (.value (←TS 48 (.pk b 0) j)):Sem Next).run lT w= .ok (.value (.pk b j)) w:=by rcases(o_:j=0\/j=1\/j=2\/j=3)with rfl|rfl|rfl|rfl<;>kernel_rfl
 rw[e,d]
theorem Kz{p r:Bool}(a:o.op= .pick x y z)(b:ev x= .bool p)(d:p=true->ev y= .bool q)(c:ev z= .bool r):(execOp ev o).run lT w= .ok (.value (.bool (if p then q else r))) w:=by
 cases p
 ·simp[execOp,a,b,c,asBool]
 ·simp[execOp,a,b,d rfl,asBool]
theorem yH{st le:Int}{u h:Value}(a:o.op= .load 48 x)(d:ev x= .pk b 0)(c:w.heap[b]?=some (.cells (i7 st le u h) 48)):(execOp ev o).run lT w= .ok (.value (.agg (i7 st le u h))) w:=by
 have e:(isAgg 48).run lT w= .ok true w:=k_
 have c:=aG c;simp[execOp,a,d,Instr.loadAt,loadVar,e,loadCells,loadCellsFrom,W5,c,i7,go_sem]
theorem ze:xZ lT 4:=λw=>⟨k_,k_⟩
theorem qA:xZ lT 46:=λw=>⟨k_,k_⟩
theorem ff:xZ lT 25:=λw=>⟨k_,k_⟩
end
end L1
section
open Go.Conc Go.RowKit
structure Ex (X:Nat->Prop) (w w':World):Prop where
 os:w'.os=w.os
 output:w'.output=w.output
 tape:w'.tape=w.tape
 size:w.heap.size<=w'.heap.size
 block:∀b,b<w.heap.size->¬X b->w'.heap[b]?=w.heap[b]?
section
variable{X Y:Nat->Prop}{w'':World}
theorem Ex.trans(h:Ex X w w')(a:Ex Y w' w'')(f:∀b,b<w.heap.size->Y b->X b):Ex X w w'':=
 ⟨a.os.trans h.os,a.output.trans h.output,a.tape.trans h.tape,TW h.size a.size,λb c d=>(a.block b (TC c h.size) λe=>d (f b c e)).trans (h.block b c d)⟩
theorem Ex.of_below(h:Bw w w'):Ex X w w':=⟨h.os,h.output,h.tape,h.size,λb a _=>h.block b a⟩
theorem Ex.at(h:Ex X w w'){o:Obj}(c:¬X b)(a:w.heap[b]?=some o):w'.heap[b]?=some o:=(h.block b (aK a) c).trans a
def et(w:World)(b:Nat)(cs:Array Value)(t:TypeId):World:={w with heap:=w.heap.setIfInBounds b (.cells cs t)}
theorem cP{o:Obj}{cs:Array Value}(h:w.heap[b]?=some o):(et w b cs t).heap[b]?=some (.cells cs t):=by simp[et,aK h]
theorem bX{c:Nat}{cs:Array Value}(h:c≠b):(et w b cs t).heap[c]?=w.heap[c]?:=by simp only[et];exact tl h
theorem fY{cs:Array Value}:(et w b cs t).heap.size=w.heap.size:=by simp[et]
theorem gK(b:Nat)(cs:Array Value)(t:TypeId):Ex (· =b) w (et w b cs t):=⟨rfl,rfl,rfl,ZV fY.symm,λ_ _ h=>bX h⟩
theorem xf{cs cs':Array Value}{a:TypeId}:et (et w b cs t) b cs' a=et w b cs' a:=by simp[et]
theorem iL{cs:Array Value}(v:Value)(h:w.heap[b]?=some (.cells cs t)):w.setCell ⟨b,k,none⟩ v=et w b (cs.setIfInBounds k v) t:=by
 unfold U9 et
 congr 1
 apply WW;intro i;rw[UB];by_cases a:b=i
 ·subst a;rw[if_pos rfl,h,TF (aK h)];rfl
 ·rw[if_neg a,tl λe=>a e.symm]
theorem ie{cs old:Array Value}(h:w.heap[b]?=some (.cells old t)):w.setRow b cs=et w b cs t:=by
 unfold World.setRow et
 congr 1
 apply WW;intro i;rw[UB];by_cases a:b=i
 ·subst a;rw[if_pos rfl,h,TF (aK h)];rfl
 ·rw[if_neg a,tl λe=>a e.symm]
end
def mn(fl:Value)(W K:List Int)(on:Bool)(sl:Int):Array Value:=(fl::(W.map (Value.int .i64)++(K.map (Value.int .u8)++[.bool on, .int .i64 sl]))).toArray
section
variable{fl:Value}{W K:List Int}{on:Bool}{sl:Int}
theorem TA:(mn fl W K on sl)[0]?=some fl:=rfl
theorem RH(i:Nat)(h:i<W.length):(mn fl W K on sl)[1+i]?=some (.i W[i]):=by simp[mn,Nat.add_comm 1 i,Ue,h]
theorem T4(a:W.length=85)(i:Nat)(h:i<K.length):(mn fl W K on sl)[86+i]?=some (.int .u8 K[i]):=by rw[show 86+i=(85+i)+1 by omega];simp[mn,List.getElem?_append_right,Ue,a,h]
theorem sJ(a:W.length=85)(b:K.length=16):(mn fl W K on sl).size=104:=by simp[mn,a,b]
theorem DR(a:W.length=85)(i:Nat)(h:i<K.length)(v:Int):(mn fl W K on sl).setIfInBounds (86+i) (.int .u8 v)=mn fl W (K.set i v) on sl:=by simp only[mn,Xl];rw[show 86+i=(85+i)+1 by omega,ZM,Vo _ _ (by simp[a]),List.set_append_left _ _ (by simp[a];omega),YZ];simp[a]
theorem DT(c:W.length=85)(d:K.length=16)(b:Bool)(a:Int):((mn fl W K on sl).setIfInBounds 102 (.bool b)).setIfInBounds 103 (.i a)=mn fl W K b a:=by simp only[mn,Xl];rw[ZM,Vo _ _ (by simp[c]),Vo _ _ (by simp[c,d])];simp[c,d,Vo]
end
section
theorem jb{R:Ending->World->Prop}(c:P.funcs[f]?=some fn)(b:fn.results=#[])
 (h:∀cs,Rn P (λg w'=>∃(a:Act) (k:List Item),g=cJ {(base f).atR a k with mode:= .returning} cs/\a.defers=[]/\R (.returned (.tuple #[])) w') (TJ P f args .normal) cs w):Calls P f args w R:=λcs=>by obtain⟨j,w',i,a,k,rfl,e,d⟩:=h cs;refine⟨.returned (.tuple #[]),w',{(base f).atR a k with mode:= .returning},d,W3 i,rfl,rfl,e,rfl,fn,c, ?_⟩;show(results fn a.tmps).run P w'=_;simp[results,b]
variable{k:List Item}
theorem Rn.g0{R:World->Prop}(c:aW F N [] a)(b:R w)(d:gk 6 ((base f).atR a k)=[]:=by rfl):
 Rn P (λg w'=>∃(a:Act) (k:List Item),g=cJ {(base f).atR a k with mode:= .returning} cs/\a.defers=[]/\R w') ((base f).atR a k) cs w:=
 Rn.runs 6 k (by rw[d];exact Rn.ends rfl (.inl rfl) (Rn.now ⟨a,_,rfl,c.defers,b⟩))
end
end
namespace L1
open Go.Conc Go.RowKit
section
variable{y z:Operand}
theorem GL{g:Addr}(a:o.op= .nilCheck x)(b:ev x= .pointer (some g)):(execOp ev o).run lT w= .ok (.value (.pointer (some g))) w:=by simp[execOp,a,b]
theorem KJ(a:o.op= .fieldAddr 82 x 0)(c:ev x= .pk b 0):(execOp ev o).run lT w= .ok (.value (.pk b 0)) w:=by
 have e:execOp ev o=(do pure (.value (←TS 82 (.pk b 0) 0))):=by simp only[execOp,a,c]
 have d:(do pure (.value (←TS 82 (.pk b 0) 0)):Sem Next).run lT w= .ok (.value (.pk b 0)) w:=k_
 rw[e,d]
theorem KI(a:o.op= .fieldAddr 82 x 1)(c:ev x= .pk b 0):(execOp ev o).run lT w= .ok (.value (.pk b 1)) w:=by
 have e:execOp ev o=(do pure (.value (←TS 82 (.pk b 0) 1))):=by simp only[execOp,a,c]
 have d:(do pure (.value (←TS 82 (.pk b 0) 1)):Sem Next).run lT w= .ok (.value (.pk b 1)) w:=k_
 rw[e,d]
theorem KH(a:o.op= .fieldAddr 82 x 2)(c:ev x= .pk b 0):(execOp ev o).run lT w= .ok (.value (.pk b 86)) w:=by
 have e:execOp ev o=(do pure (.value (←TS 82 (.pk b 0) 2))):=by simp only[execOp,a,c]
 have d:(do pure (.value (←TS 82 (.pk b 0) 2)):Sem Next).run lT w= .ok (.value (.pk b 86)) w:=k_
 rw[e,d]
theorem KG(a:o.op= .fieldAddr 82 x 3)(c:ev x= .pk b 0):(execOp ev o).run lT w= .ok (.value (.pk b 102)) w:=by
 have e:execOp ev o=(do pure (.value (←TS 82 (.pk b 0) 3))):=by simp only[execOp,a,c]
 have d:(do pure (.value (←TS 82 (.pk b 0) 3)):Sem Next).run lT w= .ok (.value (.pk b 102)) w:=k_
 rw[e,d]
theorem CW(j:Nat)(f:j<3)(a:o.op= .fieldAddr 75 x j)(c:ev x= .pk b 0):(execOp ev o).run lT w= .ok (.value (.pk b j)) w:=by
 have e:execOp ev o=(do pure (.value (←TS 75 (.pk b 0) j))):=by simp only[execOp,a,c]
 have d:(do pure (.value (←TS 75 (.pk b 0) j)):Sem Next).run lT w= .ok (.value (.pk b j)) w:=by rcases(o_:j=0\/j=1\/j=2)with rfl|rfl|rfl<;>kernel_rfl
 rw[e,d]
theorem Ts(j:Nat)(f:j<5)(a:o.op= .fieldAddr 36 x j)(c:ev x= .pk b 0):(execOp ev o).run lT w= .ok (.value (.pk b j)) w:=by
 have e:execOp ev o=(do pure (.value (←TS 36 (.pk b 0) j))):=by simp only[execOp,a,c]
 have d:(do pure (.value (←TS 36 (.pk b 0) j)):Sem Next).run lT w= .ok (.value (.pk b j)) w:=by rcases(o_:j=0\/j=1\/j=2\/j=3\/j=4)with rfl|rfl|rfl|rfl|rfl<;>kernel_rfl
 rw[e,d]
theorem KF(a:o.op= .fieldAddr 61 x 0)(c:ev x= .pk b 0):(execOp ev o).run lT w= .ok (.value (.pk b 0)) w:=by
 have e:execOp ev o=(do pure (.value (←TS 61 (.pk b 0) 0))):=by simp only[execOp,a,c]
 have d:(do pure (.value (←TS 61 (.pk b 0) 0)):Sem Next).run lT w= .ok (.value (.pk b 0)) w:=k_
 rw[e,d]
theorem Dg:xZ lT 59:=λw=>⟨k_,k_⟩
theorem Ho:xZ lT 5:=λw=>⟨k_,k_⟩
theorem Tq:xZ lT 62:=λw=>⟨k_,k_⟩
theorem R1(a:o.op= .indexAddr 78 x (.const (.i 0)))(c:ev x= .pk b 86)(d:ev (.const (.i 0))= .i 0):(execOp ev o).run lT w= .ok (.value (.pk b 86)) w:=by
 have e:execOp ev o=(do pure (.value (←V3 78 (.pk b 86) (.i 0)))):=by simp only[execOp,a,c,d]
 have f:(do pure (.value (←V3 78 (.pk b 86) (.i 0))):Sem Next).run lT w= .ok (.value (.pk b 86)) w:=k_
 rw[e,f]
theorem R0(j:n<16)(a:o.op= .indexAddr 78 x y)(e:ev x= .pk b 86)(d:ev y= .int .u8 n):(execOp ev o).run lT w= .ok (.value (.pk b (86+n))) w:=by
 have f:lT.underlying 78=some (.array 16 5):=k_
 have g:(sizeOf 5).run lT w= .ok 1 w:=k_
 have c:(n:Int)<16:=o_
 have i:(if n=0 then(⟨b,86,none⟩:Addr)else⟨b,86+n,none⟩)=⟨b,86+n,none⟩:=by
  split
  ·rename_i h;rw[h]
  ·rfl
 simp[execOp,a,e,d,go_sem,f,g,c,W5,i]
theorem gj{cs:Array Value}{d:TypeId}(hv:v.cells=#[v])(a:v.oneCell'=true)(g:(sizeOf t).run lT w= .ok 1 w)(c:o.op= .store t x y)(f:ev x= .pk b k)(e:ev y=v)(h:w.heap[b]?=some (.cells cs d))(i:k<cs.size):
 (execOp ev o).run lT w= .ok .skip (et w b (cs.setIfInBounds k v) d):=by rw[←iL v h];exact(eI (v0:=cs[k]) hv a g c f e (by rw[aG h];simp[i]) (by simp[Ux,h])).1
theorem O0{m n:Int}(a:o.op= .binOp .leq 3 x y u)(c:ev x= .i m)(b:ev y= .i n):(execOp ev o).run lT w= .ok (.value (.bool (decide (m<=n)))) w:=by simp[execOp,a,c,b,go_sem]
theorem Ky(a:o.op= .binOp .rem 5 x y u)(d:ev x= .int .u8 m)(c:ev y= .int .u8 n)(f:0<n):(execOp ev o).run lT w= .ok (.value (.int .u8 ((m%n:Nat):Int))) w:=by
 have e:(m:Int).tmod (n:Int)=((m%n:Nat):Int):=by rw[Wp o_,YO]
 have b:¬n=0:=o_
 simp[execOp,a,d,c,go_sem,e,b]
theorem Da{m n:Int}(a:o.op= .binOp .add 5 x y u)(c:ev x= .int .u8 m)(b:ev y= .int .u8 n):(execOp ev o).run lT w= .ok (.value (.int .u8 (YY.wrap (m+n)))) w:=by simp[execOp,a,c,b,go_sem]
theorem CO{on:Bool}{sl:Int}{cs:Array Value}{a:TypeId}(c:o.op= .store 80 x y)(l:ev x= .pk b 102)(j:ev y= .agg #[.bool on, .i sl])(h:w.heap[b]?=some (.cells cs a))(g:cs.size=104):
 (execOp ev o).run lT w= .ok .skip (et w b ((cs.setIfInBounds 102 (.bool on)).setIfInBounds 103 (.i sl)) a):=by
 have m:(sizeOf 80).run lT w= .ok 2 w:=k_
 have p:w.cell? ⟨b,102,none⟩=some cs[102]:=by rw[aG h];simp[g]
 have r:w.frozen? ⟨b,102,none⟩=false:=by simp[Ux,h]
 have f:=iL (k:=102) (.bool on) h;have d:=cP (w:=w) (cs:=cs.setIfInBounds 102 (.bool on)) (t:=a) h;have n:(w.setCell ⟨b,102,none⟩ (.bool on)).cell? ⟨b,103,none⟩=some cs[103]:=by rw[f,aG d];simp[g]
 have q:(w.setCell ⟨b,102,none⟩ (.bool on)).frozen? ⟨b,103,none⟩=false:=by rw[f];simp[Ux,d]
 have i:=iL (k:=103) (.i sl) d;rw[xf,←f]at i;have e:execOp ev o=(do VH 80 (.pk b 102) (.agg #[.bool on, .i sl]);pure .skip):=by simp only[execOp,c,l,j]
 rw[e,←i];simp[VH,storeVar,Value.cells,m,storeCells,W5,p,r,n,q,go_sem]
theorem NY(a:o.op= .build 80 #[]):(execOp ev o).run lT w= .ok (.value (.agg #[.bool false, .i 0])) w:=by
 have e:execOp ev o=(do pure (.value (←Uj 80 #[]))):=by simp[execOp,a]
 have b:(do pure (.value (←Uj 80 #[])):Sem Next).run lT w= .ok (.value (.agg #[.bool false, .i 0])) w:=k_
 rw[e,b]
theorem NX{sl:Int}(a:o.op= .build 80 #[(0,x),(1,y)])(c:ev x= .bool true)(b:ev y= .i sl):(execOp ev o).run lT w= .ok (.value (.agg #[.bool true, .i sl])) w:=by
 have e:execOp ev o=(do pure (.value (←Uj 80 #[(0, .bool true),(1, .i sl)]))):=by simp[execOp,a,c,b]
 have d:(do pure (.value (←Uj 80 #[(0, .bool true),(1, .i sl)])):Sem Next).run lT w= .ok (.value (.agg #[.bool true, .i sl])) w:=k_
 rw[e,d]
end
theorem oc{p:Prop}(h:p:=by
 first
 |exact oq
 |exact GL ho gx
 |exact KJ ho gx
 |exact KI ho gx
 |exact KH ho gx
 |exact KG ho gx
 |exact CW _ d_ ho gx
 |exact Ts _ d_ ho gx
 |exact KF ho gx
 |exact O0 ho gx gx
 |exact NY ho
 |exact NX ho gx gx
 |exact R1 ho gx gx
 |exact(aO (by first|exact Dg|exact Ho|exact Tq) ho gx ((aG (by assumption) _).trans rfl)).1):p:=h
section
variable{b:Frame}{k:List Item}
theorem Rn.uc{k':List Item}{d:Tmp}{p:Op}{v:Value}{gd:Option (Nat×Bool)}(hF:aW F N ds a)(next:∀a',aW ((d,v)::F) N ds a'->Rn P Goal (b.atR a' (.inRegion ops rest::k')) cs w)(h0:gk 6 (b.atR a k)= .inRegion ops (m::rest)::k':=by rfl)
 (h:(ops[m]?).map (λo=>(o.dst,o.op,o.guard))=some (some d,p,gd):=by rfl) (hw:gF ops F gd=true:=by rfl) (hy:∀o:Oper,o.op=p->(execOp a.eval o).run P w= .ok (.value v) w:=by intro o ho;exact oc) (hd:d<N:=by decide) (hnd:nd p=true:=by rfl):Rn P Goal (b.atR a k) cs w:=Rn.gr (Rn.qq hF next h hw hy hd hnd) h0
end
def dL(w:World)(cb:Nat)(fl:Value)(W:List Int)(on:Bool)(sl:Int):Prop:=W.length=85/\∃K:List Int,K.length=16/\(∀i (h:i<K.length),0<=K[i]/\K[i]<256)/\w.heap[cb]?=some (.cells (mn fl W K on sl) 82)
def iZ(cb:Nat)(room:Int)(cut:Bool):Array Value:=#[.pk cb 0, .int .i64 room, .bool cut]
theorem dL.ex{a:Nat}{fl:Value}{W:List Int}{on:Bool}{sl:Int}{X:Nat->Prop}(h:dL w a fl W on sl)(b:Ex X w w')(c:¬X a):dL w' a fl W on sl:=⟨h.1,let ⟨K,h1,h2,h3⟩:=h.2;⟨K,h1,h2,b.at c h3⟩⟩
section
variable{cb:Nat}{fl:Value}{W:List Int}{on:Bool}{sl:Int}
theorem OX:Tryz.f42.body=some (rG Tryz.f42 0):=k_
theorem sT(h:dL w cb fl W on sl):Calls lT 42 #[.pk cb 0] w λe w'=>e= .returned (.tuple #[])/\dL w' cb fl W false 0/\Ex (· =cb) w w'/\w'.heap.size=w.heap.size:=by
 obtain⟨c,K,d,i,f⟩:=h;refine jb Lf.func42 rfl λj=> ?_;rw[aZ (N:=6) [.pk cb 0] Lf.func42 OX rfl];have b:=aQ [.pk cb 0] 6 s_
 iterate 4 refine Rn.uc b λa b=> ?_
 refine Rn.nn b (λo g=>CO (on:=false) (sl:=0) g (b.G 5) (b.G 3) f (sJ c d)) λa b=> ?_;rw[DT c d];exact Rn.g0 b ⟨rfl,⟨c,K,d,i,cP f⟩,gK _ _ _,fY⟩
theorem P9:Tryz.f92.body=some (rG Tryz.f92 0):=k_
theorem zt(n:Int)(h:dL w cb fl W on sl):Calls lT 92 #[.pk cb 0, .i n] w λe w'=>e= .returned (.tuple #[])/\dL w' cb fl W true n/\Ex (· =cb) w w'/\w'.heap.size=w.heap.size:=by
 obtain⟨c,K,d,i,f⟩:=h;refine jb Lf.func92 rfl λj=> ?_;rw[aZ (N:=9) [.pk cb 0, .i n] Lf.func92 P9 rfl];have b:=aQ [.pk cb 0, .i n] 9 s_
 iterate 5 refine Rn.uc b λa b=> ?_
 refine Rn.nn b (λo g=>CO (on:=true) (sl:=n) g (b.G 8) (b.G 6) f (sJ c d)) λa b=> ?_;rw[DT c d];exact Rn.g0 b ⟨rfl,⟨c,K,d,i,cP f⟩,gK _ _ _,fY⟩
theorem Pg:Tryz.f88.body=some (.seq (rG Tryz.f88 0) (.seq (rG Tryz.f88 1) (rG Tryz.f88 2))):=k_
theorem Ib(n:Int)(x:0<=n/\n<256)(h:dL w cb fl W on sl):Calls lT 88 #[.pk cb 0, .int .u8 n] w λe w'=>e= .returned (.tuple #[])/\dL w' cb fl W on sl/\Ex (· =cb) w w'/\w'.heap.size=w.heap.size:=by
 obtain⟨f,K,r,k,g⟩:=h;refine jb Lf.func88 rfl λcs=> ?_;rw[aZ (N:=24) [.pk cb 0, .int .u8 n] Lf.func88 Pg rfl];have b:=aQ [.pk cb 0, .int .u8 n] 24 s_;obtain⟨c,q,z⟩:∃c:Nat,K[0]=(c:Int)/\c<256:=⟨(K[0]).toNat,by have:=k 0 o_;omega,by have:=k 0 o_;omega⟩;have s:=T4 (fl:=fl) (on:=on) (sl:=sl) f 0 (o_:0<K.length);rw[q]at s;have j:1+c%15<16:=o_
 have u:YY.wrap (1+((c%15:Nat):Int))=((1+c%15:Nat):Int):=by rw[Y9];omega
 iterate 4 refine Rn.uc b λa b=> ?_
 refine Rn.vv b (λo d=>(aO Ho d (b.G 8) ((aG g _).trans s)).1) λa b=> ?_
 iterate 3 refine Rn.uc b λa b=> ?_
 refine Rn.vv b (λo d=>Ky (n:=15) d (b.G 11) rfl o_) λa b=> ?_;refine Rn.vv b (λo d=>Da (m:=1) d rfl (b.G 12)) λa b=> ?_;rw[u]at b
 iterate 3 refine Rn.uc b λa b=> ?_
 refine Rn.vv b (λo d=>R0 j d (b.G 16) (b.G 13)) λa b=> ?_;refine Rn.nn b (λo d=>gj (v:= .int .u8 n) rfl rfl k_ d (b.G 17) (b.G 14) g (by rw[sJ f r];omega)) λa b=> ?_;rw[DR f _ o_];have p:=cP (cs:=mn fl W (K.set (1+c%15) n) on sl) (t:=82) g
 iterate 2 refine Rn.uc b λa b=> ?_
 refine Rn.vv b (λo d=>Da (n:=1) d (b.G 19) rfl) λa b=> ?_
 iterate 3 refine Rn.uc b λa b=> ?_
 refine Rn.nn b (λo d=>gj (v:= .int .u8 (YY.wrap (c+1))) rfl rfl k_ d (b.G 23) (b.G 20) p (by rw[sJ f (by simpa using r)];omega)) λa b=> ?_;rw[show(86:Nat)=86+0 from rfl,DR f _ (by simp;omega),xf];refine Rn.g0 b ⟨rfl,⟨f,_,by simpa using r,λi y=> ?_,cP g⟩,gK _ _ _,fY⟩;have l:i<K.length:=by simpa using y
 rw[YL,YL];split
 ·rw[Y9];omega
 ·split
  ·exact x
  ·exact k i l
theorem IV:Tryz.f73.body=some (.seq (.seq (rG Tryz.f73 0) (.cond (.tmp 8) (.seq (rG Tryz.f73 1) (rG Tryz.f73 2)) .skip)) (.seq (rG Tryz.f73 3) (rG Tryz.f73 4))):=k_
theorem tM{d:Nat}{room:Int}(n:Int)(A:0<room)(u:room<9223372036854775808)(h:dL w cb fl W on sl)(k:w.heap[d]?=some (.cells (iZ cb room false) 75)):Calls lT 73 #[.pk d 0, .i n] w λe w'=>e= .returned (.tuple #[])/\dL w' cb fl W on sl/\w'.heap[d]?=some (.cells (iZ cb (room- 1) false) 75)/\Ex (λb=>b=cb\/b=d) w w'/\w'.heap.size=w.heap.size:=by
 have j:cb≠d:=λe=>by obtain⟨C,K,D,B,i⟩:=h;rw[e,k]at i;injection i with i;injection i with _ i;cases i
 refine jb Lf.func73 rfl λcs=> ?_;rw[aZ (N:=27) [.pk d 0, .i n] Lf.func73 IV rfl];have c:=aQ [.pk d 0, .i n] 27 s_
 iterate 5 refine Rn.uc c λa c=> ?_
 refine Rn.p rfl (Rn.cond _ (c.G 8) ?_);rw[decide_eq_false (o_:¬room<=0)]
 iterate 7 refine Rn.uc c λa c=> ?_
 refine Rn.nn c (λo m=>gj (v:= .i (room- 1)) rfl rfl k_ m (c.G 19) (c.G 17) k (d_:1<3)) λa c=> ?_;rw[show(iZ cb room false).setIfInBounds 1 (.i (room- 1))=iZ cb (room- 1) false from rfl];have g:=cP (cs:=iZ cb (room- 1) false) (t:=75) k;have f:=gK (w:=w) d (iZ cb (room- 1) false) 75;have l:=fY (w:=w) (b:=d) (cs:=iZ cb (room- 1) false) (t:=75);have p:=h.ex f j;revert g f p l;generalize et w d (iZ cb (room- 1) false) 75=z;intro g f l p
 iterate 5 refine Rn.uc c λa c=> ?_
 refine Rn.vv c (λo m=>yI m (c.G 24)) λa c=> ?_;refine Rn.cw c Lf.func88 (Ib (YY.wrap n) (by rw[Y9];omega) p) λy ⟨x,q,r⟩ a c=> ?_;exact Rn.g0 c ⟨rfl,x,q.at (UP j) g,(Ex.trans (X:=λb=>b=cb\/b=d) ⟨f.os,f.output,f.tape,f.size,λb k s=>f.block b k λe=>s (.inr e)⟩ q λb _ e=> .inl e),r.trans l⟩
end
end L1
section
open Go.RowKit
def dq(L:List UInt8)(a b:Nat):List UInt8:=(L.take b).drop a
theorem nv(L:List UInt8)(a b:Nat)(h:b<=L.length):(dq L a b).length=b- a:=by simp[dq];omega
def uC(v n i:Nat):List Value:=bH ((cY v n).take i)++TZ (n- i) (.int .u8 0)
theorem Ek(v n i:Nat)(h:i<=n):(uC v n i).length=n:=by simp[uC,bH,db];omega
theorem Gn(v n:Nat):uC v n 0=TZ n (.int .u8 0):=by simp[uC,bH]
theorem Nu(v n:Nat):uC v n n=bH (cY v n):=by simp[uC,db,UU]
theorem Nt(v n i:Nat)(h:i<n)(x:Int)(b:x=((v/256^(n- 1- i)%256:Nat):Int)):(uC v n i).set i (.int .u8 x)=uC v n (i+1):=by
 subst b;have a:=Hv n v i h;obtain⟨c,a⟩:=TM.1 a;rw[uC,uC,show n- i=(n-(i+1))+1 from o_,List.replicate_succ,VV c,a,Vo _ _ (by simp[bH,db];omega)];have e:i-(bH ((cY v n).take i)).length=0:=by simp[bH,db];omega
 rw[e];simp[bH]
theorem QL(v n i:Nat):(v:Int)/2^(8*(n- 1- i))%256=((v/256^(n- 1- i)%256:Nat):Int):=by rw[Int.pow_mul,show((2:Int)^8)=((256:Nat):Int)from d_,←UY,←W0,←show((256:Nat):Int)=256 from rfl,←YO]
theorem cO{p q:Tmp}{ty:TypeId}(h:fn.results=#[.cell p ty, .tmp q])(tmps:Array Value)(w:World)(b o:Nat)(cs:List Value)(d:TypeDesc)(v:Value)
 (f:tmps.getD p undef= .pk b o) (j:w.rangeAt b o cs) (hv:tmps.getD q undef=v)
 (e:P.underlying ty=some d) (i:d.isRow=true) (g:(P.info? ty).map (·.size)=some cs.length):
 (results fn tmps).run P w= .ok (.tuple #[.agg cs.toArray,v]) w:=by
 have c:tmps[p]?.getD undef= .pk b o:=by simpa using f
 have a:tmps[q]?.getD undef=v:=by simpa using hv
 simp[results,h,c,a,asAddr,run_loadVar_mid w b o ty cs d j e i g]
theorem kh(s:ByteArray)(a b:Nat):s.extract a b=⟨(dq s.data.toList a b).toArray⟩:=by obtain⟨⟨l⟩⟩:=s;apply ByteArray.ext;simp[dq,List.drop_take,List.extract]
def Fi(v s e a l:Int)(k:List UInt8):List Value:=[.int .i64 v, .int .i64 s, .int .i64 e, .int .i64 a, .int .i64 l, .string ⟨k.toArray⟩]
def jB:List Value:=Fi 0 0 0 0 0 []
def sI(v sg en a l:Int)(k:List UInt8):List Value×Int:=
 if sg<78\/8192<sg\/a<sg\/8192<a+l then(jB,5)else
 if en%4≠0\/en<78\/sg<=en then(jB,6)else
 (Fi v sg en a l k,0)
def pf(L:List UInt8):List Value×Int:=
 if L.length<8192 then(jB,3)else
 if L.take 4≠[76,78,84,76]then(jB,4)else
 sI (fq (dq L 4 6)) (fq (dq L 6 10)) (fq (dq L 10 14)) (fq (dq L 14 18)) (fq (dq L 18 22)) (dq L 22 78)
theorem vS(L:List UInt8):(pf L).1=jB\/∃v b en a l k,(pf L).1=Fi v b en a l k:=by
 unfold pf;split
 ·exact .inl rfl
 ·split
  ·exact .inl rfl
  ·unfold sI;split
   ·exact .inl rfl
   ·split
    ·exact .inl rfl
    ·exact .inr ⟨_,_,_,_,_,_,rfl⟩
theorem Lp(L:List UInt8):(pf L).1.length=6:=by rcases vS L with h|⟨v,b,c,a,l,k,h⟩<;>rw[h]<;>rfl
theorem Lo(L:List UInt8):∀v∈(pf L).1,v.oneCell'=true:=by
 rcases vS L with h|⟨v,c,d,a,l,k,h⟩
 ·rw[h];intro v b;simp[jB,Fi]at b;rcases b with rfl|rfl<;>rfl
 ·rw[h];intro v b;simp[Fi]at b;rcases b with rfl|rfl|rfl|rfl|rfl|rfl<;>rfl
end
namespace L1
open Go.RowKit
theorem FM(s:ByteArray)(w:World)(a:s.size<=281474976710656):Calls lT 95 #[.s s] w λe w'=>e= .returned (.s s)/\Bw w w':=by
 go_enter Lf.func95,Tryz.ntmps95
 go_wp2_with (go_at_call 100;refine(Lf.stringslite_Clone s _ a).mono ?_;rintro e w' ⟨rfl,b⟩)
 go_ret
 exact⟨rfl,b⟩
theorem Ii(s:ByteArray)(w:World)(hs:s.size<=281474976000000):
 Calls lT 89 #[.s s] w λe w'=>e= .returned (.tuple #[.agg (pf s.data.toList).1.toArray, .i (pf s.data.toList).2])/\Bw w w':=by
 have i:s.data.toList.length=s.size:=by rw[V4];rfl
 by_cases H:s.size<8192
 ·have E:pf s.data.toList=(jB,3):=by rw[pf,if_pos (by rw[i];exact H)]
  rw[E];have G:(s.size:Int)<8192:=o_
  go_enter Lf.func89,Tryz.ntmps89
  go_wp2_with fail
  exact bodyPost_ret (v:= .tuple #[.agg jB.toArray, .i 3]) (cO (p:=2) (q:=3) (ty:=133) k_ _ _ w.heap.size 0 jB _ _ rfl (ed _ jB _ _ rfl) rfl Lf.underlying133 rfl k_) rfl ⟨rfl,(bR).alloc (TB _) _⟩
 ·have G:¬(s.size:Int)<8192:=o_
  have a0:(8192:Int)<=(s.size:Int):=o_
  have g:=λa b (h:b<=8192)=>nv s.data.toList a b (by rw[i];omega);have Z:s.extract 0 4=⟨(s.data.toList.take 4).toArray⟩:=by rw[kh];rfl
  by_cases y:s.data.toList.take 4≠[76,78,84,76]
  ·have E:pf s.data.toList=(jB,4):=(by rw[pf,if_neg (by rw[i];exact H),if_pos y]);rw[E];have F:(s.data.toList.take 4==[76,78,84,76])=false:=by rw[beq_eq_false_iff_ne];exact y
   go_enter Lf.func89,Tryz.ntmps89
   go_wp2_with fail
   exact bodyPost_ret (v:= .tuple #[.agg jB.toArray, .i 4]) (cO (p:=2) (q:=3) (ty:=133) k_ _ _ w.heap.size 0 jB _ _ rfl (ed _ jB _ _ rfl) rfl Lf.underlying133 rfl k_) rfl ⟨rfl,(bR).alloc (TB _) _⟩
  ·have x:s.data.toList.take 4=[76,78,84,76]:=Classical.not_not.1 y;have F:(s.data.toList.take 4==[76,78,84,76])=true:=(by rw[beq_iff_eq];exact x);rw[show pf s.data.toList=sI (fq (dq s.data.toList 4 6)) (fq (dq s.data.toList 6 10)) (fq (dq s.data.toList 10 14)) (fq (dq s.data.toList 14 18)) (fq (dq s.data.toList 18 22)) (dq s.data.toList 22 78)from by rw[pf,if_neg (by rw[i];exact H),if_neg y]];have t:Hid (∀a b,b<=8192->(dq s.data.toList a b).length=b- a):=g;have r:∀a b,b<=8192->b- a<=4->0<=fq (dq s.data.toList a b)/\fq (dq s.data.toList a b)<4294967296:=λa b h h'=>pG _ 4 (by rw[g a b h];exact h');have O:=r 4 6 o_ o_;have N:=r 6 10 o_ o_;have M:=r 10 14 o_ o_;have L:=r 14 18 o_ o_;have K:=r 18 22 o_ o_;clear r g y x
   go_enter Lf.func89,Tryz.ntmps89
   go_wp2_with fail
   rw[kh];refine(eM _ _ (by show(dq s.data.toList 4 6).toArray.size<=8;rw[Uq,t.out _ _ o_];omega)).mono ?_;rintro e m ⟨rfl,rfl⟩
   go_wp2_with fail
   rw[kh];refine(eM _ _ (by show(dq s.data.toList 6 10).toArray.size<=8;rw[Uq,t.out _ _ o_];omega)).mono ?_;rintro e m ⟨rfl,rfl⟩
   go_wp2_with fail
   rw[kh];refine(eM _ _ (by show(dq s.data.toList 10 14).toArray.size<=8;rw[Uq,t.out _ _ o_];omega)).mono ?_;rintro e m ⟨rfl,rfl⟩
   go_wp2_with fail
   rw[kh];refine(eM _ _ (by show(dq s.data.toList 14 18).toArray.size<=8;rw[Uq,t.out _ _ o_];omega)).mono ?_;rintro e m ⟨rfl,rfl⟩
   go_wp2_with fail
   rw[kh];refine(eM _ _ (by show(dq s.data.toList 18 22).toArray.size<=8;rw[Uq,t.out _ _ o_];omega)).mono ?_;rintro e m ⟨rfl,rfl⟩;rw[show(ByteArray.mk (dq s.data.toList 18 22).toArray).data.toList=dq s.data.toList 18 22 from rfl];obtain⟨v,A⟩:∃v,fq (dq s.data.toList 4 6)=v:=⟨_,rfl⟩;obtain⟨c,j⟩:∃v,fq (dq s.data.toList 6 10)=v:=⟨_,rfl⟩;obtain⟨d,k⟩:∃v,fq (dq s.data.toList 10 14)=v:=⟨_,rfl⟩;obtain⟨a,C⟩:∃v,fq (dq s.data.toList 14 18)=v:=⟨_,rfl⟩;obtain⟨l,B⟩:∃v,fq (dq s.data.toList 18 22)=v:=⟨_,rfl⟩;have n:Hid (sI (fq (dq s.data.toList 4 6)) (fq (dq s.data.toList 6 10)) (fq (dq s.data.toList 10 14)) (fq (dq s.data.toList 14 18)) (fq (dq s.data.toList 18 22)) (dq s.data.toList 22 78)=sI v c d a l (dq s.data.toList 22 78)):=by show sI _ _ _ _ _ _=_;rw[A,j,k,C,B]
   rw[A,j,k,C,B];rw[A]at O;rw[j]at N;rw[k]at M;rw[C]at L;rw[B]at K;clear A j k C B;obtain⟨Y,X⟩:=O;obtain⟨W,V⟩:=N;obtain⟨U,T⟩:=M;obtain⟨S,R⟩:=L;obtain⟨Q,P⟩:=K;have hw:UV.wrap (a+l)=a+l:=(by rw[Vz,Int.emod_eq_of_lt o_ o_]);by_cases c1:c<78
   ·have f:sI v c d a l (dq s.data.toList 22 78)=(jB,5):=by rw[sI,if_pos o_]
    go_wp2_with fail
    exact bodyPost_ret (v:= .tuple #[.agg jB.toArray, .i 5]) (cO (p:=2) (q:=3) (ty:=133) k_ _ _ w.heap.size 0 jB _ _ rfl (ed _ jB _ _ rfl) rfl Lf.underlying133 rfl k_) rfl ⟨by rw[n.out,f],(bR).alloc (TB _) _⟩
   ·have a6:¬c<78:=c1;by_cases c2:8192<c
    ·have f:sI v c d a l (dq s.data.toList 22 78)=(jB,5):=by rw[sI,if_pos o_]
     go_wp2_with fail
     exact bodyPost_ret (v:= .tuple #[.agg jB.toArray, .i 5]) (cO (p:=2) (q:=3) (ty:=133) k_ _ _ w.heap.size 0 jB _ _ rfl (ed _ jB _ _ rfl) rfl Lf.underlying133 rfl k_) rfl ⟨by rw[n.out,f],(bR).alloc (TB _) _⟩
    ·have a5:¬8192<c:=c2;by_cases c3:a<c
     ·have f:sI v c d a l (dq s.data.toList 22 78)=(jB,5):=by rw[sI,if_pos o_]
      go_wp2_with fail
      exact bodyPost_ret (v:= .tuple #[.agg jB.toArray, .i 5]) (cO (p:=2) (q:=3) (ty:=133) k_ _ _ w.heap.size 0 jB _ _ rfl (ed _ jB _ _ rfl) rfl Lf.underlying133 rfl k_) rfl ⟨by rw[n.out,f],(bR).alloc (TB _) _⟩
     ·have a4:¬a<c:=c3;by_cases c4:8192<a+l
      ·have f:sI v c d a l (dq s.data.toList 22 78)=(jB,5):=by rw[sI,if_pos o_]
       go_wp2_with fail
       exact bodyPost_ret (v:= .tuple #[.agg jB.toArray, .i 5]) (cO (p:=2) (q:=3) (ty:=133) k_ _ _ w.heap.size 0 jB _ _ rfl (ed _ jB _ _ rfl) rfl Lf.underlying133 rfl k_) rfl ⟨by rw[n.out,f],(bR).alloc (TB _) _⟩
      ·have a3:¬8192<a+l:=c4;have D:¬(c<78\/8192<c\/a<c\/8192<a+l):=o_;by_cases d1:d%4≠0
       ·have f:sI v c d a l (dq s.data.toList 22 78)=(jB,6):=(by rw[sI,if_neg D,if_pos o_]);have I:(d%4==0)=false:=by rw[beq_eq_false_iff_ne];exact d1
        go_wp2_with fail
        exact bodyPost_ret (v:= .tuple #[.agg jB.toArray, .i 6]) (cO (p:=2) (q:=3) (ty:=133) k_ _ _ w.heap.size 0 jB _ _ rfl (ed _ jB _ _ rfl) rfl Lf.underlying133 rfl k_) rfl ⟨by rw[n.out,f],(bR).alloc (TB _) _⟩
       ·have I:(d%4==0)=true:=(by rw[beq_iff_eq];omega);by_cases d2:d<78
        ·have f:sI v c d a l (dq s.data.toList 22 78)=(jB,6):=by rw[sI,if_neg D,if_pos o_]
         go_wp2_with fail
         exact bodyPost_ret (v:= .tuple #[.agg jB.toArray, .i 6]) (cO (p:=2) (q:=3) (ty:=133) k_ _ _ w.heap.size 0 jB _ _ rfl (ed _ jB _ _ rfl) rfl Lf.underlying133 rfl k_) rfl ⟨by rw[n.out,f],(bR).alloc (TB _) _⟩
        ·have a2:¬d<78:=d2;by_cases d3:c<=d
         ·have f:sI v c d a l (dq s.data.toList 22 78)=(jB,6):=by rw[sI,if_neg D,if_pos o_]
          go_wp2_with fail
          exact bodyPost_ret (v:= .tuple #[.agg jB.toArray, .i 6]) (cO (p:=2) (q:=3) (ty:=133) k_ _ _ w.heap.size 0 jB _ _ rfl (ed _ jB _ _ rfl) rfl Lf.underlying133 rfl k_) rfl ⟨by rw[n.out,f],(bR).alloc (TB _) _⟩
         ·have a1:¬c<=d:=d3;have f:sI v c d a l (dq s.data.toList 22 78)=(Fi v c d a l (dq s.data.toList 22 78),0):=by rw[sI,if_neg D,if_neg o_]
          go_wp2_with fail
          rw[kh];refine(FM _ _ (by show(dq s.data.toList 22 78).toArray.size<=_;rw[Uq,t.out _ _ o_];omega)).mono ?_;rintro e m ⟨rfl,o⟩;have u:m.there w.heap.size 0 6:=fw o s_ (fa _ _ _ _ _ rfl rfl);have J:Hid (Bw w m):=((bR).alloc (TB _) _).trans (o.mono s_);have y1:U2.wrap v=v:=(by rw[TR];omega);have y2:U2.wrap c=c:=(by rw[TR];omega);have y3:U2.wrap d=d:=(by rw[TR];omega);have y4:U2.wrap a=a:=(by rw[TR];omega);have y5:U2.wrap l=l:=(by rw[TR];omega);have z:Hid (m.there w.heap.size 0 (Fi v c d a l (dq s.data.toList 22 78)).toArray.size):=u;clear o u
          go_wp2_with (refine wpList_store_mid rfl 133 (.tmp 2) (.tmp 76) rfl w.heap.size 0 (Fi v c d a l (dq s.data.toList 22 78)).toArray rfl rfl z.out k_ k_ ?_)
          exact bodyPost_ret (v:= .tuple #[.agg (Fi v c d a l (dq s.data.toList 22 78)).toArray, .i 0]) (cO (p:=2) (q:=3) (ty:=133) k_ _ _ w.heap.size 0 (Fi v c d a l (dq s.data.toList 22 78)) _ _ rfl (World.rangeAt_setCells_same _ _ _ _ z.out) rfl Lf.underlying133 rfl k_) rfl ⟨by rw[n.out,f],dU (TB _) _ _ _ _ J.out⟩
end L1
namespace L1
open Go.Conc Go.RowKit
def eE(r:Int)(j:Bool)(s e c:Int):Array Value:=#[.int .i64 r, .bool j, .int .i64 s, .int .i64 e, .int .i64 c]
def XR(cb rb:Nat):Nat->Prop:=λb=>b=cb\/b=rb
def lK(w:World)(fl:Value)(L:ByteArray):Prop:=L.size=16384/\∃fb cap cells fr,fl= .sk fb 16384 cap/\16384<=cap/\w.heap[fb]?=some (.cells cells 5 fr)/\16384<=fr.1/\∀j (h:j<L.data.toList.length),cells[j]?=some (.int .u8 (L.data.toList[j].toNat:Int))
def N3(n:Nat)(fl:Value):Prop:=∃b l c,fl= .sk b l c/\n<=b
theorem lK.keep{fl:Value}{L:ByteArray}{X:Nat->Prop}(h:lK w fl L)(e:Ex X w w')(f:∀b cs fr,w.heap[b]?=some (.cells cs 5 fr)->¬X b):lK w' fl L:=by obtain⟨k,l,c,a,fr,j,i,d,g⟩:=h;exact⟨k,l,c,a,fr,j,i,e.at (f _ _ _ d) d,g⟩
theorem oH{e d:Nat}{fl:Value}{W:List Int}{on:Bool}{sl:Int}{c:Array Value}(h:dL w e fl W on sl)(f:w.heap[d]?=some (.cells c 75))(b:Nat)(cs:Array Value)(fr:Nat×Nat)(a:w.heap[b]?=some (.cells cs 5 fr)):¬XR e d b:=by
 rintro(rfl|rfl)
 ·obtain⟨_,K,_,_,h⟩:=h;rw[h]at a;injection a with a;injection a with _ a;cases a
 ·rw[f]at a;injection a with a;injection a with _ a;cases a
theorem ua{d b:Nat}{fl:Value}{W:List Int}{on:Bool}{sl:Int}{c:Array Value}(h:dL w d fl W on sl)(f:w.heap[b]?=some (.cells c 75)):d≠b:=λe=>by obtain⟨i,K,j,g,a⟩:=h;rw[e,f]at a;injection a with a;injection a with _ a;cases a
theorem dL.lt{a:Nat}{fl:Value}{W:List Int}{on:Bool}{sl:Int}(h:dL w a fl W on sl):a<w.heap.size:=let ⟨_,_,_,_,h⟩:=h;aK h
theorem Ex.wide{X Y:Nat->Prop}(h:Ex X w w')(c:∀b,b<w.heap.size->X b->Y b):Ex Y w w':=⟨h.os,h.output,h.tape,h.size,λb a d=>h.block b a λe=>d (c b a e)⟩
section
variable{y z:Operand}
theorem qE(a:o.op= .alloc 36):(execOp ev o).run lT w= .ok (.value (.pk w.heap.size 0)) (w.alloc (.cells (eE 0 false 0 0 0) 36)):=by
 have e:execOp ev o=(do pure (.value (←Uo 36 true (.tuple #[])))):=by simp only[execOp,a]
 have b:(do pure (.value (←Uo 36 true (.tuple #[]))):Sem Next).run lT w= .ok (.value (.pk w.heap.size 0)) (w.alloc (.cells (eE 0 false 0 0 0) 36)):=k_
 rw[e,b]
theorem KA(a:o.op= .build 36 #[(4,x)])(b:ev x= .i c):(execOp ev o).run lT w= .ok (.value (.agg (eE 0 false 0 0 c))) w:=by
 have e:execOp ev o=(do pure (.value (←Uj 36 #[(4, .i c)]))):=by simp[execOp,a,b]
 have d:(do pure (.value (←Uj 36 #[(4, .i c)])):Sem Next).run lT w= .ok (.value (.agg (eE 0 false 0 0 c))) w:=k_
 rw[e,d]
theorem KB{s n:Int}(a:o.op= .build 36 #[(1,x),(2,y),(3,z)])(d:ev x= .bool true)(c:ev y= .i s)(b:ev z= .i n):(execOp ev o).run lT w= .ok (.value (.agg (eE 0 true s n 0))) w:=by
 have e:execOp ev o=(do pure (.value (←Uj 36 #[(1, .bool true),(2, .i s),(3, .i n)]))):=by simp[execOp,a,d,c,b]
 have f:(do pure (.value (←Uj 36 #[(1, .bool true),(2, .i s),(3, .i n)])):Sem Next).run lT w= .ok (.value (.agg (eE 0 true s n 0))) w:=k_
 rw[e,f]
theorem sH:(lT.info? 36).map (·.size)=some 5:=k_
theorem oC{r s e:Int}{j:Bool}{old:Array Value}{d:TypeId}(a:o.op= .store 36 x y)(g:ev x= .pk b 0)(f:ev y= .agg (eE r j s e c))(h:w.heap[b]?=some (.cells old d))(i:old.size=5):
 (execOp ev o).run lT w= .ok .skip (et w b (eE r j s e c) d):=by rw[←ie h];exact cZ a g f h sH i (by simp[eE,Va])
theorem jW(a:o.op= .binOp .mul 3 x y u)(c:ev x= .i m)(b:ev y= .i n)(h:m*n<9223372036854775808):(execOp ev o).run lT w= .ok (.value (.i ((m*n:Nat):Int))) w:=by
 have e:U2.wrap ((m:Int)*(n:Int))=((m*n:Nat):Int):=by rw[←Wd,TR];omega
 simp[execOp,a,c,b,go_sem,e]
theorem dh(a:o.op= .binOp .add 3 x y u)(c:ev x= .i m)(b:ev y= .i n)(h:m+n<9223372036854775808):(execOp ev o).run lT w= .ok (.value (.i ((m+n:Nat):Int))) w:=by
 have e:U2.wrap ((m:Int)+(n:Int))=((m+n:Nat):Int):=by rw[←Vi,TR];omega
 simp[execOp,a,c,b,go_sem,e]
theorem KM{g a cap:Nat}(c:o.op= .slice 62 x (some y) (some z) none)(f:ev x= .sk g a cap)(e:ev y= .i m)(d:ev z= .i n)(h:n<=cap)(p:m<n):(execOp ev o).run lT w= .ok (.value (.slice (some ⟨g,m,none⟩) (n- m) (cap- m))) w:=by
 have i:lT.underlying 62=some (.slice 5):=k_
 have b:(sizeOf 5).run lT w= .ok 1 w:=k_
 have k:m<=n:=o_
 have j:¬cap=m:=o_
 have l:(⟨g,0,none⟩:Addr).add m=⟨g,m,none⟩:=by rw[Uu,TL]
 simp[execOp,c,f,e,d,UF,VE,UK,run_underlying i,UQ,asIntOf,h,b,k,j,l]
theorem Ku{g off cap:Nat}{l:List UInt8}(a:o.op= .convert 62 9 x)(c:ev x= .slice (some ⟨g,off,none⟩) l.length cap)(d:∀j (b:j<l.length),w.cell? ⟨g,off+j,none⟩=some (.int .u8 (l[j].toNat:Int))):(execOp ev o).run lT w= .ok (.value (.string ⟨l.toArray⟩)) w:=by
 have h:=run_convert_bytes_back (P:=lT) w 62 9 5 ⟨g,off,none⟩ cap l k_ k_ k_ (λj b=>by rw[Uu];exact d j b);have e:execOp ev o=(do pure (.value (←convert 62 9 (.slice (some ⟨g,off,none⟩) l.length cap)))):=by simp only[execOp,a,c]
 rw[e];simp[h]
end
section
variable{cb rb:Nat}{fl:Value}{W:List Int}{on:Bool}{sl room:Int}
theorem A9:Tryz.f74.body=some (.seq (rG Tryz.f74 0) (.seq (rG Tryz.f74 1) (.seq (rG Tryz.f74 2) .ret))):=k_
theorem Gz(n c:Int)(r:0<room)(i:room<9223372036854775808)(h:dL w cb fl W on sl)(k:w.heap[rb]?=some (.cells (iZ cb room false) 75)):Calls lT 74 #[.pk rb 0, .i n, .i c] w λe w'=>e= .returned (.agg (eE 0 false 0 0 c))/\dL w' cb fl W on sl/\w'.heap[rb]?=some (.cells (iZ cb (room- 1) false) 75)/\Ex (XR cb rb) w w':=by
 refine pU (t:=6) (ty:=36) (n:=5) Lf.func74 rfl (by rw[cq];exact Tryz.underlying36) rfl sH λC=> ?_;rw[aZ (N:=12) [.pk rb 0, .i n, .i c] Lf.func74 A9 rfl];have d:=aQ [.pk rb 0, .i n, .i c] 12 s_;refine Rn.al d (λo f=>qE f) λA a l x z d=> ?_;have B:=h.lt;have s:=aK k;have v:=h.ex (Ex.of_below (X:=λ_=>False) l) (λe=>e)
 iterate 2 refine Rn.uc d λa d=> ?_
 refine Rn.cw d Lf.func73 (tM n r i v (bk l k)) λq ⟨u,j,m,y⟩ a d=> ?_;have p:=m.at (by rintro(e|e)<;>omega) x;refine Rn.uc d λa d=> ?_;refine Rn.vv d (λo f=>KA f (d.G 10)) λa d=> ?_;refine Rn.nn d (λo f=>oC f (d.G 6) (d.G 11) p rfl) λa d=> ?_;have g:=gK (w:=q) w.heap.size (eE 0 false 0 0 c) 36;refine Rn.runs 6 _ (Rn.ends rfl (.inr ⟨_,rfl⟩) (Rn.now ⟨_,_,w.heap.size,_,_,rfl,d.defers,d.slot 6 _ rfl,cP p,rfl,rfl,u.ex g o_,g.at o_ j, ?_⟩));exact((Ex.of_below l).trans m λb _ e=>e).trans g λb k e=>o_
theorem Aa:Tryz.f77.body=some (.seq (rG Tryz.f77 0) (.seq (rG Tryz.f77 1) (.seq (rG Tryz.f77 2) (.seq (rG Tryz.f77 3) .ret)))):=k_
theorem Ic(n c:Int)(x:0<room)(k:room<9223372036854775808)(h:dL w cb fl W on sl)(g:w.heap[rb]?=some (.cells (iZ cb room false) 75)):Calls lT 77 #[.pk rb 0, .i n, .i c] w λe w'=>e= .returned (.agg (eE 0 true n c 0))/\dL w' cb fl W true n/\w'.heap[rb]?=some (.cells (iZ cb (room- 1) false) 75)/\Ex (XR cb rb) w w':=by
 refine pU (t:=6) (ty:=36) (n:=5) Lf.func77 rfl (by rw[cq];exact Tryz.underlying36) rfl sH λK=> ?_;rw[aZ (N:=18) [.pk rb 0, .i n, .i c] Lf.func77 Aa rfl];have d:=aQ [.pk rb 0, .i n, .i c] 18 s_;refine Rn.al d (λo f=>qE f) λI a r D G d=> ?_;have J:=h.lt;have y:=aK g;have l:=ua h g;have B:=h.ex (Ex.of_below (X:=λ_=>False) r) (λe=>e);have q:=bk r g
 iterate 5 refine Rn.uc d λa d=> ?_
 refine Rn.cw d Lf.func92 (zt n B) λH ⟨A,j,F⟩ a d=> ?_;have p:=j.at (UP l) q;have C:=j.at o_ D;refine Rn.uc d λa d=> ?_;refine Rn.cw d Lf.func73 (tM 9 x k A p) λv ⟨z,m,s,E⟩ a d=> ?_;have u:=s.at (by rintro(e|e)<;>omega) C
 iterate 2 refine Rn.uc d λa d=> ?_
 refine Rn.vv d (λo f=>KB f rfl (d.G 15) (d.G 16)) λa d=> ?_;refine Rn.nn d (λo f=>oC f (d.G 6) (d.G 17) u rfl) λa d=> ?_;have i:=gK (w:=v) w.heap.size (eE 0 true n c 0) 36;refine Rn.runs 6 _ (Rn.ends rfl (.inr ⟨_,rfl⟩) (Rn.now ⟨_,_,w.heap.size,_,_,rfl,d.defers,d.slot 6 _ rfl,cP u,rfl,rfl,z.ex i o_,i.at o_ m, ?_⟩));exact(((Ex.of_below r).trans j λb _ e=> .inl e).trans s λb _ e=>e).trans i λb g e=>o_
theorem Pq:Tryz.f76.body=some (.seq (rG Tryz.f76 0) (.seq (rG Tryz.f76 1) (.seq (rG Tryz.f76 2) (.seq (rG Tryz.f76 3) .ret)))):=k_
theorem FR{L:ByteArray}(k:Nat)(v:k<2)(h:dL w cb fl W on sl)(p:lK w fl L):Calls lT 76 #[.pk cb 0, .i k] w λe w'=>e= .returned (.s (L.extract (k*8192) (k*8192+8192)))/\w'=w:=by
 obtain⟨r,s,u,d,B,rfl,i,f,_,g⟩:=p;obtain⟨z,K,A,_,y⟩:=h;refine bI (t:=4) Lf.func76 rfl λC=> ?_;rw[aZ (N:=31) [.pk cb 0, .i k] Lf.func76 Pq rfl];have b:=aQ [.pk cb 0, .i k] 31 s_
 iterate 2 refine Rn.uc b λa b=> ?_
 refine Rn.vv b (λo c=>jW (n:=8192) c (b.G 7) rfl o_) λa b=> ?_
 iterate 5 refine Rn.uc b λa b=> ?_
 refine Rn.vv b (λo c=>Bf (n:=16384) c (b.G 8) (b.G 13)) λa b=> ?_;rw[show min (k*8192) 16384=k*8192 by omega]at b
 iterate 2 refine Rn.uc b λa b=> ?_
 refine Rn.vv b (λo c=>dh (n:=8192) c (b.G 15) rfl o_) λa b=> ?_
 iterate 5 refine Rn.uc b λa b=> ?_
 refine Rn.vv b (λo c=>Bf (n:=16384) c (b.G 16) (b.G 21)) λa b=> ?_;rw[show min (k*8192+8192) 16384=k*8192+8192 by omega]at b
 iterate 7 refine Rn.uc b λa b=> ?_
 refine Rn.vv b (λo c=>KM c (b.G 26) (b.G 27) (b.G 28) o_ o_) λa b=> ?_;have q:L.data.toList.length=16384:=by rw[V4];exact r
 have l:(dq L.data.toList (k*8192) (k*8192+8192)).length=k*8192+8192- k*8192:=nv _ _ _ o_;rw[←l]at b;refine Rn.vv b (λo c=>Ku c (b.G 29) λj x=> ?_) λa b=> ?_
 ·have m:j<8192:=o_
  have e:(dq L.data.toList (k*8192) (k*8192+8192))[j]=L.data.toList[k*8192+j]:=by simp[dq]
  rw[e,show w.cell? ⟨s,k*8192+j,none⟩=d[k*8192+j]? from by simp[U6,f]];exact g _ o_
 rw[←kh]at b;refine Rn.uc b λa b=> ?_;exact Rn.fi b ⟨rfl,rfl⟩
end
end L1
section
open Go.RowKit
def vG(x:Int):Int:=
 let a:=UV.wrap (bits .and .u64 (x/2^1) 6148914691236517205+bits .and .u64 x 6148914691236517205)
 let b:=UV.wrap (bits .and .u64 (a/2^2) 3689348814741910323+bits .and .u64 a 3689348814741910323)
 let c:=bits .and .u64 (UV.wrap (b/2^4+b)) 1085102592571150095
 let d:=UV.wrap (c+c/2^8)
 let e:=UV.wrap (d+d/2^16)
 let f:=UV.wrap (e+e/2^32)
 bits .and .i64 (U2.wrap f) 127
def EZ(a b c:Nat):Nat:=((a&&&b)|||(a&&&c))|||(b&&&c)
def JY(W:List Int):Bool:=(W.getD 0 0==255||W.getD 0 0==3855||W.getD 0 0==13107||W.getD 0 0==21845)&&W.getD 0 0==W.getD 1 0
def Gc(W:List Int):Nat:=EZ (W.getD 2 0).toNat (W.getD 3 0).toNat (W.getD 4 0).toNat
def ME(W:List Int):Bool:=Gc W&&&(Gc W+1)==0
def o9(W:List Int)(k:Nat):List Int:=(W.drop (5+20*k)).take 20
def qR(x y:Int):Bool:=(x==y)&&(x==4080||x==61455)
def kt(L:List Int):Bool:=qR (L.getD 0 0) (L.getD 1 0)&&qR (L.getD 2 0) (L.getD 3 0)
def iz(L:List Int):Bool:=(L.getD 0 0==4080)&&(L.getD 2 0==61455)
def iS(L:List Int):List UInt8:=L.flatMap λx=>cY x.toNat 2
def yO(W:List Int):Bool:=JY W&&ME W&&(U5 4).all λk=>kt (o9 W k)
def No(W:List Int):List Bool:=(U5 4).map λk=>iz (o9 W k)
def OB(W:List Int):List ByteArray:=(U5 4).map λk=>⟨(iS ((o9 W k).drop 4)).toArray⟩
def gW(W:List Int):Prop:=W.length=85/\∀i,i<85->0<=W.getD i 0/\W.getD i 0<65536
def Tf(W:List Int)(st le c:Int)(us:List Bool)(hs:List ByteArray):Prop:=(yO W=true/\c=0/\st=W.getD 0 0/\le=vG (Gc W)/\us=No W/\hs=OB W)\/(yO W=false/\c=1)
end
namespace L1
open Go.Conc Go.RowKit
def Q3(W:List Int)(w:World)(v:Value)(w':World):Prop:=∃st le c pu lu qu ph lh qh us hs,v= .tuple #[.agg (i7 st le (.slice pu lu qu) (.slice ph lh qh)), .int .i64 c]/\Tf W st le c us hs/\Bw w w'/\
 (c=0->∃bu bh,pu=some ⟨bu,0,none⟩/\lu=4/\qu=4/\ph=some ⟨bh,0,none⟩/\lh=4/\qh=4/\w'.heap[bu]?=some (.cells (us.map Value.bool).toArray 4)/\w'.heap[bh]?=some (.cells (hs.map Value.string).toArray 9))
def CB:Prop:=∀(W:List Int) (w:World) (cb off q:Nat),85<=q->gW W->w.rangeAt cb off (W.map (Value.int .i64))->cb<w.heap.size->
 Calls (aI true Tryz.prog) 36 #[.slice (some ⟨cb,off,none⟩) 85 q] w λe w'=>∃v,e= .returned v/\Q3 W w v w'
def DW(f:Func):Code:= .block 1 (.seq (rG f 4) (.cond (.tmp 15) (.seq (rG f 5) .ret) .skip))
def CK(f:Func)(T:Array Value)(ld:Nat)(st:LoopState)(pd:Option Code):Loop:={state:=st,pending:=pd,fn:=90,tmps:=T,params:=#[12],assign:= .region 3 (bV f 3) false,body:=DW f,defers:=ld}
section
variable{b5 ld:Nat}{fz:Array Value}{x:ByteArray}{T:Array Value}{cf:Frame}
theorem NM(hT:aW [(4, .pt b4),(5, .pt b5)] 16 [] ⟨T,[]⟩)(hl:w0.heap.size<=l)(hb:w0.heap.size<=b4){h:ByteArray}
 (hC:Cv 48 4 9 w0 b3 b4 b5 l ld (CK Tryz.f90 T ld .ready none) fz x false w)
 (nt:(h.data.toList==x.data.toList)=false->∀w',Cv 48 4 9 w0 b3 b4 b5 l ld (CK Tryz.f90 T ld .ready none) fz x false w'->Rn lT Goal (cf.finish (.bool true)) cs w')
 (nq:(h.data.toList==x.data.toList)=true->∀w',Cv 48 4 9 w0 b3 b4 b5 l ld (CK Tryz.f90 T ld .done (some .ret)) fz x true w'->Rn lT Goal (cf.finish (.bool false)) cs w'):
 Rn lT Goal (Vt l 90 (((#[12]:Array Tmp).zip #[.s h]).foldl (λtmps (t,a)=>tmps.setIfInBounds t a) T) (rG Tryz.f90 3) (DW Tryz.f90) .normal) (cf::cs) w:=by
 have hF:=hT.put (d:=12) d_ (.s h);have ez:((#[12]:Array Tmp).zip #[.s h]).foldl (λ(tmps:Array Value) (x:Tmp×Value)=>match x with|(t,a)=>tmps.setIfInBounds t a) T=T.setIfInBounds 12 (.s h):=s_
 rw[ez];show Rn _ Goal ((rb 90 l).atR (VN ⟨T,[]⟩ (some 12) (.s h)) [.code (rG Tryz.f90 3), .beginRound, .code (DW Tryz.f90)]) (cf::cs) w;revert hF;generalize VN ⟨T,[]⟩ (some 12) (.s h)=a;intro hF;refine Rn.r (L:=[0]) rfl (Rn.S hF 6 12 rfl λa hF=> ?_);refine Rn.p rfl (Rn.rounds (r:=CK Tryz.f90 T ld .ready none) rfl hC.loop rfl ?_);have hC1:=hC.turn hl (CK Tryz.f90 T ld .busy none);refine Rn.uu hF λa hF=> ?_;refine Rn.vv hF (λo ho=>(aO (v:= .s x) bN ho (hF.G 5) ((aG hC1.hsh 0).trans rfl)).1) λa hF=> ?_;refine Rn.uu hF λa hF=> ?_;refine Rn.p rfl (Rn.cond _ (hF.G 15) ?_);cases he:(h.data.toList==x.data.toList)with
 |true=>
  refine Rn.nn hF (λo ho=>(eI (v:= .bool true) (v0:= .bool false) rfl rfl k_ ho (hF.G 4) rfl ((aG hC1.res 0).trans rfl) (by simp[Ux,hC1.res])).1) λa hF=> ?_;have hC2:=hC1.put d_ d_ hb true;exact Rn.p rfl (Rn.quits rfl rfl hC2.loop (nq he _ (hC2.turn hl _)))
 |false=>
  exact Rn.p rfl (Rn.p rfl (Rn.through rfl rfl hC1.loop (nt he _ (hC1.turn hl _))))
end
def I0(f:Func):Code:= .seq (rG f 1) (.seq (.cond (.tmp 12) .skip (.exit 0)) (.seq (.block 1 (.seq (rG f 2) (.seq (rG f 3) (.cond (.tmp 28) .ret .skip)))) (rG f 4)))
theorem M4:Tryz.f101.body=some (.seq (rG Tryz.f101 0) (.block 0 (.loop (I0 Tryz.f101)))):=k_
theorem AO(us:List Bool)(hs:List ByteArray)(x:ByteArray)(i:Nat)(u:Bool)(h:ByteArray)(b:us[i]?=some u)(a:hs[i]?=some h):i9 (us.drop i) (hs.drop i) x=((u&&h.data.toList==x.data.toList)||i9 (us.drop (i+1)) (hs.drop (i+1)) x):=by obtain⟨d,rfl⟩:=TM.1 b;obtain⟨c,rfl⟩:=TM.1 a;rw[Yv d,Yv c];rfl
theorem Eh(us:List Bool)(hs:List ByteArray)(x:ByteArray)(i:Nat)(h:min us.length hs.length<=i):i9 (us.drop i) (hs.drop i) x=false:=by
 rcases(o_:us.length<=i\/hs.length<=i)with h|h
 ·rw[Z0 h];rfl
 ·rw[Z0 h];cases us.drop i<;>rfl
section
variable{b5 ld:Nat}{st le:Int}{vu vh:Value}{x:ByteArray}{us:List Bool}{hs:List ByteArray}{T:Array Value}{cf:Frame}
theorem F5(hT:aW [(4, .pt b4),(5, .pt b5)] 16 [] ⟨T,[]⟩)(hl:w0.heap.size<=l)(hb:w0.heap.size<=b4)(hU:jQ w0 vu (us.map .bool))(hH:jQ w0 vh (hs.map .string))(hlu:us.length<4611686018427387904)
 (nf:i9 us hs x=false->∀w',Cv 48 4 9 w0 b3 b4 b5 l ld (CK Tryz.f90 T ld .ready none) (i7 st le vu vh) x false w'->Rn lT Goal (cf.finish (.tuple #[])) cs w')
 (nq:i9 us hs x=true->∀w',Cv 48 4 9 w0 b3 b4 b5 l ld (CK Tryz.f90 T ld .done (some .ret)) (i7 st le vu vh) x true w'->Rn lT Goal (cf.finish (.tuple #[])) cs w'):
 ∀(m i:Nat) (a:Act) (w:World),min us.length hs.length- i=m->i<=min us.length hs.length->i9 us hs x=i9 (us.drop i) (hs.drop i) x->aW [(0, .func (.yield l) #[] #[]),(1, .pt b3),(10, .i (min us.length hs.length:Nat)),(11, .i i)] 30 [] a->
  Cv 48 4 9 w0 b3 b4 b5 l ld (CK Tryz.f90 T ld .ready none) (i7 st le vu vh) x false w->
  Rn lT Goal ((base 101).atR a [.code (I0 Tryz.f101), .inLoop (I0 Tryz.f101), .inBlock 0]) (cf::cs) w:=by
 intro m;induction m with
 |zero=>
  intro i a w hm hi hv hF hC;refine Rn.uu hF λa hF=> ?_;refine Rn.p rfl (Rn.p rfl (Rn.cond _ (hF.G 12) ?_));rw[decide_eq_false o_];refine Rn.p rfl (Rn.ends rfl (.inl rfl) (Rn.leave (.tuple #[]) rfl hF.defers Lf.func101 k_ k_ (nf ?_ _ hC)));rw[hv];exact Eh us hs x i o_
 |succ m ih=>
  intro i a w hm hi hv hF hC;have hiu:i<us.length:=o_
  have hih:i<hs.length:=o_
  obtain⟨pu,cu,eu,hcu⟩:=hU.below hC.old;obtain⟨ph,ch,eh,hch⟩:=hH.below hC.old;obtain⟨au,rfl,hcu2⟩:=hcu i (.bool us[i]) (by simp[hiu]);obtain⟨ah,rfl,hch2⟩:=hch i (.s hs[i]) (by simp[hih]);have hvd:=AO us hs x i us[i] hs[i] (by simp[hiu]) (by simp[hih]);refine Rn.uu hF λa hF=> ?_;refine Rn.p rfl (Rn.p rfl (Rn.cond _ (hF.G 12) ?_));rw[decide_eq_true o_]
  iterate 3 refine Rn.uu hF λa hF=> ?_
  refine Rn.vv hF (λo ho=>(aO (v:= .slice (some au) (us.map Value.bool).length cu) qA ho (hF.G 14) ((aG hC.fus 1).trans (by rw[←eu];rfl))).1) λa hF=> ?_;refine Rn.uu hF λa hF=> ?_;refine Rn.uu hF λa hF=> ?_;refine Rn.vv hF (λo ho=>(aO (v:= .bool us[i]) ze ho (hF.G 17) hcu2).1) λa hF=> ?_;refine Rn.uu hF λa hF=> ?_;obtain⟨q,hq⟩:∃q,us[i]=q:=⟨_,rfl⟩;rw[hq]at hF hvd;cases q with
  |false=>
   refine Rn.G hF 20 (.move (.tmp 0)) 5 19 false (λ_=>True) rfl s_ (λh=>by cases h) λv20 a _ hF=> ?_;refine Rn.G hF 21 (.fieldAddr 48 (.tmp 1) 3) 5 19 false (λ_=>True) rfl s_ (λh=>by cases h) λv21 a _ hF=> ?_;refine Rn.G hF 22 (.load 25 (.tmp 21)) 5 19 false (λ_=>True) rfl s_ (λh=>by cases h) λv22 a _ hF=> ?_;refine Rn.G hF 23 (.move (.tmp 3)) 5 19 false (λ_=>True) rfl s_ (λh=>by cases h) λv23 a _ hF=> ?_;refine Rn.G hF 24 (.indexAddr 25 (.tmp 22) (.tmp 23)) 5 19 false (λ_=>True) rfl s_ (λh=>by cases h) λv24 a _ hF=> ?_;refine Rn.G hF 25 (.load 9 (.tmp 24)) 5 19 false (λ_=>True) rfl s_ (λh=>by cases h) λv25 a _ hF=> ?_;refine Rn.G hF 26 (.call {callee:= .value (.tmp 20),args:=#[.tmp 25],argTypes:=#[9]}) 5 19 false (λ_=>True) rfl s_ (λh=>by cases h) λv26 a _ hF=> ?_;refine Rn.G hF 27 (.unOp .not 4 (.tmp 26)) 5 19 false (λ_=>True) rfl s_ (λh=>by cases h) λv27 a _ hF=> ?_;refine Rn.vv hF (λo ho=>Kz (q:=false) (r:=false) ho (hF.G 19) (λh=>by cases h) rfl) λa hF=> ?_;refine Rn.p rfl (Rn.cond false (hF.G 28) ?_)
   iterate 2 refine Rn.uu hF λa hF=> ?_
   refine Rn.p rfl (Rn.p rfl (ih (i+1) a _ o_ o_ (hv.trans (hvd.trans s_)) (hF.only ⟨rfl,rfl,rfl,rfl,trivial⟩) hC))
  |true=>
   iterate 2 refine Rn.uu hF λa hF=> ?_
   refine Rn.G hF 22 (.load 25 (.tmp 21)) 5 19 true (λv=>v= .slice (some ah) (hs.map Value.string).length ch) rfl s_ (λ_ o ho=>aJ (aO (v:= .slice (some ah) (hs.map Value.string).length ch) ff ho (hF.G 21) ((aG hC.fus 3).trans (by rw[←eh];rfl))).1 ⟨rfl,rfl⟩) λv a hv1 hF=> ?_;obtain rfl:=hv1 rfl;refine Rn.uu hF λa hF=> ?_;refine Rn.uu hF λa hF=> ?_;refine Rn.G hF 25 (.load 9 (.tmp 24)) 5 19 true (λv=>v= .s hs[i]) rfl s_ (λ_ o ho=>aJ (aO (v:= .s hs[i]) bN ho (hF.G 24) hch2).1 ⟨rfl,rfl⟩) λv a hv1 hF=> ?_;obtain rfl:=hv1 rfl;have h26:((bV Tryz.f101 3)[12]?).map (λo=>(o.dst,o.op,o.guard))=some (some 26, .call {callee:= .value (.tmp 20),args:=#[.tmp 25],argTypes:=#[9]},some (5,true)):=k_;cases ho:(bV Tryz.f101 3)[12]? with
   |none=>rw[ho]at h26;cases h26
   |some o=>
   rw[ho]at h26;simp only[TE,Option.some.injEq,Prod.mk.injEq]at h26;obtain⟨e1,e2,e3⟩:=h26;have hw:=nL (ops:=bV Tryz.f101 3) (tmps:=a.tmps) (d:=19) e3 k_ (hF.slot 19 _ rfl);refine Rn.yields (args:=#[.s hs[i]]) ho (hw.trans rfl) (by rw[e2];simp) hC.loop rfl (λw=>jo e2 (hF.G 20) (by simp[hF.G 25]) w) ?_;refine NM hT hl hb hC (λhne w2 hC2=> ?_) (λheq w2 hC2=> ?_)
   ·rw[U7,ho,Ug,e1];have hF:=hF.put (d:=26) d_ (.bool true);revert hF;generalize a.put (some 26) (.bool true)=a;intro hF;clear e1 e2 e3 ho;refine Rn.uu hF λa hF=> ?_;refine Rn.uu hF λa hF=> ?_;refine Rn.p rfl (Rn.cond false (hF.G 28) ?_)
    iterate 2 refine Rn.uu hF λa hF=> ?_
    refine Rn.p rfl (Rn.p rfl (ih (i+1) a _ o_ o_ (hv.trans (hvd.trans (by simp[hne]))) (hF.only ⟨rfl,rfl,rfl,rfl,trivial⟩) hC2))
   ·rw[U7,ho,Ug,e1];have hF:=hF.put (d:=26) d_ (.bool false);revert hF;generalize a.put (some 26) (.bool false)=a;intro hF;clear e1 e2 e3 ho;refine Rn.uu hF λa hF=> ?_;refine Rn.uu hF λa hF=> ?_;refine Rn.p rfl (Rn.cond true (hF.G 28) ?_);refine Rn.ends rfl (.inr ⟨_,rfl⟩) (Rn.leave (.tuple #[]) rfl hF.defers Lf.func101 k_ k_ (nq ?_ _ hC2));rw[hv,hvd,heq];rfl
end
theorem L9(a:o.op= .alloc 4):(execOp ev o).run lT w= .ok (.value (.pk w.heap.size 0)) (w.alloc (.cells #[.bool false] 4)):=by
 have e:execOp ev o=(do pure (.value (←Uo 4 true (.tuple #[])))):=by simp only[execOp,a]
 have b:(do pure (.value (←Uo 4 true (.tuple #[]))):Sem Next).run lT w= .ok (.value (.pk w.heap.size 0)) (w.alloc (.cells #[.bool false] 4)):=k_
 rw[e,b]
theorem KC{a:ByteArray}(b:o.op= .buildSlice 25 1 #[(0,x)])(d:ev x= .s a):
 (execOp ev o).run lT w= .ok (.value (.sk w.heap.size 1 1)) (w.alloc (.cells #[.s a] 9)):=by
 have e:execOp ev o=(do pure (.value (←Uf 25 1 #[(0, .s a)]))):=by simp[execOp,b,d]
 have c:(do pure (.value (←Uf 25 1 #[(0, .s a)])):Sem Next).run lT w= .ok (.value (.sk w.heap.size 1 1)) (w.alloc (.cells #[.s a] 9)):=k_
 rw[e,c]
theorem Pt:Tryz.f96.body=some (.seq (rG Tryz.f96 0) (.seq (rG Tryz.f96 1) .ret)):=k_
theorem AP(c:Array Value)(w:World):Calls lT 96 #[.agg c] w λe w'=>e= .returned (.func (.func 101) #[] #[.pk w.heap.size 0])/\w'=w.alloc (.cells c 48):=by
 refine bI (t:=2) Lf.func96 rfl λf=> ?_;rw[aZ (N:=4) [.agg c] Lf.func96 Pt rfl];have b:=aQ [.agg c] 4 s_;refine Rn.gr ?_;refine Rn.z b 1 0 48 rfl λa b=> ?_;show Rn _ _ _ _ (w.alloc (.cells c 48));refine Rn.uu b λa b=> ?_;refine Rn.gr ?_;refine Rn.O b 3 (.makeFunc (.func 101) #[] #[.tmp 1]) (v:= .func (.func 101) #[] #[.pk w.heap.size 0]) (w':=w.alloc (.cells c 48)) (λo d=> ?_) λa b=> ?_
 ·have:=(fv (ev:=a.eval) (w:=w.alloc (.cells c 48)) lT d).1
  rwa [show(#[Ul 1]:Array Operand).map a.eval=#[.pk w.heap.size 0]from by simp[b.G 1]]at this
 refine Rn.uu b λa b=> ?_;exact Rn.fi b ⟨rfl,rfl⟩
theorem PE:Tryz.f90.body=some (.seq (rG Tryz.f90 0) (.seq (rG Tryz.f90 1) (.seq (.seq (rG Tryz.f90 2) (.block 0 (.rangeFunc (.tmp 11) #[12] (rG Tryz.f90 3) (DW Tryz.f90)))) (.seq (rG Tryz.f90 6) .ret)))):=k_
theorem yi(KS:List Int)(O:KS.length=64)(c:ByteArray)(st le:Int)(z A:Value)(us:List Bool)(hs:List ByteArray)(w:World)(hU:jQ w z (us.map .bool))(hH:jQ w A (hs.map .string))(L:us.length<4611686018427387904)(a0:c.size<=281474976710656)(hK:w.rangeAt 0 0 (aH KS))(h0:0<w.heap.size):
 Calls lT 90 #[.s c, .agg (i7 st le z A)] w λe w'=>e= .returned (.bool (i9 us hs (vl KS [c])))/\Bw w w':=by
 refine xK (t:=4) (ty:=4) Lf.func90 rfl (λw=>(ze w).1) λcs=> ?_;rw[aZ (N:=16) [.s c, .agg (i7 st le z A)] Lf.func90 PE rfl];have d:=aQ [.s c, .agg (i7 st le z A)] 16 s_;refine Rn.zz d λw1 a Y u z1 d=> ?_;refine Rn.al d (λo i=>L9 i) λw2 a X x z2 d=> ?_;rw[z1]at d x z2;have u:=(X.block _ o_).trans u;have B2:Bw w w2:=aE Y Y.size X;clear Y X z1;refine Rn.uu d λa d=> ?_;refine Rn.al d (λo i=>KC i (d.G 7)) λH a W c8 z3 d=> ?_;have B3:Bw w H:=aE B2 B2.size W;have u:=(W.block _ o_).trans u;have x:=(W.block _ o_).trans x;refine Rn.cl d Lf.func28 (R:=λv w'=>v= .s (vl KS [c])/\Bw H w') (pF KS [c] _ H _ 1 rfl rfl c8 (Ti h0 B3 hK) O (by simp;omega) s_) λv k E a d=> ?_;obtain⟨rfl,I⟩:=E;have Z:Bw w k:=aE B3 B3.size I;have z4:=I.size;have u:=(I.block _ o_).trans u;have x:=(I.block _ o_).trans x;refine Rn.al d (λo i=>(qD i).1) λy a V S z5 d=> ?_;have B5:Bw w y:=aE Z Z.size V;have u:=(V.block _ o_).trans u;have x:=(V.block _ o_).trans x;refine Rn.nn d (λo i=>(eI (v:= .s (vl KS [c])) (v0:= .string ⟨#[]⟩) rfl rfl k_ i (d.G 5) (d.G 9) ((aG S 0).trans rfl) (by simp[Ux,S])).1) λa d=> ?_;have K:Bw w (y.setCell ⟨k.heap.size,0,none⟩ (.s (vl KS [c]))):=B5.trans (ee y _ _ (by have:=Z.size;exact this));have C:(y.setCell ⟨k.heap.size,0,none⟩ (.s (vl KS [c]))).heap[k.heap.size]?=some (.cells #[.s (vl KS [c])] 9):=jn S;have d3:=(cA y (a:=⟨k.heap.size,0,none⟩) (.s (vl KS [c])) (show w.heap.size≠k.heap.size by omega)).trans u;have D:=(cA y (a:=⟨k.heap.size,0,none⟩) (.s (vl KS [c])) (show w.heap.size+1≠k.heap.size by omega)).trans x;revert K C d3 D;generalize y.setCell ⟨k.heap.size,0,none⟩ (.s (vl KS [c]))=r;intro K C d3 D;refine Rn.uu d λa d=> ?_;refine Rn.cw d Lf.func96 ((AP (i7 st le z A) r)) λb s a d=> ?_;have U:Bw r b:=by rw[s];exact aV _ _
 have c7:b.heap[r.heap.size]?=some (.cells (i7 st le z A) 48):=by rw[s];exact bJ _ _
 have z7:b.heap.size=r.heap.size+1:=by rw[s];exact aR _ _
 clear s;have B7:Bw w b:=aE K K.size U;have l5:=(gA C).1;have C:=(U.block _ l5).trans C;have l4:=(gA D).1;have D:=(U.block _ l4).trans D;refine Rn.p rfl (Rn.p rfl ?_);refine Rn.rangeAs (CK Tryz.f90 a.tmps b.heap.size .ready none) (args:=[.func (.yield (b.heap.size+1)) #[] #[], .pk r.heap.size 0].toArray) rfl rfl Lf.func101 k_ k_ (d.G 11) rfl ?_;have B:Cv 48 4 9 w r.heap.size (w.heap.size+1) k.heap.size (b.heap.size+1) b.heap.size (CK Tryz.f90 a.tmps b.heap.size .ready none) (i7 st le z A) (vl KS [c]) false (cR b (CK Tryz.f90 a.tmps b.heap.size .ready none)):=
  ⟨aE B7 B7.size (fO b _),(bM b _ o_).trans c7,(bM b _ o_).trans D,(bM b _ o_).trans C,eL b _,eK b _⟩
 revert B;generalize cR b (CK Tryz.f90 a.tmps b.heap.size .ready none)=w8;intro B;rw[aZ (N:=30) _ Lf.func101 M4 rfl];have P:=aQ [.func (.yield (b.heap.size+1)) #[] #[], .pk r.heap.size 0] 30 s_;revert P;generalize (Act.mk (([.func (.yield (b.heap.size+1)) #[] #[], .pk r.heap.size 0]:List Value).toArray++TG (30-([.func (.yield (b.heap.size+1)) #[] #[], .pk r.heap.size 0]:List Value).toArray.size) undef) [])=g;intro f;have M:=hU;have Q:=hH;obtain⟨pu,cu,eu,_⟩:=hU;obtain⟨ph,ch,eh,_⟩:=hH;have z8:=B.old.size;refine Rn.gr ?_;refine Rn.O f 4 (.fieldAddr 48 (.tmp 1) 1) (λo i=>My 1 d_ i (f.G 1)) λg f=> ?_;refine Rn.O f 5 (.load 46 (.tmp 4)) (λo i=>(aO (v:= .slice pu (us.map Value.bool).length cu) qA i (f.G 4) ((aG B.fus 1).trans (by rw[←eu];rfl))).1) λg f=> ?_;refine Rn.O f 6 (.call {callee:= .builtin .len,args:=#[.tmp 5],argTypes:=#[46]}) (λo i=>sy (e:=4) k_ i (f.G 5)) λg f=> ?_;refine Rn.O f 7 (.fieldAddr 48 (.tmp 1) 3) (λo i=>My 3 d_ i (f.G 1)) λg f=> ?_;refine Rn.O f 8 (.load 25 (.tmp 7)) (λo i=>(aO (v:= .slice ph (hs.map Value.string).length ch) ff i (f.G 7) ((aG B.fus 3).trans (by rw[←eh];rfl))).1) λg f=> ?_;refine Rn.O f 9 (.call {callee:= .builtin .len,args:=#[.tmp 8],argTypes:=#[25]}) (λo i=>sy (e:=9) k_ i (f.G 8)) λg f=> ?_;refine Rn.O f 10 (.call {callee:= .builtin .min,args:=#[.tmp 6, .tmp 9],argTypes:=#[3,3]}) (λo i=>Bf i (f.G 6) (f.G 9)) λg f=> ?_;refine Rn.O f 11 (.move (.const (.i 0))) (λo i=>cE (.inl i)) λg f=> ?_;rw[UO,UO]at f;refine Rn.p rfl (Rn.p rfl (Rn.p rfl ?_));have hT:aW [(4, .pt (w.heap.size+1)),(5, .pt k.heap.size)] 16 [] a:=d.only ⟨rfl,rfl,trivial⟩;have l:aW [(4, .pt (w.heap.size+1))] 16 [{target:= .collected b.heap.size,args:=#[]}] ⟨a.tmps,{target:= .collected b.heap.size,args:=#[]}::a.defers⟩:=⟨by rw[d.defers],d.size,(d.only (G:=[(4, .pt (w.heap.size+1))]) ⟨rfl,trivial⟩).slot⟩;have F:∀(p:World) (q:Bool),p.heap[w.heap.size+1]?=some (.cells #[.bool q] 4)->U6 {p with heap:=p.heap.setIfInBounds b.heap.size (.deferred none)} ⟨w.heap.size+1,0,none⟩=some (.bool q):=λp q h=>
  (aG (w:={p with heap:=p.heap.setIfInBounds b.heap.size (.deferred none)}) ((sN o_).trans h) 0).trans rfl
 refine F5 (T:=a.tmps) (w0:=w) ⟨rfl,hT.size,hT.slot⟩ o_ o_ M Q L (λE p m=> ?_) (λE p m=> ?_) _ 0 g w8 rfl (W4 _) rfl (f.only ⟨rfl,rfl,rfl,rfl,trivial⟩) B
 ·show Rn lT _ ((base 90).atR ⟨a.tmps,{target:= .collected b.heap.size,args:=#[]}::a.defers⟩ (.endRangeFunc (b.heap.size+1)::_)) cs p;revert l;generalize (Act.mk a.tmps ({target:= .collected b.heap.size,args:=#[]}::a.defers))=J;intro l;refine Rn.rangeOver m.loop rfl rfl ?_;have j:=m.turn o_ (CK Tryz.f90 a.tmps b.heap.size .exhausted none);refine Rn.gr ?_;refine Rn.does0 l (.store 4 (.tmp 4) (.const (.bool false))) k_ s_ (λo i=>(eI (v:= .bool false) (v0:= .bool false) rfl rfl k_ i (l.G 4) rfl ((aG j.res 0).trans rfl) (by simp[Ux,j.res])).1) λJ l=> ?_;have n:=j.put d_ d_ o_ false;refine Rn.p rfl (Rn.ends rfl (.inr ⟨_,rfl⟩) (Rn.take (ds:=[]) l.defers n.list (Rn.now ⟨⟨J.tmps,[]⟩,_,⟨w.heap.size+1,0,none⟩, .bool false,rfl,rfl,l.slot 4 _ rfl,F _ _ n.res, ?_,n.old.trans (fG _ _ o_)⟩)));rw[E]
 ·show Rn lT _ ((base 90).atR ⟨a.tmps,{target:= .collected b.heap.size,args:=#[]}::a.defers⟩ (.endRangeFunc (b.heap.size+1)::_)) cs p;revert l;generalize (Act.mk a.tmps ({target:= .collected b.heap.size,args:=#[]}::a.defers))=J;intro l;refine Rn.rangeQuit m.loop rfl rfl ?_;have j:=m.turn o_ (CK Tryz.f90 a.tmps b.heap.size .exhausted (some .ret));refine Rn.ends rfl (.inr ⟨_,rfl⟩) (Rn.take (ds:=[]) l.defers j.list (Rn.now ⟨⟨J.tmps,[]⟩,_,⟨w.heap.size+1,0,none⟩, .bool true,rfl,rfl,l.slot 4 _ rfl,F _ _ j.res, ?_,j.old.trans (fG _ _ o_)⟩));rw[E]
end L1
section
open Go.Conc Go.RowKit
theorem gR{R:Ending->World->Prop}{t u:Tmp}(d:P.funcs[f]?=some fn)(b:fn.results=#[.tmp t, .tmp u])
 (h:∀cs,Rn P (λg w'=>∃(a:Act) (k:List Item) (v v':Value),g=cJ {(base f).atR a k with mode:= .returning} cs/\a.defers=[]/\a.tmps[t]?=some v/\a.tmps[u]?=some v'/\R (.returned (.tuple #[v,v'])) w') (TJ P f args .normal) cs w):Calls P f args w R:=λcs=>by obtain⟨m,w',l,a,k,v,v',rfl,j,i,c,e⟩:=h cs;refine⟨.returned (.tuple #[v,v']),w',{(base f).atR a k with mode:= .returning},e,W3 l,rfl,rfl,j,rfl,fn,d, ?_⟩;show(results fn a.tmps).run P w'=_;simp[results,b,i,c]
theorem mY(L:List UInt8)(h:L.length<=4):∃n:Nat,fq L=n/\n<4294967296:=by obtain⟨b,a⟩:=pG L 4 h;exact⟨(fq L).toNat,o_,o_⟩
theorem Ij(s:ByteArray)(h:(pf s.data.toList).2=0):∃(v en:Int) (d a l:Nat) (k:List UInt8),pf s.data.toList=(Fi v d en a l k,0)/\8192<=s.size/\78<=d/\d<=a/\a+l<=8192/\k.length<=56:=by
 have e:s.data.toList.length=s.size:=by rw[V4];rfl
 unfold pf at h⊢;split at h
 ·cases h
 ·rename_i j;rw[if_neg j];split at h
  ·cases h
  ·rename_i i;rw[if_neg i];have c:=λa b (h:b<=8192)=>nv s.data.toList a b o_;obtain⟨d,o,r⟩:=mY (dq s.data.toList 6 10) (by rw[c _ _ o_];omega);obtain⟨a,n,q⟩:=mY (dq s.data.toList 14 18) (by rw[c _ _ o_];omega);obtain⟨l,m,p⟩:=mY (dq s.data.toList 18 22) (by rw[c _ _ o_];omega);rw[o,n,m]at h⊢;unfold sI at h⊢;split at h
   ·cases h
   ·rename_i g;rw[if_neg g];split at h
    ·cases h
    ·rename_i f;rw[if_neg f];exact⟨_,_,d,a,l,_,rfl,o_,o_,o_,o_,by rw[c _ _ o_];omega⟩
end
namespace L1
open Go.Conc Go.RowKit
def sr(KS:List Int)(s:ByteArray)(le:Int)(us:List Bool)(hs:List ByteArray)(n c:Int):Prop:=
 ((pf s.data.toList).2≠0/\n=0/\c=(pf s.data.toList).2)\/∃(v en:Int) (sg a l:Nat) (k:List UInt8),pf s.data.toList=(Fi v sg en a l k,0)/\
   ((v<le/\n=0/\c=7)\/(le<=v/\i9 us hs (vl KS [⟨k.toArray⟩])=false/\n=0/\c=8)\/
     (le<=v/\i9 us hs (vl KS [⟨k.toArray⟩])=true/\∃d,AA KS ⟨k.toArray⟩ (s.extract 0 sg) (s.extract a (a+l)) d/\((d≠0/\n=0/\c=d)\/(d=0/\n=en/\c=0))))
theorem yj(KS:List Int)(key msg sig:ByteArray):∃c,AA KS key msg sig c:=by
 unfold AA;by_cases a:i5 key
 ·by_cases b:kT (ip key) (hK key) (nK key) sig
  ·by_cases d:(tz KS key msg sig).data.toList=(key.extract 24 key.size).data.toList
   ·exact⟨0, .inr (.inr (.inr ⟨a,b,d,rfl⟩))⟩
   ·exact⟨10, .inr (.inr (.inl ⟨a,b,d,rfl⟩))⟩
  ·exact⟨10, .inr (.inl ⟨a,b,rfl⟩)⟩
 ·exact⟨9, .inl ⟨a,rfl⟩⟩
theorem K8(KS:List Int)(a:KS.length=64)(key msg sig:ByteArray)(f:msg.size<=281474976706560)(hs:sig.size<=1125899906842624):∃c,AA KS key msg sig c/\∀w:World,w.rangeAt 0 0 (aH KS)->0<w.heap.size->Calls lT 91 #[.s key, .s msg, .s sig] w λe w'=>e= .returned (.i c)/\Bw w w':=by obtain⟨c,b⟩:=yj KS key msg sig;exact⟨c,b,λw h g=>(uA KS a key msg sig f hs w h g).mono λe w' ⟨d,k,j,i⟩=>⟨by rw[k,CL j b],i⟩⟩
theorem L8(a:o.op= .alloc 133):(execOp ev o).run lT w= .ok (.value (.pk w.heap.size 0)) (w.alloc (.cells jB.toArray 133)):=by
 have e:execOp ev o=(do pure (.value (←Uo 133 true (.tuple #[])))):=by simp only[execOp,a]
 have b:(do pure (.value (←Uo 133 true (.tuple #[]))):Sem Next).run lT w= .ok (.value (.pk w.heap.size 0)) (w.alloc (.cells jB.toArray 133)):=k_
 rw[e,b]
theorem R3(j:Nat)(f:j<6)(a:o.op= .fieldAddr 133 x j)(c:ev x= .pk b 0):(execOp ev o).run lT w= .ok (.value (.pk b j)) w:=by
 have e:execOp ev o=(do pure (.value (←TS 133 (.pk b 0) j))):=by simp only[execOp,a,c]
 have d:(do pure (.value (←TS 133 (.pk b 0) j)):Sem Next).run lT w= .ok (.value (.pk b j)) w:=by rcases(o_:j=0\/j=1\/j=2\/j=3\/j=4\/j=5)with rfl|rfl|rfl|rfl|rfl|rfl<;>kernel_rfl
 rw[e,d]
theorem Oy:(lT.info? 133).map (·.size)=some 6:=k_
theorem PN:Tryz.f75.body=some (.seq (rG Tryz.f75 0) (.seq (rG Tryz.f75 1) (.seq (.seq (rG Tryz.f75 2) (.cond (.tmp 14) (.seq (rG Tryz.f75 3) .ret) .skip)) (.seq (.seq (rG Tryz.f75 4) (.cond (.tmp 20) (.seq (rG Tryz.f75 5) .ret) .skip)) (.seq (.seq (rG Tryz.f75 6) (.cond (.tmp 25) (.seq (rG Tryz.f75 7) .ret) .skip)) (.seq (rD Tryz.f75 8) (.seq (.seq (rG Tryz.f75 9) (.cond (.tmp 43) (.seq (rG Tryz.f75 10) .ret) .skip)) (.seq (rG Tryz.f75 11) .ret)))))))):=k_
theorem FN(KS:List Int)(E:KS.length=64)(s:ByteArray)(st le:Int)(i j:Value)(us:List Bool)(hs:List ByteArray)(w:World)(hU:jQ w i (us.map .bool))(hH:jQ w j (hs.map .string))(P:us.length<4611686018427387904)(O:s.size<=281474976000000)(U:w.rangeAt 0 0 (aH KS))(K:0<w.heap.size):
 Calls lT 75 #[.s s, .agg (i7 st le i j)] w λe w'=>∃n c,e= .returned (.tuple #[.i n, .i c])/\sr KS s le us hs n c/\Bw w w':=by
 refine gR (t:=4) (u:=5) Lf.func75 rfl λcs=> ?_;rw[aZ (N:=47) [.s s, .agg (i7 st le i j)] Lf.func75 PN rfl];have b:=aQ [.s s, .agg (i7 st le i j)] 47 s_;refine Rn.gr ?_;refine Rn.z b 3 1 48 rfl λa b=> ?_;show Rn _ _ _ _ (w.alloc (.cells (i7 st le i j) 48));have H:=aV w (.cells (i7 st le i j) 48);have p:=bJ w (.cells (i7 st le i j) 48);have R:=aR w (.cells (i7 st le i j) 48);revert H p R;generalize w.alloc (.cells (i7 st le i j) 48)=w1;intro H p R
 iterate 3 refine Rn.uu b λa b=> ?_
 refine Rn.cw b Lf.func89 ((Ii s w1 O)) λf L a b=> ?_;have Z:Bw w f:=aE H H.size L;have z2:=L.size;have p:=(L.block _ o_).trans p
 iterate 3 refine Rn.uu b λa b=> ?_
 refine Rn.vv b (λo C=>L8 C) λa b=> ?_;have x:=aV f (.cells jB.toArray 133);have G:=bJ f (.cells jB.toArray 133);revert x G;generalize f.alloc (.cells jB.toArray 133)=M;intro x G;have p:=(x.block _ o_).trans p;have m:=Lp s.data.toList;have B:=Lo s.data.toList;refine Rn.nn b (λo C=>cZ (cells:=(pf s.data.toList).1.toArray) C (b.G 6) (b.G 11) G (by rw[Oy,Uq,m]) (by rw[Uq,Uq,m];rfl) (by rw[Array.all_eq_true'];intro v y;exact B v (by simpa using y))) λa b=> ?_;have h:=setRow_heap M f.heap.size _ (pf s.data.toList).1.toArray _ _ G;have g:Bw f (M.setRow f.heap.size (pf s.data.toList).1.toArray):=x.trans (eo _ _ _ (TB _));have V:=(g.block _ (o_:w.heap.size<f.heap.size)).trans ((x.block _ o_).symm.trans p);revert h g V;generalize M.setRow f.heap.size (pf s.data.toList).1.toArray=S;intro h g V;have g:Bw w S:=aE Z Z.size g;refine Rn.uu b λa b=> ?_;clear H L x p G
 iterate 2 refine Rn.uu b λa b=> ?_
 refine Rn.p rfl (Rn.cond _ (b.G 14) ?_);by_cases J:(pf s.data.toList).2=0
 ·rw[show((pf s.data.toList).2 !=0)=false from by simpa using J];obtain⟨v,F,q,d,l,k,D,g1,g2,g3,g4,g5⟩:=Ij s J;rw[D]at h;have e3:((d+l:Nat):Int)=(d:Int)+l:=Vi _ _
  iterate 5 refine Rn.uu b λa b=> ?_
  refine Rn.p rfl (Rn.cond _ (b.G 20) ?_);by_cases Q:v<le
  ·rw[decide_eq_true Q]
   iterate 2 refine Rn.uu b λa b=> ?_
   exact Rn.fj b ⟨0,7,rfl, .inr ⟨v,F,q,d,l,k,D, .inl ⟨Q,rfl,rfl⟩⟩,g⟩
  rw[decide_eq_false Q];refine Rn.vv b (λo C=>R3 5 d_ C (b.G 6)) λa b=> ?_
  iterate 2 refine Rn.uu b λa b=> ?_
  refine Rn.cw b Lf.func90 ((yi KS E ⟨k.toArray⟩ st le i j us hs S (hU.below g) (hH.below g) P (by show k.toArray.size<=_;rw[Uq];omega) (Ti K g U) (TC K g.size))) λw5 X a b=> ?_;have r:Bw w w5:=aE g g.size X;have h:=(X.block _ (gA h).1).trans h;refine Rn.uu b λa b=> ?_;refine Rn.p rfl (Rn.cond _ (b.G 25) ?_);cases y:i9 us hs (vl KS [⟨k.toArray⟩])with
  |false=>
   iterate 2 refine Rn.uu b λa b=> ?_
   exact Rn.fj b ⟨0,8,rfl, .inr ⟨v,F,q,d,l,k,D, .inr (.inl ⟨o_,y,rfl,rfl⟩)⟩,r⟩
  |true=>
   obtain⟨c,T,A⟩:=K8 KS E ⟨k.toArray⟩ (s.extract 0 q) (s.extract d (d+l)) (by rw[TT];omega) (by rw[TT];omega);have b:aW [(6, .pt f.heap.size),(0, .s s)] 47 [] a:=b.only ⟨rfl,rfl,trivial⟩;refine Rn.p rfl (Rn.p rfl ?_);refine Rn.tab (v:= .i c) b [(26, .pk f.heap.size 5),(27, .string ⟨k.toArray⟩),(28, .s s),(29, .pk f.heap.size 1),(30, .i q),(31, .s (s.extract 0 q)),(32, .s s),(33, .pk f.heap.size 3),(34, .i d),(35, .pk f.heap.size 3),(36, .i d),(37, .pk f.heap.size 4),(38, .i l),(39, .i (d+l:Nat)),(40, .s (s.extract d (d+l))),(41, .i c),(7, .i c)] [28,32,7] 7
    ⟨tq,
     λz=>dv (aO bN z.e (z.k 26) ((aG ((z.b.block _ (gA h).1).trans h) 5).trans rfl)).1,
     tq,
     tq,
     λz=>dv (sC z.e (z.k 28) (z.k 30) o_),
     tq,
     tq,
     tq,
     tq,
     tq,
     tq,
     λz=>Qv (tD (u:=3) z.e (z.k 36) (z.k 38) o_) (by rw[e3]),
     λz=>dv (ft z.e (z.k 32) (z.k 34) (z.k 39) o_ o_).1,
     λz=>z.c3 (z.k 27) (z.k 31) (z.k 40) (A _ (Ti K (aE r r.size z.b) U) (TC K (aE r r.size z.b).size)),
     trivial⟩ λa w6 ⟨W,b⟩=> ?_
   have Y:Bw w w6:=aE r r.size W;have h:=(W.block _ (gA h).1).trans h
   iterate 2 refine Rn.uu b λa b=> ?_
   refine Rn.p rfl (Rn.cond _ (b.G 43) ?_);by_cases I:c=0
   ·rw[show(c !=0)=false from by simpa using I]
    iterate 4 refine Rn.uu b λa b=> ?_
    exact Rn.fj b ⟨F,0,rfl, .inr ⟨v,F,q,d,l,k,D, .inr (.inr ⟨o_,y,c,T, .inr ⟨I,rfl,rfl⟩⟩)⟩,Y⟩
   ·rw[show(c !=0)=true from by simpa using I]
    iterate 3 refine Rn.uu b λa b=> ?_
    exact Rn.fj b ⟨0,c,rfl, .inr ⟨v,F,q,d,l,k,D, .inr (.inr ⟨o_,y,c,T, .inl ⟨I,rfl,rfl⟩⟩)⟩,Y⟩
 ·rw[show((pf s.data.toList).2 !=0)=true from by simpa using J]
  iterate 3 refine Rn.uu b λa b=> ?_
  exact Rn.fj b ⟨0,_,rfl, .inl ⟨J,rfl,rfl⟩,g⟩
theorem xI{u:Int}{us:List Bool}{hs:List ByteArray}{n t c':Int}(h:sr KS s u us hs n c)(g:sr KS s u us hs t c'):n=t/\c=c':=by
 rcases h with⟨G,rfl,rfl⟩|⟨v,K,C,a,l,k,z,h⟩
 ·rcases g with⟨_,rfl,rfl⟩|⟨B,q,i,A,w,x,r,_⟩
  ·exact⟨rfl,rfl⟩
  ·exact absurd (by rw[r]) G
 ·rcases g with⟨F,_,_⟩|⟨B,q,i,A,w,x,r,g⟩
  ·exact absurd (by rw[z]) F
  ·have e:=z.symm.trans r;simp only[Fi,Prod.mk.injEq,List.cons.injEq,Value.int.injEq,Value.string.injEq,true_and,and_true]at e;obtain⟨rfl,J,rfl,I,H,D⟩:=e;obtain rfl:C=i:=o_
   obtain rfl:a=A:=o_
   obtain rfl:l=w:=o_
   obtain rfl:k=x:=by simpa using D
   rcases h with⟨y,rfl,rfl⟩|⟨y,p,rfl,rfl⟩|⟨y,p,d,E,h⟩<;>rcases g with⟨j,rfl,rfl⟩|⟨j,b,rfl,rfl⟩|⟨j,b,L,m,g⟩
   ·exact⟨rfl,rfl⟩
   ·omega
   ·omega
   ·omega
   ·exact⟨rfl,rfl⟩
   ·rw[p]at b;cases b
   ·omega
   ·rw[p]at b;cases b
   ·obtain rfl:=CL E m;rcases h with⟨o,rfl,rfl⟩|⟨o,rfl,rfl⟩<;>rcases g with⟨f,rfl,rfl⟩|⟨f,rfl,rfl⟩
    ·exact⟨rfl,rfl⟩
    ·exact absurd f o
    ·exact absurd o f
    ·exact⟨rfl,rfl⟩
end L1
section
open Go.Conc Go.RowKit
section
variable{b:Frame}{k:List Item}
def gN(ops:Array Oper)(F:List (Nat×Value)):Option (Nat×Bool)->Bool
 |none=>false
 |some (g,q)=>match (ops[g]?).bind (·.dst)with
  |some s=>match F.lookup s with
   |some (.bool r)=>r !=q
   |_=>false
  |none=>false
theorem Fp{e:Option (Nat×Bool)}(f:aW F N ds a)(h:o.guard=e)(b:gN ops F e=true):TD o (yielded ops a.tmps)=false:=by
 unfold TD yielded;rw[h];cases e with
 |none=>cases b
 |some i=>
  obtain⟨g,q⟩:=i;simp only[gN]at b;cases c:(ops[g]?).bind (·.dst)with
  |none=>rw[c]at b;simp at b
  |some s=>
   rw[c]at b;simp only at b;cases d:F.lookup s with
   |none=>rw[d]at b;simp at b
   |some u=>
    rw[d]at b;cases u with
    |bool r=>simpa[c,f.slot s _ d]using b
    |_=>simp at b
theorem Rn.us{e:List Item}{d:Tmp}{p:Op}{g:Option (Nat×Bool)}(f:aW F N ds a)(next:∀a',aW ((d,undef)::F) N ds a'->Rn P Goal (b.atR a' (.inRegion ops rest::e)) cs w)(l:gk 6 (b.atR a k)= .inRegion ops (m::rest)::e:=by rfl)
 (h:(ops[m]?).map (λo=>(o.dst,o.op,o.guard))=some (some d,p,g):=by rfl) (i:gN ops F g=true:=by rfl) (j:d<N:=by decide):Rn P Goal (b.atR a k) cs w:=by
 refine Rn.gr ?_ l;cases c:ops[m]? with
 |none=>rw[c]at h;cases h
 |some o=>
  rw[c]at h;simp only[Option.map_some,Option.some.injEq,Prod.mk.injEq]at h;obtain⟨q,r,n⟩:=h;refine Rn.skips c (Fp f n i) ?_;rw[q];exact next _ (f.put j _)
theorem Rn.tabL{id:Nat}{fx:List (Nat×Value)}(u:aW fx N ds a)(c:List (Nat×Value))(g:List Nat)(L:List (Nat×Value))(d:kr P w fx c g ops 0 c)
 (next:∀a w',Bw w w'->aW (L++fx) N ds a->Rn P Goal (b.atR a k) cs w') (e:P.follows .mixedOrders=true:=by kernel_rfl) (i:ops.size=c.length:=by kernel_rfl) (l:zl fx c g ops=zk c g:=by kernel_rfl) (f:mh ops (c.map (·.1)) (fx.map (·.1)) N=true:=by kernel_rfl) (t:(L.map λp=>c.lookup p.1)=L.map (λp=>some p.2):=by kernel_rfl) (j:(fx.map (·.1)).Nodup:=by simp):Rn P Goal (b.atR a (.code (.region id ops true)::k)) cs w:=
 Rn.tabS u c g L d (λm a w'=>m=ops.size/\Bw w w'/\aW (L++fx) N ds a) (λ_ _ x v=>⟨i.symm,x,v⟩) (λn o a w' q y r z s=>by have:=(gA r).1;omega) (λa w' h=>next a w' h.2.1 h.2.2) e l f t j
end
end
namespace L1
open Go.Conc Go.RowKit
theorem IP(KS:List Int)(s:ByteArray)(h:Int)(us:List Bool)(hs:List ByteArray):∃n c,sr KS s h us hs n c:=by
 by_cases m:(pf s.data.toList).2=0
 ·obtain⟨v,e,b,a,l,k,f,_⟩:=Ij s m;by_cases o:v<h
  ·exact⟨0,7, .inr ⟨v,e,b,a,l,k,f, .inl ⟨o,rfl,rfl⟩⟩⟩
  ·cases g:i9 us hs (vl KS [⟨k.toArray⟩])with
   |false=>exact⟨0,8, .inr ⟨v,e,b,a,l,k,f, .inr (.inl ⟨o_,g,rfl,rfl⟩)⟩⟩
   |true=>
    obtain⟨d,i⟩:=yj KS ⟨k.toArray⟩ (s.extract 0 b) (s.extract a (a+l));by_cases j:d=0
    ·exact⟨e,0, .inr ⟨v,e,b,a,l,k,f, .inr (.inr ⟨o_,g,d,i, .inr ⟨j,rfl,rfl⟩⟩)⟩⟩
    ·exact⟨0,d, .inr ⟨v,e,b,a,l,k,f, .inr (.inr ⟨o_,g,d,i, .inl ⟨j,rfl,rfl⟩⟩)⟩⟩
 ·exact⟨0,_, .inl ⟨m,rfl,rfl⟩⟩
theorem Nn(h:AA KS key msg sig c):0<=c/\c<=10:=by rcases h with⟨_,rfl⟩|⟨_,_,rfl⟩|⟨_,_,_,rfl⟩|⟨_,_,_,rfl⟩<;>decide
theorem OC(L:List UInt8):0<=(pf L).2/\(pf L).2<=10:=by
 unfold pf sI
 repeat' split
 all_goals simp
theorem Cc{b:Int}{us:List Bool}{hs:List ByteArray}{n:Int}(h:sr KS s b us hs n c):0<=c/\c<=10:=by
 rcases h with⟨_,_,rfl⟩|⟨v,g,f,a,l,k,_,⟨_,_,rfl⟩|⟨_,_,_,rfl⟩|⟨_,_,d,e,⟨_,_,rfl⟩|⟨_,_,rfl⟩⟩⟩
 ·exact OC _
 ·decide
 ·decide
 ·exact Nn e
 ·decide
theorem LQ(KS:List Int)(g:KS.length=64)(s:ByteArray)(st le:Int)(a b:Value)(us:List Bool)(hs:List ByteArray)(f:us.length<4611686018427387904)(d:s.size<=281474976000000):∃n c,sr KS s le us hs n c/\∀w:World,jQ w a (us.map .bool)->jQ w b (hs.map .string)->w.rangeAt 0 0 (aH KS)->0<w.heap.size->
 Calls lT 75 #[.s s, .agg (i7 st le a b)] w λe w'=>e= .returned (.tuple #[.i n, .i c])/\Bw w w':=by obtain⟨n,c,h⟩:=IP KS s le us hs;exact⟨n,c,h,λw l k j i=>(FN KS g s st le a b us hs w l k f d j i).mono λe w' ⟨q,r,p,o,m⟩=>⟨by obtain⟨rfl,rfl⟩:=xI o h;exact p,m⟩⟩
theorem CP{L:List Value}(h:w.heap[b]?=some (.cells L.toArray t))(c:L.length=n):jQ w (.sk b n n) L:=⟨_,n,by rw[c],λi u a=>⟨_,rfl,by rw[Uu,TL,aG h];simpa using a⟩⟩
theorem mc{e d:Nat}{fl:Value}{W:List Int}{on:Bool}{sl:Int}{c:Array Value}(h:dL w e fl W on sl)(f:w.heap[d]?=some (.cells c 75)){cs:Array Value}{fr:Nat×Nat}(a:w.heap[b]?=some (.cells cs t fr))(i:t≠82)(g:t≠75):¬XR e d b:=by
 rintro(rfl|rfl)
 ·obtain⟨_,K,_,_,h⟩:=h;rw[h]at a;injection a with a;injection a with _ a;exact i a.symm
 ·rw[f]at a;injection a with a;injection a with _ a;exact g a.symm
theorem js{X:Nat->Prop}{L:List Value}(a:Ex X w w')(c:¬X 0)(hs:0<w.heap.size)(h:w.rangeAt 0 0 L):w'.rangeAt 0 0 L:=λj v b=>by have:=h j v b;unfold U6 at this⊢;rwa [a.block 0 hs c]
structure Sv (w0:World) (cb rb ob zb bu bh:Nat) (fl:Value) (W:List Int) (L:ByteArray) (st le:Int) (us:List Bool) (hs:List ByteArray) (KS:List Int) (room:Int) (w:World):Prop where
 ch:dL w cb fl W false 0
 run:w.heap[rb]?=some (.cells (iZ cb room false) 75)
 fls:lK w fl L
 out:w.heap[ob]?=some (.cells (eE 0 false 0 0 0) 36)
 fus:w.heap[zb]?=some (.cells (i7 st le (.sk bu 4 4) (.sk bh 4 4)) 48)
 us:w.heap[bu]?=some (.cells (us.map Value.bool).toArray 4)
 hs:w.heap[bh]?=some (.cells (hs.map Value.string).toArray 9)
 tab:w.rangeAt 0 0 (aH KS)
 ex:Ex (XR cb rb) w0 w
section
variable{cb rb ob zb bu bh:Nat}{fl:Value}{W:List Int}{L:ByteArray}{st le:Int}{us:List Bool}{hs:List ByteArray}{room room':Int}
theorem Sv.pos(h:Sv w0 cb rb ob zb bu bh fl W L st le us hs KS room w):0<w.heap.size:=Wo (W4 _) h.ch.lt
theorem Sv.ex'(h:Sv w0 cb rb ob zb bu bh fl W L st le us hs KS room w)(d:¬XR cb rb 0)(a:Ex (XR cb rb) w w')(c:dL w' cb fl W false 0)(b:w'.heap[rb]?=some (.cells (iZ cb room' false) 75)):Sv w0 cb rb ob zb bu bh fl W L st le us hs KS room' w':=
 ⟨c,b,h.fls.keep a (oH h.ch h.run),a.at (mc h.ch h.run h.out d_ d_) h.out,a.at (mc h.ch h.run h.fus d_ d_) h.fus,a.at (mc h.ch h.run h.us d_ d_) h.us,a.at (mc h.ch h.run h.hs d_ d_) h.hs,js a d h.pos h.tab,h.ex.trans a λ_ _ e=>e⟩
theorem Sv.below(h:Sv w0 cb rb ob zb bu bh fl W L st le us hs KS room w)(b:¬XR cb rb 0)(a:Bw w w'):Sv w0 cb rb ob zb bu bh fl W L st le us hs KS room w':=
 h.ex' b (Ex.of_below a) (h.ch.ex (Ex.of_below (X:=λ_=>False) a) λe=>e) (bk a h.run)
end
section
variable{y z:Operand}
theorem xb(a:o.op= .slice 77 x none none none)(c:ev x= .pk b 1):(execOp ev o).run lT w= .ok (.value (.slice (some ⟨b,1,none⟩) 85 85)) w:=by
 have e:execOp ev o=(do pure (.value (←UF 77 (.pk b 1) none none none))):=by simp only[execOp,a,c];rfl
 have d:(do pure (.value (←UF 77 (.pk b 1) none none none)):Sem Next).run lT w= .ok (.value (.slice (some ⟨b,1,none⟩) 85 85)) w:=k_
 rw[e,d]
theorem HT(a:o.op= .alloc 48):(execOp ev o).run lT w= .ok (.value (.pk w.heap.size 0)) (w.alloc (.cells (i7 0 0 (.slice none 0 0) (.slice none 0 0)) 48)):=by
 have e:execOp ev o=(do pure (.value (←Uo 48 true (.tuple #[])))):=by simp only[execOp,a]
 have b:(do pure (.value (←Uo 48 true (.tuple #[]))):Sem Next).run lT w= .ok (.value (.pk w.heap.size 0)) (w.alloc (.cells (i7 0 0 (.slice none 0 0) (.slice none 0 0)) 48)):=k_
 rw[e,b]
theorem If:(lT.info? 48).map (·.size)=some 4:=k_
theorem vj{st le:Int}{f g:Option Addr}{i d j e:Nat}{old:Array Value}{c:TypeId}(a:o.op= .store 48 x y)(l:ev x= .pk b 0)(k:ev y= .agg (i7 st le (.slice f i d) (.slice g j e)))(h:w.heap[b]?=some (.cells old c))(m:old.size=4):
 (execOp ev o).run lT w= .ok .skip (et w b (i7 st le (.slice f i d) (.slice g j e)) c):=by rw[←ie h];exact cZ a l k h If m (by simp[i7,Va])
theorem yY(a:o.op= .pick x y z)(c:ev x= .bool true)(b:ev y=v):(execOp ev o).run lT w= .ok (.value v) w:=by simp[execOp,a,c,b,asBool]
theorem yZ(a:o.op= .pick x y z)(c:ev x= .bool false)(b:ev z=v):(execOp ev o).run lT w= .ok (.value v) w:=by simp[execOp,a,c,b,asBool]
theorem NQ(d:t=118)(a:o.op= .build t #[(0,x),(1,y)])(c:ev x= .i 16)(b:ev y= .i 32):(execOp ev o).run lT w= .ok (.value (.agg #[.i 16, .i 32])) w:=by
 subst d;have e:execOp ev o=(do pure (.value (←Uj 118 #[(0, .i 16),(1, .i 32)]))):=by simp[execOp,a,c,b]
 have f:(do pure (.value (←Uj 118 #[(0, .i 16),(1, .i 32)])):Sem Next).run lT w= .ok (.value (.agg #[.i 16, .i 32])) w:=k_
 rw[e,f]
theorem R2(f:k<2)(a:o.op= .index 118 x y)(c:ev x= .agg #[.i 16, .i 32])(b:ev y= .i k):(execOp ev o).run lT w= .ok (.value (.i ((16+16*k:Nat):Int))) w:=by
 have e:execOp ev o=(do pure (.value (←Xf 118 (.agg #[.i 16, .i 32]) (.i k)))):=by simp only[execOp,a,c,b]
 have d:(do pure (.value (←Xf 118 (.agg #[.i 16, .i 32]) (.i k))):Sem Next).run lT w= .ok (.value (.i ((16+16*k:Nat):Int))) w:=by rcases(o_:k=0\/k=1)with rfl|rfl<;>kernel_rfl
 rw[e,d]
theorem KD{m n:Int}(a:o.op= .call {callee:= .builtin .max,args:=#[.tmp k, .tmp j],argTypes:=#[t,t]})(c:ev (.tmp k)= .i m)(b:ev (.tmp j)= .i n):(execOp ev o).run lT w= .ok (.value (.i (max m n))) w:=by
 have h:(if n>m then n else m)=max m n:=by split<;>omega
 have e:(Builtin.max2 (.i m) (.i n):Sem Value)=pure (.i (max m n)):=by rw[←h];rfl
 simp[execOp,a,resolve,c,b,invoke,builtin,Builtin.max_,e]
end
def lJ(KS W:List Int)(L:ByteArray)(j:Bool)(s n c:Int):Prop:=∃st le cr us hs,Tf W st le cr us hs/\
 ((cr≠0/\j=false/\s=0/\n=0/\c=1)\/(cr=0/\st≠255/\st≠3855/\j=false/\s=0/\n=0/\c=2)\/
  (cr=0/\(st=255\/st=3855)/\∃n0 c0,sr KS (L.extract 0 8192) le us hs n0 c0/\((c0=0/\j=true/\s=0/\n=n0/\c=0)\/
    (c0≠0/\∃n1 c1,sr KS (L.extract 8192 16384) le us hs n1 c1/\((c1=0/\j=true/\s=1/\n=n1/\c=0)\/(c1≠0/\j=false/\s=0/\n=0/\c=max c0 c1))))))
def Rk(f:Func):Code:= .seq (rG f 9) (.seq (.cond (.tmp 39) .skip (.exit 0)) (.seq (.block 1 (.seq (rG f 10) (.seq (rD f 11) (.seq (rG f 12) (.seq (.seq (rG f 13) (.cond (.tmp 59) (.seq (rG f 14) .ret) .skip)) (rG f 15)))))) (rG f 16)))
def I6(f:Func):Code:= .seq (rG f 17) .ret
def GQ(f:Func):Code:= .seq (rG f 7) (.seq (.seq (rG f 8) (.block 0 (.loop (Rk f)))) (I6 f))
section
variable{y z:Operand}
theorem CZ(hv:v.cells=#[v])(a:o.op= .box t x)(b:ev x=v):(execOp ev o).run lT w= .ok (.value (.pk w.heap.size 0)) (w.alloc (.cells #[v] t)):=by
 have:=(me lT (w:=w) (ev:=ev) a).1
 rwa [b,hv]at this
theorem pC:xZ lT 97:=λw=>⟨k_,k_⟩
end
theorem FU:Tryz.f59.body=some (.seq (rG Tryz.f59 0) (.seq (rG Tryz.f59 1) (.seq (rG Tryz.f59 2) (.seq (.seq (rG Tryz.f59 3) (.cond (.tmp 24) (.seq (rG Tryz.f59 4) .ret) .skip)) (.seq (.seq (rG Tryz.f59 5) (.cond (.tmp 34) (.seq (rG Tryz.f59 6) .ret) .skip)) (GQ Tryz.f59)))))):=k_
section
variable{cb rb:Nat}{fl:Value}{W:List Int}{L:ByteArray}{room:Int}
theorem IQ{on:Bool}{sl:Int}(h:dL w cb fl W on sl):w.rangeAt cb 1 (W.map (Value.int .i64)):=λj v a=>by
 obtain⟨e,K,f,_,d⟩:=h;rw[Up]at a;cases c:W[j]? with
 |none=>rw[c]at a;cases a
 |some x=>
  rw[c]at a;cases a;obtain⟨b,rfl⟩:=TM.1 c;rw[aG d];exact RH j b
end
theorem Pn:Tryz.f43.body=some (.seq (rG Tryz.f43 0) (.seq (rG Tryz.f43 1) (.seq (rG Tryz.f43 2) .ret))):=k_
theorem IW:Tryz.f58.body=some (.seq (rG Tryz.f58 0) (.cond (.tmp 4) (.seq (rG Tryz.f58 1) (rG Tryz.f58 2)) .skip)):=k_
section
variable{cb rb:Nat}{fl:Value}{W:List Int}{L:ByteArray}{room:Int}
structure i8 (KS W:List Int) (L:ByteArray) (fl:Value) (cb:Nat) (j:Bool) (s n c:Int) (w':World):Prop where
 step:lJ KS W L j s n c
 ch:dL w' cb fl W j s
 fls:lK w' fl L
end
theorem CV{p:Option Addr}{c:Nat}(a:o.op= .call {callee:= .builtin .len,args:=#[.tmp k],argTypes:=#[22]})(b:ev (.tmp k)= .slice p l c):eX ev o w (.i l):=sy (ty:=22) (e:=3) k_ a b
section
variable{cb:Nat}{fl:Value}{W:List Int}{L:ByteArray}{on:Bool}{sl:Int}
theorem BZ{w:World}{c:Array Value}(h:w.heap[b]?=some (.cells c t))(f:t≠5)(d:Nat)(cs:Array Value)(fr:Nat×Nat)(a:w.heap[d]?=some (.cells cs 5 fr)):¬d=b:=λe=>by rw[e,h]at a;injection a with a;injection a with _ a;exact f a
end
end L1
section
open Go.RowKit
theorem Lb{a c:Nat}(e:a<65536)(d:b<65536):EZ a b c<65536:=by have h:a&&&b<2^16:=Wn _ d;have g:a&&&c<2^16:=Wo aa9 e;have f:b&&&c<2^16:=Wo aa9 d;exact Xb (Xb h g) f
theorem La{a c:Nat}(h:a<65536)(e:b<65536)(d:c<65536):
 bits .or .i64 (bits .or .i64 (bits .and .i64 (a:Int) (b:Int)) (bits .and .i64 (a:Int) (c:Int))) (bits .and .i64 (b:Int) (c:Int))=((EZ a b c:Nat):Int):=by have g:a&&&b<2^16:=Wn _ e;have f:a&&&c<2^16:=Wn _ d;have j:b&&&c<2^16:=Wn _ d;have i:(a&&&b)|||(a&&&c)<2^16:=Xb g f;rw[Tl _ _ o_ o_,Tl _ _ o_ o_,Tl _ _ o_ o_,oL _ _ o_ o_,oL _ _ o_ o_];rfl
theorem Jy{g off:Nat}{W:List Int}(h:w.rangeAt g off (W.map (Value.int .i64)))(n:Nat)(a:n<W.length):w.cell? ⟨g,off+n,none⟩=some (.i (W.getD n 0)):=by refine h n _ ?_;rw[Up,TV,TX a];rfl
end
namespace L1
open Go.Conc Go.RowKit
section
variable{y z:Operand}
theorem lX{g off a cap:Nat}(n:Nat)(e:lT.underlying t=some (.slice 3))(b:o.op= .indexAddr t x y)(d:ev x= .slice (some ⟨g,off,none⟩) a cap)(c:ev y= .i n)(f:n<a):eX ev o w (.pk g (off+n)):=by
 have:=(eA (w:=w) e (λw=>k_) b d c f).1
 rwa [Uu]at this
theorem Bg{g off:Nat}{W:List Int}(n:Nat)(h:w.rangeAt g off (W.map (Value.int .i64)))(c:n<W.length)(a:o.op= .load 3 x)(b:ev x= .pk g (off+n)):eX ev o w (.i (W.getD n 0)):=(aO ce a b (Jy h n c)).1
theorem Mx{m n:Int}(a:o.op= .binOp .or 3 x y u)(c:ev x= .i m)(b:ev y= .i n):(execOp ev o).run lT w= .ok (.value (.i (bits .or .i64 m n))) w:=by simp[execOp,a,c,b,go_sem]
theorem tx{m n:Int}(a:o.op= .binOp .and 67 x y u)(c:ev x= .int .u64 m)(b:ev y= .int .u64 n):(execOp ev o).run lT w= .ok (.value (.int .u64 (bits .and .u64 m n))) w:=by simp[execOp,a,c,b,go_sem]
theorem qp{m n:Int}(a:o.op= .binOp .add 67 x y u)(c:ev x= .int .u64 m)(b:ev y= .int .u64 n):(execOp ev o).run lT w= .ok (.value (.int .u64 (UV.wrap (m+n)))) w:=by simp[execOp,a,c,b,go_sem]
theorem qo{m:Int}(d:k<=32)(a:o.op= .binOp .shr 67 x y u)(c:ev x= .int .u64 m)(b:ev y= .int .u64 k):(execOp ev o).run lT w= .ok (.value (.int .u64 (m/2^k))) w:=by simp[execOp,a,c,b,go_sem]
theorem Kg{m:Int}(a:o.op= .convert 67 3 x)(b:ev x= .int .u64 m):(execOp ev o).run lT w= .ok (.value (.i (U2.wrap m))) w:=by
 have d:lT.underlying 67=some (.int .u64):=k_
 have c:lT.underlying 3=some (.int .i64):=k_
 simp[execOp,a,b,go_sem,d,c]
theorem Kt{m:Int}(a:o.op= .convert 3 55 x)(b:ev x= .i m):(execOp ev o).run lT w= .ok (.value (.int .u64 (UV.wrap m))) w:=by
 have d:lT.underlying 55=some (.int .u64):=k_
 have c:lT.underlying 3=some (.int .i64):=k_
 simp[execOp,a,b,go_sem,d,c]
end
theorem Pi:Tryz.f46.body=some (.seq (rG Tryz.f46 0) (.seq (rG Tryz.f46 1) .ret)):=k_
theorem zB(x:Int)(c:0<=x/\x<65536)(w:World):Calls lT 46 #[.i x] w λe w'=>e= .returned (.bool true)/\w'=w:=by
 refine bI (t:=2) Lf.func46 rfl λf=> ?_;rw[aZ (N:=9) [.i x] Lf.func46 Pi rfl];have b:=aQ [.i x] 9 s_
 iterate 4 refine Rn.uc b λa b=> ?_
 rw[show decide (x≥0)=true from decide_eq_true c.1]at b
 iterate 2 refine Rn.uc b λa b=> ?_
 refine Rn.vv b (λo d=>yY d (b.G 5) (b.G 7)) λa b=> ?_;rw[show decide (x<=65535)=true from decide_eq_true o_]at b;refine Rn.uc b λa b=> ?_;exact Rn.fi b ⟨rfl,rfl⟩
def SQ(f:Func):Code:= .seq (rG f 4) (.seq (.cond (.tmp 11) .skip (.exit 0)) (.seq (.block 1 (.seq (rG f 5) (.seq (rG f 6) (.cond (.tmp 16) (.seq (rG f 7) .ret) .skip)))) (rG f 8)))
def MG(f:Func):Code:= .seq (rG f 9) .ret
theorem Ps:Tryz.f47.body=some (.seq (rG Tryz.f47 0) (.seq (.seq (rG Tryz.f47 1) (.cond (.tmp 7) (.seq (rG Tryz.f47 2) .ret) .skip)) (.seq (.seq (rG Tryz.f47 3) (.block 0 (.loop (SQ Tryz.f47)))) (MG Tryz.f47)))):=k_
theorem G1{W:List Int}(d:gW W){g off cap:Nat}(j:w.rangeAt g off (W.map (Value.int .i64)))(e:∀a,aW [(2, .bool true)] 18 [] a->Rn lT Goal ((base 47).atR a [.code .ret]) cs w):
 ∀(m i:Nat) (a:Act),85- i=m->i<=85->aW [(8, .slice (some ⟨g,off,none⟩) 85 cap),(9, .i 85),(10, .i i)] 18 [] a->Rn lT Goal ((base 47).atR a [.code (SQ Tryz.f47), .inLoop (SQ Tryz.f47), .inBlock 0, .code (MG Tryz.f47)]) cs w:=by
 intro m;induction m with
 |zero=>
  intro i a k l b;refine Rn.uc b λa b=> ?_;refine Rn.p rfl (Rn.p rfl (Rn.cond _ (b.G 11) ?_));rw[decide_eq_false o_];refine Rn.uc b λa b=> ?_;exact Rn.p rfl (e _ (b.only ⟨rfl,trivial⟩))
 |succ m f=>
  intro i a k l b;refine Rn.uc b λa b=> ?_;refine Rn.p rfl (Rn.p rfl (Rn.cond _ (b.G 11) ?_));rw[decide_eq_true o_];refine Rn.vv b (λo c=>lX i k_ c (b.G 8) (b.G 10) o_) λa b=> ?_;refine Rn.vv b (λo c=>Bg i j (by rw[d.1];omega) c (b.G 12)) λa b=> ?_
  iterate 2 refine Rn.uc b λa b=> ?_
  refine Rn.cw b Lf.func46 (zB _ (d.2 i o_) w) λp h a b=> ?_;rw[h];refine Rn.uc b λa b=> ?_;refine Rn.p rfl (Rn.cond _ (b.G 16) ?_);refine Rn.vv b (λo c=>dh (n:=1) c (b.G 10) rfl o_) λa b=> ?_;refine Rn.uc b λa b=> ?_;exact Rn.p rfl (Rn.p rfl (f (i+1) _ o_ o_ (b.only ⟨rfl,rfl,rfl,trivial⟩)))
theorem Ah{W:List Int}(f:gW W)(g off cap:Nat)(w:World)(d:w.rangeAt g off (W.map (Value.int .i64))):Calls lT 47 #[.slice (some ⟨g,off,none⟩) 85 cap] w λe w'=>e= .returned (.bool true)/\w'=w:=by
 refine bI (t:=2) Lf.func47 rfl λh=> ?_;rw[aZ (N:=18) [.slice (some ⟨g,off,none⟩) 85 cap] Lf.func47 Ps rfl];have b:=aQ [.slice (some ⟨g,off,none⟩) 85 cap] 18 s_
 iterate 2 refine Rn.uc b λa b=> ?_
 refine Rn.vv b (λo c=>CV c (b.G 5)) λa b=> ?_;refine Rn.uc b λa b=> ?_;refine Rn.p rfl (Rn.cond _ (b.G 7) ?_);refine Rn.uc b λa b=> ?_;refine Rn.vv b (λo c=>CV c (b.G 8)) λa b=> ?_;refine Rn.uc b λa b=> ?_;refine Rn.p rfl (Rn.p rfl (Rn.p rfl (G1 f d (λa b=>Rn.fi b ⟨rfl,rfl⟩) 85 0 _ rfl o_ (b.only ⟨rfl,rfl,rfl,trivial⟩))))
theorem M0:Tryz.f79.body=some (.seq (rG Tryz.f79 0) (.seq (rG Tryz.f79 1) (.seq (rG Tryz.f79 2) (.seq (rG Tryz.f79 3) (.seq (rG Tryz.f79 4) (.seq (rG Tryz.f79 5) (.seq (rG Tryz.f79 6) (.seq (rG Tryz.f79 7) .ret)))))))):=k_
theorem zd(x:Int)(w:World):Calls lT 79 #[.int .u64 x] w λe w'=>e= .returned (.i (vG x))/\w'=w:=by
 refine bI (t:=2) Lf.func79 rfl λd=> ?_;rw[aZ (N:=35) [.int .u64 x] Lf.func79 M0 rfl];have b:=aQ [.int .u64 x] 35 s_
 iterate 2 refine Rn.uc b λa b=> ?_
 refine Rn.vv b (λo c=>qo (k:=1) o_ c (b.G 3) rfl) λa b=> ?_;refine Rn.vv b (λo c=>tx c (b.G 4) rfl) λa b=> ?_;refine Rn.uc b λa b=> ?_;refine Rn.vv b (λo c=>tx c (b.G 6) rfl) λa b=> ?_;refine Rn.vv b (λo c=>qp c (b.G 5) (b.G 7)) λa b=> ?_;refine Rn.uc b λa b=> ?_;refine Rn.uc b λa b=> ?_;refine Rn.vv b (λo c=>qo (k:=2) o_ c (b.G 9) rfl) λa b=> ?_;refine Rn.vv b (λo c=>tx c (b.G 10) rfl) λa b=> ?_;refine Rn.uc b λa b=> ?_;refine Rn.vv b (λo c=>tx c (b.G 12) rfl) λa b=> ?_;refine Rn.vv b (λo c=>qp c (b.G 11) (b.G 13)) λa b=> ?_;refine Rn.uc b λa b=> ?_;refine Rn.uc b λa b=> ?_;refine Rn.vv b (λo c=>qo (k:=4) o_ c (b.G 15) rfl) λa b=> ?_;refine Rn.uc b λa b=> ?_;refine Rn.vv b (λo c=>qp c (b.G 16) (b.G 17)) λa b=> ?_;refine Rn.vv b (λo c=>tx c (b.G 18) rfl) λa b=> ?_;refine Rn.uc b λa b=> ?_;refine Rn.uc b λa b=> ?_;refine Rn.uc b λa b=> ?_;refine Rn.vv b (λo c=>qo (k:=8) o_ c (b.G 21) rfl) λa b=> ?_;refine Rn.vv b (λo c=>qp c (b.G 20) (b.G 22)) λa b=> ?_;refine Rn.uc b λa b=> ?_;refine Rn.uc b λa b=> ?_;refine Rn.uc b λa b=> ?_;refine Rn.vv b (λo c=>qo (k:=16) o_ c (b.G 25) rfl) λa b=> ?_;refine Rn.vv b (λo c=>qp c (b.G 24) (b.G 26)) λa b=> ?_;refine Rn.uc b λa b=> ?_;refine Rn.uc b λa b=> ?_;refine Rn.uc b λa b=> ?_;refine Rn.vv b (λo c=>qo (k:=32) o_ c (b.G 29) rfl) λa b=> ?_;refine Rn.vv b (λo c=>qp c (b.G 28) (b.G 30)) λa b=> ?_;refine Rn.uc b λa b=> ?_;refine Rn.uc b λa b=> ?_;refine Rn.vv b (λo c=>Kg c (b.G 32)) λa b=> ?_;refine Rn.vv b (λo c=>ku c (b.G 33) rfl) λa b=> ?_;refine Rn.uc b λa b=> ?_;exact Rn.fi b ⟨rfl,rfl⟩
theorem P7:Tryz.f60.body=some (.seq (rG Tryz.f60 0) (.seq (.cond (.const (.bool false)) (.seq (rG Tryz.f60 1) .ret) .skip) (.seq (rG Tryz.f60 2) .ret))):=k_
theorem ER(x:Int)(w:World):Calls lT 60 #[.int .u64 x] w λe w'=>e= .returned (.i (vG x))/\w'=w:=by refine bI (t:=2) Lf.func60 rfl λd=> ?_;rw[aZ (N:=8) [.int .u64 x] Lf.func60 P7 rfl];have b:=aQ [.int .u64 x] 8 s_;refine Rn.uc b λa b=> ?_;refine Rn.p rfl (Rn.p rfl (Rn.cond false rfl ?_));refine Rn.uc b λa b=> ?_;refine Rn.cw b Lf.func79 (zd x w) λw' c a b=> ?_;rw[c];refine Rn.uc b λa b=> ?_;exact Rn.fi b ⟨rfl,rfl⟩
theorem P0:Tryz.f48.body=some (.seq (rG Tryz.f48 0) (.seq (rD Tryz.f48 1) (.seq (.seq (rG Tryz.f48 2) (.block 0 (.seq (.seq (rG Tryz.f48 3) (.cond (.tmp 13) .skip (.seq (rG Tryz.f48 4) (.cond (.tmp 13) .skip (.seq (rG Tryz.f48 5) (.cond (.tmp 13) .skip (rG Tryz.f48 6))))))) (.cond (.tmp 13) (.seq (rG Tryz.f48 7) .ret) .skip)))) (.seq (rG Tryz.f48 8) .ret)))):=k_
theorem EA{W:List Int}(H:gW W)(c off cap:Nat)(w:World)(F:w.rangeAt c off (W.map (Value.int .i64))):Calls lT 48 #[.slice (some ⟨c,off,none⟩) 85 cap] w λe w'=>∃v,e= .returned v/\∃s,v= .tuple #[.i s, .bool (JY W)]/\(JY W=true->s=W.getD 0 0)/\Bw w w':=by
 refine gR (t:=2) (u:=3) Lf.func48 rfl λC=> ?_;rw[aZ (N:=22) [.slice (some ⟨c,off,none⟩) 85 cap] Lf.func48 P0 rfl];have b:=aQ [.slice (some ⟨c,off,none⟩) 85 cap] 22 s_
 iterate 2 refine Rn.uc b λa b=> ?_
 have b:aW [(0, .slice (some ⟨c,off,none⟩) 85 cap)] 22 [] a:=b.only ⟨rfl,trivial⟩;have J:=H.1;have p:∀{w':World},Bw w w'->∀n,n<85->w'.cell? ⟨c,off+n,none⟩=some (.i (W.getD n 0)):=λG n I=>d9 G (Jy F n o_);refine Rn.p rfl (Rn.p rfl ?_);refine Rn.tabL b [(6, .slice (some ⟨c,off,none⟩) 85 cap),(7, .pk c (off+0)),(8, .i (W.getD 0 0)),(9, .slice (some ⟨c,off,none⟩) 85 cap),(10, .pk c (off+1)),(11, .i (W.getD 1 0)),(4, .i (W.getD 0 0)),(5, .i (W.getD 1 0))] [6,9,4,5] [(4, .i (W.getD 0 0)),(5, .i (W.getD 1 0))]
  ⟨λz=>dv (lX 0 k_ z.qq (z.k 6) rfl o_),
   λz=>dv (aO ce z.qq (z.k 7) (p z.b 0 o_)).1,
   λz=>dv (lX 1 k_ z.qq (z.k 9) rfl o_),
   λz=>dv (aO ce z.qq (z.k 10) (p z.b 1 o_)).1,
   trivial⟩ λa E D b=> ?_
 have d:∀{a:Act} {K:List Item},(W.getD 0 0==255||W.getD 0 0==3855||W.getD 0 0==13107||W.getD 0 0==21845)=true->aW [(4, .i (W.getD 0 0)),(5, .i (W.getD 1 0)),(13, .bool true)] 22 [] a->Rn lT (λg w'=>∃(a:Act) (k:List Item) (v x:Value),g=cJ {(base 48).atR a k with mode:= .returning} C/\a.defers=[]/\a.tmps[2]?=some v/\a.tmps[3]?=some x/\∃i,Ending.returned (.tuple #[v,x])= .returned i/\∃s,i= .tuple #[.i s, .bool (JY W)]/\(JY W=true->s=W.getD 0 0)/\Bw w w') ((base 48).atR a (.code (.cond (.tmp 13) (.seq (rG Tryz.f48 7) .ret) .skip)::K)) C E:=λ{a K} h b=>by
  refine Rn.cond _ (b.G 13) ?_
  iterate 6 refine Rn.uc b λa b=> ?_
  refine Rn.fj b ⟨_,rfl,W.getD 0 0, ?_,λ_=>rfl,D⟩;rw[JY,h,Xs]
 iterate 3 refine Rn.uc b λa b=> ?_
 refine Rn.p rfl (Rn.cond _ (b.G 13) ?_);by_cases B:W.getD 0 0=255
 ·have q:(W.getD 0 0==255)=true:=by simpa using B
  rw[q]at b⊢;exact Rn.p rfl (d (by simp only[q,XL]) (b.only ⟨rfl,rfl,rfl,trivial⟩))
 have o:(W.getD 0 0==255)=false:=by simpa using B
 rw[o]
 iterate 2 refine Rn.uc b λa b=> ?_
 refine Rn.p rfl (Rn.cond _ (b.G 13) ?_);by_cases A:W.getD 0 0=3855
 ·have q:(W.getD 0 0==3855)=true:=by simpa using A
  rw[q]at b⊢;exact Rn.p rfl (d (by simp only[q,XL,a86]) (b.only ⟨rfl,rfl,rfl,trivial⟩))
 have m:(W.getD 0 0==3855)=false:=by simpa using A
 rw[m]
 iterate 2 refine Rn.uc b λa b=> ?_
 refine Rn.p rfl (Rn.cond _ (b.G 13) ?_);by_cases y:W.getD 0 0=13107
 ·have q:(W.getD 0 0==13107)=true:=by simpa using y
  rw[q]at b⊢;exact Rn.p rfl (d (by simp only[q,XL,a86]) (b.only ⟨rfl,rfl,rfl,trivial⟩))
 have l:(W.getD 0 0==13107)=false:=by simpa using y
 rw[l]
 iterate 2 refine Rn.uc b λa b=> ?_
 by_cases r:W.getD 0 0=21845
 ·have q:(W.getD 0 0==21845)=true:=by simpa using r
  rw[q]at b;exact Rn.p rfl (d (by simp only[q,a86]) (b.only ⟨rfl,rfl,rfl,trivial⟩))
 have j:(W.getD 0 0==21845)=false:=by simpa using r
 refine Rn.p rfl (Rn.cond _ (b.G 13) ?_);rw[j]
 iterate 2 refine Rn.uc b λa b=> ?_
 have f:JY W=false:=by simp only[JY,o,m,l,j,Bool.or_self,Ys]
 exact Rn.fj b ⟨_,rfl,0,by rw[f],λe=>(by rw[f]at e;cases e),D⟩
theorem Pb:Tryz.f49.body=some (.seq (rG Tryz.f49 0) (.seq (rD Tryz.f49 1) (.seq (rG Tryz.f49 2) (.seq (.seq (rG Tryz.f49 3) (.cond (.tmp 32) (.seq (rG Tryz.f49 4) .ret) .skip)) (.seq (rG Tryz.f49 5) .ret))))):=k_
theorem BQ{W:List Int}(h:gW W)(f off cap:Nat)(w:World)(H:w.rangeAt f off (W.map (Value.int .i64))):Calls lT 49 #[.slice (some ⟨f,off,none⟩) 85 cap] w λe w'=>∃v,e= .returned v/\∃s,v= .tuple #[.i s, .bool (ME W)]/\(ME W=true->s=vG (Gc W))/\Bw w w':=by
 refine gR (t:=2) (u:=3) Lf.func49 rfl λL=> ?_;rw[aZ (N:=36) [.slice (some ⟨f,off,none⟩) 85 cap] Lf.func49 Pb rfl];have b:=aQ [.slice (some ⟨f,off,none⟩) 85 cap] 36 s_
 iterate 2 refine Rn.uc b λa b=> ?_
 have b:aW [(0, .slice (some ⟨f,off,none⟩) 85 cap)] 36 [] a:=b.only ⟨rfl,trivial⟩;have K:=h.1;have k:∀{w':World},Bw w w'->∀n,n<85->w'.cell? ⟨f,off+n,none⟩=some (.i (W.getD n 0)):=λI n J=>d9 I (Jy H n o_);obtain⟨A,D,j⟩:∃A:Nat,W.getD 2 0=(A:Int)/\A<65536:=⟨(W.getD 2 0).toNat,by have:=h.2 2 o_;omega,by have:=h.2 2 o_;omega⟩;obtain⟨B,y,i⟩:∃A:Nat,W.getD 3 0=(A:Int)/\A<65536:=⟨(W.getD 3 0).toNat,by have:=h.2 3 o_;omega,by have:=h.2 3 o_;omega⟩;obtain⟨C,x,q⟩:∃A:Nat,W.getD 4 0=(A:Int)/\A<65536:=⟨(W.getD 4 0).toNat,by have:=h.2 4 o_;omega,by have:=h.2 4 o_;omega⟩;have r:Gc W=EZ A B C:=by simp only[Gc,D,y,x,Int.toNat_natCast]
 have p:=Lb (c:=C) j i;have m:=La j i q;refine Rn.p rfl (Rn.p rfl ?_);refine Rn.tabL b [(8, .slice (some ⟨f,off,none⟩) 85 cap),(9, .pk f (off+2)),(10, .i A),(11, .slice (some ⟨f,off,none⟩) 85 cap),(12, .pk f (off+3)),(13, .i B),(14, .slice (some ⟨f,off,none⟩) 85 cap),(15, .pk f (off+4)),(16, .i C),(4, .i A),(5, .i B),(6, .i C)] [8,11,14,4,5,6] [(4, .i A),(5, .i B),(6, .i C)]
  ⟨λz=>dv (lX 2 k_ z.qq (z.k 8) rfl o_),
   λz=>dv (aO ce z.qq (z.k 9) (D▸k z.b 2 o_)).1,
   λz=>dv (lX 3 k_ z.qq (z.k 11) rfl o_),
   λz=>dv (aO ce z.qq (z.k 12) (y▸k z.b 3 o_)).1,
   λz=>dv (lX 4 k_ z.qq (z.k 14) rfl o_),
   λz=>dv (aO ce z.qq (z.k 15) (x▸k z.b 4 o_)).1,
   trivial⟩ λa F E b=> ?_
 iterate 2 refine Rn.uc b λa b=> ?_
 refine Rn.vv b (λo d=>ku d (b.G 17) (b.G 18)) λa b=> ?_
 iterate 2 refine Rn.uc b λa b=> ?_
 refine Rn.vv b (λo d=>ku d (b.G 20) (b.G 21)) λa b=> ?_;refine Rn.vv b (λo d=>Mx d (b.G 19) (b.G 22)) λa b=> ?_
 iterate 2 refine Rn.uc b λa b=> ?_
 refine Rn.vv b (λo d=>ku d (b.G 24) (b.G 25)) λa b=> ?_;refine Rn.vv b (λo d=>Mx d (b.G 23) (b.G 26)) λa b=> ?_;rw[m,←r]at b;rw[←r]at p
 iterate 3 refine Rn.uc b λa b=> ?_
 refine Rn.vv b (λo d=>dh (n:=1) d (b.G 29) rfl o_) λa b=> ?_;refine Rn.vv b (λo d=>ku d (b.G 28) (b.G 30)) λa b=> ?_;rw[Tl _ _ o_ o_]at b;refine Rn.uc b λa b=> ?_;refine Rn.p rfl (Rn.cond _ (b.G 32) ?_);by_cases l:Gc W&&&(Gc W+1)=0
 ·have g:ME W=true:=by simp[ME,l]
  rw[l];refine Rn.uc b λa b=> ?_;refine Rn.vv b (λo d=>Kt d (b.G 33)) λa b=> ?_;rw[show UV.wrap ((Gc W:Nat):Int)=((Gc W:Nat):Int)from by rw[Vz];omega]at b;refine Rn.cw b Lf.func60 (ER _ F) λw' G a b=> ?_;rw[G]
  iterate 2 refine Rn.uc b λa b=> ?_
  exact Rn.fj b ⟨_,rfl,_,by rw[g],λ_=>rfl,E⟩
 ·have g:ME W=false:=by simp[ME,l]
  rw[show(((Gc W&&&(Gc W+1):Nat):Int) !=0)=true from by simp;omega]
  iterate 2 refine Rn.uc b λa b=> ?_
  exact Rn.fj b ⟨_,rfl,0,by rw[g],λe=>(by rw[g]at e;cases e),E⟩
end L1
namespace L1
open Go.RowKit
theorem pZ(b off cap a:Nat)(x y:Int)(w:World)(h:a+1<20)
 (m:w.cell? ⟨b,off+a,none⟩=some (.i x)) (l:w.cell? ⟨b,off+(a+1),none⟩=some (.i y)):
 Calls lT 62 #[.slice (some ⟨b,off,none⟩) 20 cap, .i a] w λe w'=>e= .returned (.bool (qR x y))/\∃n,w'=w.drewN n:=by
 have j:U2.wrap ((a:Int)+1)=((a+1:Nat):Int):=by rw[TR]<;>omega
 have k:(a:Int)<20:=o_
 have g:((a+1:Nat):Int)<20:=o_
 by_cases c:x=y
 ·subst c;have d:(x==x)=true:=s_
  by_cases g:x=4080
  ·subst g;have f:Hid (qR 4080 4080=true):=by show qR 4080 4080=_;rfl
   go_enter Lf.func62,Tryz.ntmps62
   go_wp2
   go_quiet (fail)
   go_wp2_with fail
   go_ret
   exact⟨by rw[f.out];rfl,_,rfl⟩
  ·have i:(x==4080)=false:=(by rw[beq_eq_false_iff_ne];exact g);have f:Hid (qR x x=(x==61455)):=by show qR x x=_;simp[qR,i]
   go_enter Lf.func62,Tryz.ntmps62
   go_wp2
   go_quiet (fail)
   go_wp2_with fail
   go_ret
   exact⟨by rw[f.out];rfl,_,rfl⟩
 ·have d:(x==y)=false:=by rw[beq_eq_false_iff_ne];exact c
  have f:Hid (qR x y=false):=by show qR x y=_;simp[qR,d]
  go_enter Lf.func62,Tryz.ntmps62
  go_wp2
  go_quiet (fail)
  go_wp2_with fail
  go_ret
  exact⟨by rw[f.out];rfl,_,rfl⟩
end L1
section
open Go.Conc Go.RowKit
section
variable{b:Frame}{k:List Item}
theorem Rn.cg{d:Tmp}{xs:Array Operand}{ats:Array TypeId}{vs:List Value}{j:List Item}{R:Value->World->Prop}{l:Option (Nat×Bool)}(i:aW F N ds a)(r:P.funcs[f]?=some fn)(x:Calls P f vs.toArray w λe w'=>∃v,e= .returned v/\R v w')
 (next:∀v w',R v w'->∀a',aW ((d,v)::F) N ds a'->Rn P Goal (b.atR a' (.inRegion ops rest::j)) cs w') (y:gk 6 (b.atR a k)= .inRegion ops (m::rest)::j:=by rfl)
 (h:(ops[m]?).map (λo=>(o.dst,o.op,o.guard))=some (some d, .call {callee:= .value (.func f),args:=xs,argTypes:=ats},l):=by rfl) (p:gF ops F l=true:=by rfl) (u:MN F xs.toList=some vs:=by rfl) (s:d<N:=by decide) (c:(fn.name== "runtime.NumGoroutine")=false:=by kernel_rfl) (t:fn.body.isNone=false:=by kernel_rfl):Rn P Goal (b.atR a k) cs w:=by
 refine Rn.gr ?_ y;cases g:ops[m]? with
 |none=>rw[g]at h;cases h
 |some o=>
  rw[g]at h;simp only[Option.map_some,Option.some.injEq,Prod.mk.injEq]at h;obtain⟨A,n,z⟩:=h;refine Rn.call g (lq i z p) (by rw[n];simp) (bU (w:=w) n (by rw[←tZ i _ _ u,←Array.toList_map,Array.toArray_toList]) (du r c t _)).1 x λv w' q=> ?_;rw[A];exact next v w' q _ (i.put s v)
end
theorem Lf.func63:(aI q tP).funcs[63]?=some Tryz.f63:=aN Tryz.func63 d_ rfl rfl k_
theorem Lf.func65:(aI q tP).funcs[65]?=some Tryz.f65:=aN Tryz.func65 d_ rfl rfl k_
theorem rT(w:World)(n:Nat):Bw w (w.drewN n):=⟨rfl,rfl,rfl,TB _,λ_ _=>rfl⟩
theorem pW{T e B:Nat}{p:Value}{bs:List Value}{M i:World}(h:ac4 T e B b p bs M)(a:Bw M i):ac4 T e B b p bs i:=by
 have f:=h.lt;obtain⟨j,v,g,c,d⟩:=h;refine⟨j,v,by rw[a.block b f];exact g,c.kept (row:=none) ⟨a.os,a.tape,a.output,a.size,λk g _=>a.block k g⟩ ?_,d⟩;cases l:v.ownBlock with
 |none=>exact .inl rfl
 |some k=>exact .inr s_
theorem tV{T e B:Nat}{bs:List Value}{M c:World}(h:WR T e B b bs M)(a:Bw M c):WR T e B b bs c:=
 h.elim (λx=> .inl (pW x a)) (λx=> .inr (pW x a))
theorem xx(L:List Int):(iS L).length=2*L.length:=by
 induction L with
 |nil=>rfl
 |cons x L a=>rw[iS,YC,UT,db];rw[iS]at a;rw[a];simp;omega
end
namespace L1
open Go.Conc Go.RowKit
theorem P2:Tryz.f51.body=some (.seq (rG Tryz.f51 0) (.seq (rG Tryz.f51 1) .ret)):=k_
theorem Bc(L:List Int)(c off cap:Nat)(w:World)(g:w.rangeAt c off (L.map (Value.int .i64)))(z:L.length=20):Calls lT 51 #[.slice (some ⟨c,off,none⟩) 20 cap] w λe w'=>e= .returned (.bool (kt L))/\Bw w w':=by
 have x:=Jy g 0 o_;have u:=Jy g 1 o_;have s:=Jy g 2 o_;have r:=Jy g 3 o_;refine bI (t:=2) Lf.func51 rfl λA=> ?_;rw[aZ (N:=9) [.slice (some ⟨c,off,none⟩) 20 cap] Lf.func51 P2 rfl];have b:=aQ [.slice (some ⟨c,off,none⟩) 20 cap] 9 s_
 iterate 2 refine Rn.uc b λa b=> ?_
 refine Rn.cw b Lf.func62 (B:=λw'=>∃n,w'=w.drewN n) (pZ c off cap 0 _ _ w o_ x u) λf ⟨l,i⟩ a b=> ?_;have d:Bw w f:=i▸rT w l;refine Rn.uc b λa b=> ?_;cases h:qR (L.getD 0 0) (L.getD 1 0)with
 |false=>
  rw[h]at b
  iterate 2 refine Rn.us b λa b=> ?_
  refine Rn.vv b (λo j=>yZ j (b.G 5) rfl) λa b=> ?_;refine Rn.uc b λa b=> ?_;exact Rn.fi b ⟨by rw[kt,h,Ys],d⟩
 |true=>
  rw[h]at b;refine Rn.uc b λa b=> ?_;refine Rn.cg b Lf.func62 (R:=λv w'=>v= .bool (qR (L.getD 2 0) (L.getD 3 0))/\∃n,w'=f.drewN n) ((pZ c off cap 2 _ _ f o_ (d9 d s) (d9 d r)).mono λe w' ⟨q,p⟩=>⟨_,q,rfl,p⟩) λv y m a b=> ?_;obtain⟨rfl,k,rfl⟩:=m;refine Rn.vv b (λo j=>yY j (b.G 5) (b.G 7)) λa b=> ?_;refine Rn.uc b λa b=> ?_;exact Rn.fi b ⟨by rw[kt,h,Xs],aE d d.size (rT f k)⟩
theorem OW:Tryz.f52.body=some (.seq (rG Tryz.f52 0) (.seq (rG Tryz.f52 1) .ret)):=k_
theorem yk(L:List Int)(f off cap:Nat)(w:World)(g:w.rangeAt f off (L.map (Value.int .i64)))(h:L.length=20):Calls lT 52 #[.slice (some ⟨f,off,none⟩) 20 cap] w λe w'=>e= .returned (.bool (iz L))/\Bw w w':=by
 refine bI (t:=2) Lf.func52 rfl λi=> ?_;rw[aZ (N:=13) [.slice (some ⟨f,off,none⟩) 20 cap] Lf.func52 OW rfl];have b:=aQ [.slice (some ⟨f,off,none⟩) 20 cap] 13 s_
 iterate 2 refine Rn.uc b λa b=> ?_
 refine Rn.vv b (λo c=>lX 0 k_ c (b.G 3) rfl o_) λa b=> ?_;refine Rn.vv b (λo c=>Bg 0 g o_ c (b.G 4)) λa b=> ?_
 iterate 2 refine Rn.uc b λa b=> ?_
 cases d:(L.getD 0 0==4080)with
 |false=>
  rw[d]at b
  iterate 4 refine Rn.us b λa b=> ?_
  refine Rn.vv b (λo c=>yZ c (b.G 7) rfl) λa b=> ?_;refine Rn.uc b λa b=> ?_;exact Rn.fi b ⟨by rw[iz,d,Ys],bR⟩
 |true=>
  rw[d]at b;refine Rn.uc b λa b=> ?_;refine Rn.vv b (λo c=>lX 2 k_ c (b.G 8) rfl o_) λa b=> ?_;refine Rn.vv b (λo c=>Bg 2 g o_ c (b.G 9)) λa b=> ?_;refine Rn.uc b λa b=> ?_;refine Rn.vv b (λo c=>yY c (b.G 7) (b.G 11)) λa b=> ?_;refine Rn.uc b λa b=> ?_;exact Rn.fi b ⟨by rw[iz,d,Xs],bR⟩
theorem JD(B b:Nat)(bs:List Value)(s:ByteArray)(w:World)(h:WR 102 5 B b bs w)(a:bs.length+s.size<=140737488355328)(c:B<=w.heap.size):
 Calls lT 63 #[.pk b 0, .s s] w λe w'=>∃v,e= .returned v/\WR 102 5 B b (bs++ad8 s) w'/\Below B w w':=
 (Go.Proofs.Any.Builder_WriteString_f (P:=aI true tP) {Lf.lays156 (q:=true)with} Lf.extra156 B b bs s w h a c).mono λ_ _ h=>⟨_,h.1, .inr h.2.1,h.2.2⟩
theorem Gy(B b:Nat)(l:List UInt8)(w:World)(h:WR 102 5 B b (ZC l) w)(a:B<=w.heap.size):
 Calls lT 65 #[.pk b 0] w λe w'=>e= .returned (.string ⟨l.toArray⟩)/\Below B w w':=
 (Go.Proofs.Any.Builder_String_any_f (P:=aI true tP) {Lf.lays156 (q:=true)with} Lf.extra156 B b l w h a).mono λ_ _ h=>⟨h.1,h.2.2⟩
section
variable{y z:Operand}
theorem Ol(a:o.op= .alloc 102):(execOp ev o).run lT w= .ok (.value (.pk w.heap.size 0)) (w.alloc (.cells #[.pointer none, .slice none 0 0] 102)):=by
 have e:execOp ev o=(do pure (.value (←Uo 102 true (.tuple #[])))):=by simp only[execOp,a]
 have b:(do pure (.value (←Uo 102 true (.tuple #[]))):Sem Next).run lT w= .ok (.value (.pk w.heap.size 0)) (w.alloc (.cells #[.pointer none, .slice none 0 0] 102)):=k_
 rw[e,b]
theorem KP{a off cap:Nat}(i:20<=cap)(c:o.op= .slice 91 x (some y) none none)(e:ev x= .slice (some ⟨a,off,none⟩) 20 cap)(d:ev y= .i 4):(execOp ev o).run lT w= .ok (.value (.slice (some ⟨a,off+4,none⟩) 16 (cap- 4))) w:=by
 have f:lT.underlying 91=some (.slice 3):=k_
 have b:(sizeOf 3).run lT w= .ok 1 w:=k_
 have g:¬cap=4:=o_
 have h:(⟨a,off,none⟩:Addr).add 4=⟨a,off+4,none⟩:=Uu ..;simp[execOp,c,e,d,UF,VE,UK,run_underlying f,UQ,asIntOf,b,g,h]
end
def SX(f:Func):Code:= .seq (rG f 3) (.seq (.cond (.tmp 10) .skip (.exit 0)) (.seq (.block 1 (.seq (rG f 4) (rG f 5))) (rG f 6)))
def MJ(f:Func):Code:= .seq (rG f 7) .ret
theorem Pj:Tryz.f53.body=some (.seq (rG Tryz.f53 0) (.seq (rG Tryz.f53 1) (.seq (.seq (rG Tryz.f53 2) (.block 0 (.loop (SX Tryz.f53)))) (MJ Tryz.f53)))):=k_
section
variable{L:List Int}{gb off cap:Nat}
theorem Fj(B:w.rangeAt gb off (L.map (Value.int .i64)))(J:L.length=20)(z:∀k,k<20->0<=L.getD k 0/\L.getD k 0<65536)
 (t:∀a w',Bw w w'->aW [(2, .string ⟨(iS (L.drop 4)).toArray⟩)] 18 [] a->Rn lT Goal ((base 53).atR a [.code .ret]) cs w'):
 ∀(m i:Nat) (a:Act) (c:World),16- i=m->i<=16->Bw w c->w.heap.size<c.heap.size->WR 102 5 w.heap.size w.heap.size (ZC (iS ((L.drop 4).take i))) c->aW [(3, .pt w.heap.size),(7, .slice (some ⟨gb,off+4,none⟩) 16 (cap- 4)),(8, .i 16),(9, .i i)] 18 [] a->Rn lT Goal ((base 53).atR a [.code (SX Tryz.f53), .inLoop (SX Tryz.f53), .inBlock 0, .code (MJ Tryz.f53)]) cs c:=by
 intro m;induction m with
 |zero=>
  intro i a c C D e y g b;have l:(L.drop 4).take i=L.drop 4:=UU (by rw[a95];omega);rw[l]at g;refine Rn.uc b λa b=> ?_;refine Rn.p rfl (Rn.p rfl (Rn.cond _ (b.G 10) ?_));rw[decide_eq_false o_];refine Rn.cw b Lf.func65 (Gy _ _ _ c g o_) λh f a b=> ?_;refine Rn.uc b λa b=> ?_;exact Rn.p rfl (t _ _ (e.trans f) (b.only ⟨rfl,trivial⟩))
 |succ m u=>
  intro i a c C D e y g b;refine Rn.uc b λa b=> ?_;refine Rn.p rfl (Rn.p rfl (Rn.cond _ (b.G 10) ?_));rw[decide_eq_true o_];have I:=z (4+i) o_;have p:=d9 e (Jy B (4+i) o_);obtain⟨x,q⟩:∃x:Nat,L.getD (4+i) 0=(x:Int):=⟨(L.getD (4+i) 0).toNat,o_⟩;rw[←YD,q]at p;refine Rn.vv b (λo d=>lX i k_ d (b.G 7) (b.G 9) o_) λa b=> ?_;refine Rn.vv b (λo d=>(aO ce d (b.G 11) p).1) λa b=> ?_
  iterate 2 refine Rn.uc b λa b=> ?_
  refine Rn.cw b Lf.func64 (lO x o_ c) λh f a b=> ?_;have H:=f.size;refine Rn.cl b Lf.func63 (R:=λ_ w'=>WR 102 5 w.heap.size w.heap.size (ZC (iS ((L.drop 4).take i))++ad8 ⟨(cY x 2).toArray⟩) w'/\Below w.heap.size h w') (JD _ _ _ ⟨(cY x 2).toArray⟩ h (tV g f) (by rw[Lib.byteCells_length,xx,List.length_take];have:(ByteArray.mk (cY x 2).toArray).size=2:=(by show(cY x 2).toArray.size=2;rw[Uq,db]);omega) o_) λv s A a b=> ?_
  obtain⟨j,r⟩:=A;have G:=r.size;refine Rn.vv b (λo d=>dh (n:=1) d (b.G 9) rfl o_) λa b=> ?_;refine Rn.uc b λa b=> ?_;refine Rn.p rfl (Rn.p rfl (u (i+1) _ s o_ o_ ((e.trans (f.mono e.size)).trans r) o_ ?_ (b.only ⟨rfl,rfl,rfl,rfl,trivial⟩)));have F:(L.drop 4).take (i+1)=(L.drop 4).take i++[(x:Int)]:=by have E:i<(L.drop 4).length:=(by rw[a95];omega);rw[VV E,List.getElem_drop,←q,TV,TX o_];rfl
  rw[F,show iS ((L.drop 4).take i++[(x:Int)])=iS ((L.drop 4).take i)++cY x 2 from by simp[iS],Lib.byteCells_append];exact j
theorem Fl(l:w.rangeAt gb off (L.map (Value.int .i64)))(m:L.length=20)(j:∀k,k<20->0<=L.getD k 0/\L.getD k 0<65536)(d:20<=cap):Calls lT 53 #[.slice (some ⟨gb,off,none⟩) 20 cap] w λe w'=>e= .returned (.string ⟨(iS (L.drop 4)).toArray⟩)/\Bw w w':=by refine bI (t:=2) Lf.func53 rfl λp=> ?_;rw[aZ (N:=18) [.slice (some ⟨gb,off,none⟩) 20 cap] Lf.func53 Pj rfl];have b:=aQ [.slice (some ⟨gb,off,none⟩) 20 cap] 18 s_;refine Rn.uc b λa b=> ?_;refine Rn.vv b (λo c=>Ol c) λa b=> ?_;have g:=aV w (.cells #[.pointer none, .slice none 0 0] 102);have h:=aR w (.cells #[.pointer none, .slice none 0 0] 102);have f:=Lib.IsBuilderF.of (Lib.fresh_isBuilder 102 5 w);revert g h f;generalize w.alloc (.cells #[.pointer none, .slice none 0 0] 102)=i;intro g h f;refine Rn.uc b λa b=> ?_;refine Rn.vv b (λo c=>KP d c (b.G 6) rfl) λa b=> ?_;refine Rn.vv b (λo c=>sy (ty:=91) (e:=3) k_ c (b.G 7)) λa b=> ?_;refine Rn.uc b λa b=> ?_;exact Rn.p rfl (Rn.p rfl (Rn.p rfl (Fj (cap:=cap) l m j (λa w' n b=>Rn.fi b ⟨rfl,n⟩) 16 0 _ i rfl o_ g o_ f (b.only ⟨rfl,rfl,rfl,rfl,trivial⟩))))
end
end L1
section
open Go.Conc Go.RowKit
theorem cC{a:Nat}{c1 c2:Array Value}{f d:TypeId}(c:w.heap[a]?=some (.cells c1 f))(h:w.heap[b]?=some (.cells c2 d))(g:f≠d):a≠b:=λe=>by rw[e,h]at c;injection c with c;injection c with _ c;exact g c.symm
theorem gi{a:Nat}{g:Array Value}{d:TypeId}{r:Loop}(c:w.heap[a]?=some (.cells g d))(f:w.heap[b]?=some (.loop r)):a≠b:=λe=>by rw[e,f]at c;cases c
theorem sG{a:Nat}{g:Array Value}{d:TypeId}{x:Option (List Deferred)}(c:w.heap[a]?=some (.cells g d))(f:w.heap[b]?=some (.deferred x)):a≠b:=λe=>by rw[e,f]at c;cases c
theorem dA{cs:Array Value}(h:N<=b):Below N w (et w b cs t):=⟨rfl,rfl,rfl,ZV fY.symm,λk a=>bX o_⟩
theorem GY{b off:Nat}{W:List Int}(h:w.rangeAt b off (W.map (Value.int .i64)))(k:Nat):w.rangeAt b (off+(5+20*k)) ((o9 W k).map (Value.int .i64)):=λj v a=>by
 rw[Up,o9,XA]at a;split at a
 ·rw[Xz]at a;rw[YD];exact h _ v (by rw[Up];exact a)
 ·cases a
theorem EP{W:List Int}(h:W.length=85)(a:k<4):(o9 W k).length=20:=by simp[o9,h];omega
theorem Oa{W:List Int}(k:Nat)(a:j<20):(o9 W k).getD j 0=W.getD (5+20*k+j) 0:=by rw[TV,TV,o9,XA,if_pos a,Xz]
def jl(W:List Int)(k:Nat):List Bool:=(U5 4).map λi=>if i<k then iz (o9 W i)else false
def jA(W:List Int)(k:Nat):List ByteArray:=(U5 4).map λi=>if i<k then⟨(iS ((o9 W i).drop 4)).toArray⟩else⟨#[]⟩
theorem Ei(W:List Int)(a:k<4):(jl W k).set k (iz (o9 W k))=jl W (k+1):=by rcases(o_:k=0\/k=1\/k=2\/k=3)with rfl|rfl|rfl|rfl<;>rfl
theorem Fg(W:List Int)(a:k<4):(jA W k).set k ⟨(iS ((o9 W k).drop 4)).toArray⟩=jA W (k+1):=by rcases(o_:k=0\/k=1\/k=2\/k=3)with rfl|rfl|rfl|rfl<;>rfl
end
namespace L1
open Go.Conc Go.RowKit
def M8(f:Func):Code:= .seq (rG f 11) (rG f 12)
def DX(f:Func):Code:= .block 1 (.seq (.seq (rG f 13) (.cond (.tmp 41) (.seq (rG f 14) .ret) .skip)) (.seq (rD f 15) (rD f 16)))
def tG(f:Func)(T:Array Value)(ld:Nat)(st:LoopState)(pd:Option Code):Loop:={state:=st,pending:=pd,fn:=36,tmps:=T,params:=#[37,38],assign:=M8 f,body:=DX f,defers:=ld}
structure Cr (w0:World) (b2 b3 b7 bu bh bs l ld:Nat) (r:Loop) (sv:Value) (st le er:Int) (U:List Bool) (H:List ByteArray) (w:World):Prop where
 old:Bw w0 w
 res:∃c,c.size=4/\w.heap[b2]?=some (.cells c 48)
 err:w.heap[b3]?=some (.cells #[.int .i64 er] 34)
 fus:w.heap[b7]?=some (.cells (i7 st le (.sk bu 4 4) (.sk bh 4 4)) 48)
 us:w.heap[bu]?=some (.cells (U.map Value.bool).toArray 4)
 hs:w.heap[bh]?=some (.cells (H.map Value.string).toArray 9)
 box:w.heap[bs]?=some (.cells #[sv] 22)
 list:w.heap[ld]?=some (.deferred (some []))
 loop:w.heap[l]?=some (.loop r)
 lo:w0.heap.size<=b2/\w0.heap.size<=b3/\w0.heap.size<=bu/\w0.heap.size<=bh/\w0.heap.size<=l
 ne:b2≠b7
section
variable{b2 bu bh bs ld:Nat}{r:Loop}{sv:Value}{st le er:Int}{U:List Bool}{H:List ByteArray}
theorem Cr.below(h:Cr w0 b2 b3 b7 bu bh bs l ld r sv st le er U H w)(a:Bw w w'):Cr w0 b2 b3 b7 bu bh bs l ld r sv st le er U H w':=
 ⟨aE h.old h.old.size a,let ⟨c,e,hc⟩:=h.res;⟨c,e,bk a hc⟩,bk a h.err,bk a h.fus,bk a h.us,bk a h.hs,bk a h.box,bk a h.list,bk a h.loop,h.lo,h.ne⟩
theorem Cr.turn(h:Cr w0 b2 b3 b7 bu bh bs l ld r sv st le er U H w)(a:Loop):Cr w0 b2 b3 b7 bu bh bs l ld a sv st le er U H (bP w l a):=
 ⟨h.old.trans (em w _ _ h.lo.2.2.2.2),let ⟨c,e,hc⟩:=h.res;⟨c,e,(bD w _ (gi hc h.loop)).trans hc⟩,(bD w _ (gi h.err h.loop)).trans h.err,(bD w _ (gi h.fus h.loop)).trans h.fus,(bD w _ (gi h.us h.loop)).trans h.us,(bD w _ (gi h.hs h.loop)).trans h.hs,(bD w _ (gi h.box h.loop)).trans h.box,
  (bD w _ (λe=>by have:=h.list;rw[e,h.loop]at this;cases this)).trans h.list,gq h.loop,h.lo,h.ne⟩
theorem Cr.setU(h:Cr w0 b2 b3 b7 bu bh bs l ld r sv st le er U H w)(a:List Bool):Cr w0 b2 b3 b7 bu bh bs l ld r sv st le er a H (et w bu (a.map Value.bool).toArray 4):=
 ⟨h.old.trans (dA h.lo.2.2.1),let ⟨c,e,hc⟩:=h.res;⟨c,e,(bX (cC hc h.us d_)).trans hc⟩,(bX (cC h.err h.us d_)).trans h.err,(bX (cC h.fus h.us d_)).trans h.fus,cP h.us,(bX (cC h.hs h.us d_)).trans h.hs,(bX (cC h.box h.us d_)).trans h.box,
  (bX (UP (sG h.us h.list))).trans h.list,(bX (UP (gi h.us h.loop))).trans h.loop,h.lo,h.ne⟩
theorem Cr.setH(h:Cr w0 b2 b3 b7 bu bh bs l ld r sv st le er U H w)(a:List ByteArray):Cr w0 b2 b3 b7 bu bh bs l ld r sv st le er U a (et w bh (a.map Value.string).toArray 9):=
 ⟨h.old.trans (dA h.lo.2.2.2.1),let ⟨c,e,hc⟩:=h.res;⟨c,e,(bX (cC hc h.hs d_)).trans hc⟩,(bX (cC h.err h.hs d_)).trans h.err,(bX (cC h.fus h.hs d_)).trans h.fus,(bX (cC h.us h.hs d_)).trans h.us,cP h.hs,(bX (cC h.box h.hs d_)).trans h.box,
  (bX (UP (sG h.hs h.list))).trans h.list,(bX (UP (gi h.hs h.loop))).trans h.loop,h.lo,h.ne⟩
theorem Cr.setR(h:Cr w0 b2 b3 b7 bu bh bs l ld r sv st le er U H w)(c':Array Value)(b:c'.size=4):Cr w0 b2 b3 b7 bu bh bs l ld r sv st le er U H (et w b2 c' 48):=by
 obtain⟨c,_,a⟩:=h.res;exact⟨h.old.trans (dA h.lo.1),⟨c',b,cP a⟩,(bX (cC h.err a d_)).trans h.err,(bX (UP h.ne)).trans h.fus,(bX (cC h.us a d_)).trans h.us,(bX (cC h.hs a d_)).trans h.hs,(bX (cC h.box a d_)).trans h.box,
  (bX (UP (sG a h.list))).trans h.list,(bX (UP (gi a h.loop))).trans h.loop,h.lo,h.ne⟩
theorem Cr.setE(h:Cr w0 b2 b3 b7 bu bh bs l ld r sv st le er U H w)(a:Int):Cr w0 b2 b3 b7 bu bh bs l ld r sv st le a U H (et w b3 #[.i a] 34):=
 ⟨h.old.trans (dA h.lo.2.1),let ⟨c,e,hc⟩:=h.res;⟨c,e,(bX (cC hc h.err d_)).trans hc⟩,cP h.err,(bX (cC h.fus h.err d_)).trans h.fus,(bX (cC h.us h.err d_)).trans h.us,(bX (cC h.hs h.err d_)).trans h.hs,(bX (cC h.box h.err d_)).trans h.box,
  (bX (UP (sG h.err h.list))).trans h.list,(bX (UP (gi h.err h.loop))).trans h.loop,h.lo,h.ne⟩
end
theorem Bh(a:o.op= .build 48 #[]):(execOp ev o).run lT w= .ok (.value (.agg (i7 0 0 (.slice none 0 0) (.slice none 0 0)))) w:=by
 have e:execOp ev o=(do pure (.value (←Uj 48 #[]))):=by simp[execOp,a]
 have b:(do pure (.value (←Uj 48 #[])):Sem Next).run lT w= .ok (.value (.agg (i7 0 0 (.slice none 0 0) (.slice none 0 0)))) w:=k_
 rw[e,b]
def EO(q cb off k:Nat):Value:= .slice (some ⟨cb,off+(5+20*k),none⟩) 20 (q-(5+20*k))
section
variable{b2 bu bh bs ld cb off q:Nat}{sv:Value}{st le:Int}{W:List Int}{T:Array Value}{cf:Frame}
theorem NN(h85:85<=q)(hW:gW W)(hr:w0.rangeAt cb off (W.map (Value.int .i64)))(hT:aW [(2, .pt b2),(3, .pt b3),(7, .pt b7)] 56 [] ⟨T,[]⟩)(hk:k<4)
 (hC:Cr w0 b2 b3 b7 bu bh bs l ld (tG Tryz.f36 T ld .ready none) sv st le 0 (jl W k) (jA W k) w)
 (nt:kt (o9 W k)=true->∀w',Cr w0 b2 b3 b7 bu bh bs l ld (tG Tryz.f36 T ld .ready none) sv st le 0 (jl W (k+1)) (jA W (k+1)) w'->Rn lT Goal (cf.finish (.bool true)) cs w')
 (nq:kt (o9 W k)=false->∀w',Cr w0 b2 b3 b7 bu bh bs l ld (tG Tryz.f36 T ld .done (some .ret)) sv st le 1 (jl W k) (jA W k) w'->w'.heap[b2]?=some (.cells (i7 0 0 (.slice none 0 0) (.slice none 0 0)) 48)->Rn lT Goal (cf.finish (.bool false)) cs w'):
 Rn lT Goal (Vt l 36 (((#[37,38]:Array Tmp).zip #[.i k,EO q cb off k]).foldl (λtmps (t,a)=>tmps.setIfInBounds t a) T) (M8 Tryz.f36) (DX Tryz.f36) .normal) (cf::cs) w:=by
 have hF:=(hT.put (d:=37) d_ (.i k)).put (d:=38) d_ (EO q cb off k);have ez:((#[37,38]:Array Tmp).zip #[.i k,EO q cb off k]).foldl (λ(tmps:Array Value) (x:Tmp×Value)=>match x with|(t,a)=>tmps.setIfInBounds t a) T=(T.setIfInBounds 37 (.i k)).setIfInBounds 38 (EO q cb off k):=s_
 rw[ez];show Rn _ Goal ((rb 36 l).atR (VN (VN ⟨T,[]⟩ (some 37) (.i k)) (some 38) (EO q cb off k)) [.code (M8 Tryz.f36), .beginRound, .code (DX Tryz.f36)]) (cf::cs) w;revert hF;generalize VN (VN ⟨T,[]⟩ (some 37) (.i k)) (some 38) (EO q cb off k)=a;intro hF
 iterate 2 refine Rn.uc hF λa hF=> ?_
 refine Rn.p rfl (Rn.rounds (r:=tG Tryz.f36 T ld .ready none) rfl hC.loop rfl ?_);have hC1:Cr w0 b2 b3 b7 bu bh bs l ld (tG Tryz.f36 T ld .busy none) sv st le 0 (jl W k) (jA W k) (bP w l {tG Tryz.f36 T ld .ready none with state:= .busy}):=hC.turn (tG Tryz.f36 T ld .busy none);revert hC1;generalize bP w l {tG Tryz.f36 T ld .ready none with state:= .busy}=w1;intro hC1;have hl20:=EP hW.1 hk;have rg:∀{w':World},Bw w0 w'->w'.rangeAt cb (off+(5+20*k)) ((o9 W k).map (Value.int .i64)):=λhb=>GY (λj v hv=>d9 hb (hr j v hv)) k;have wd:∀j,j<20->0<=(o9 W k).getD j 0/\(o9 W k).getD j 0<65536:=λj hj=>by rw[Oa k hj];exact hW.2 _ o_
 refine Rn.uc hF λa hF=> ?_;refine Rn.cw hF Lf.func51 (Bc (o9 W k) cb _ _ w1 (rg hC1.old) hl20) λw2 b2' a hF=> ?_;have hC2:=hC1.below b2';refine Rn.uc hF λa hF=> ?_;refine Rn.p rfl (Rn.cond _ (hF.G 41) ?_);cases hq:kt (o9 W k)with
 |false=>
  obtain⟨c,hc4,hc⟩:=hC2.res;refine Rn.vv hF (λo ho=>Bh ho) λa hF=> ?_;refine Rn.nn hF (λo ho=>vj ho (hF.G 2) (hF.G 42) hc hc4) λa hF=> ?_;have hC3:=hC2.setR (i7 0 0 (.slice none 0 0) (.slice none 0 0)) rfl;have e3:=cP (cs:=i7 0 0 (.slice none 0 0) (.slice none 0 0)) (t:=48) hc;refine Rn.nn hF (λo ho=>gj (v:= .i 1) rfl rfl k_ ho (hF.G 3) rfl hC3.err (d_:0<1)) λa hF=> ?_;have hC4:=hC3.setE 1;have e4:=(bX (cs:=#[.i 1]) (t:=34) (cC hc hC2.err d_)).trans e3;have hC5:=hC4.turn (tG Tryz.f36 T ld .done (some .ret));refine Rn.p rfl (Rn.quits rfl rfl hC4.loop (nq hq _ hC5 ?_));exact(bD _ _ (gi e4 hC4.loop)).trans e4
 |true=>
  have hF:aW [(2, .pt b2),(3, .pt b3),(7, .pt b7),(8, .i k),(9,EO q cb off k)] 56 [] a:=hF.only ⟨rfl,rfl,rfl,rfl,rfl,trivial⟩;refine Rn.p rfl (Rn.p rfl ?_);have f2:=hC2.fus;refine Rn.tab1 (R:=λa w'=>Cr w0 b2 b3 b7 bu bh bs l ld (tG Tryz.f36 T ld .busy none) sv st le 0 (jl W (k+1)) (jA W k) w'/\aW [(2, .pt b2),(3, .pt b3),(7, .pt b7),(8, .i k),(9,EO q cb off k)] 56 [] a) (λa w3 ⟨hC3,hF⟩=> ?_) hF
   [(43, .pk b7 1),(44, .sk bu 4 4),(45, .i k),(46,EO q cb off k),(47, .bool (iz (o9 W k))),(48, .pk bu k)] [45,46] [(47, .bool (iz (o9 W k))),(48, .pk bu k)]
   ⟨tq,
    λz=>dv (aO qA z.qq (z.k 43) ((aG (bk z.b f2) 1).trans rfl)).1,
    λz=>z.c1 (z.k 46) (yk (o9 W k) cb _ _ _ (rg (aE hC2.old hC2.old.size z.b)) hl20),
    λz=>Qv (eA (t:=46) (e:=4) (n:=k) k_ (λw=>k_) z.qq (z.k 44) (z.k 45) hk).1 (by rw[Uu,TL]),
    trivial⟩ (λa w' rest hb hF hgo=> ?_)
  ·have f3:=hC3.fus;refine Rn.tab1 (R:=λ_ w'=>Cr w0 b2 b3 b7 bu bh bs l ld (tG Tryz.f36 T ld .busy none) sv st le 0 (jl W (k+1)) (jA W (k+1)) w') (λa w4 hC4=> ?_) hF
    [(49, .pk b7 3),(50, .sk bh 4 4),(51, .i k),(52,EO q cb off k),(53, .string ⟨(iS ((o9 W k).drop 4)).toArray⟩),(54, .pk bh k)] [51,52] [(53, .string ⟨(iS ((o9 W k).drop 4)).toArray⟩),(54, .pk bh k)]
    ⟨tq,
     λz=>dv (aO ff z.qq (z.k 49) ((aG (bk z.b f3) 3).trans rfl)).1,
     λz=>z.c1 (z.k 52) (Fl (rg (aE hC3.old hC3.old.size z.b)) hl20 wd o_),
     λz=>Qv (eA (t:=25) (e:=9) (n:=k) k_ (λw=>k_) z.qq (z.k 50) (z.k 51) hk).1 (by rw[Uu,TL]),
     trivial⟩ (λa w' rest hb hF hgo=> ?_)
   ·exact Rn.p rfl (Rn.through rfl rfl hC4.loop (nt hq _ (hC4.turn _)))
   ·have hC5:=hC3.below hb;have hlen:(jA W k).length=4:=(by simp[jA]);refine Rn.does0 hF (.store 9 (.tmp 54) (.tmp 53)) k_ s_ (λo ho=>gj (v:= .string ⟨(iS ((o9 W k).drop 4)).toArray⟩) rfl rfl k_ ho (hF.G 54) (hF.G 53) hC5.hs (by simp[hlen];omega)) λa hF=>hgo a _ ?_;rw[show((jA W k).map Value.string).toArray.setIfInBounds k (.string ⟨(iS ((o9 W k).drop 4)).toArray⟩)=((jA W (k+1)).map Value.string).toArray from by rw[←Fg W hk,YZ];simp];exact hC5.setH _
  ·have hC5:=hC2.below hb;have hlen:(jl W k).length=4:=(by simp[jl]);refine Rn.does0 hF (.store 4 (.tmp 48) (.tmp 47)) k_ s_ (λo ho=>gj (v:= .bool (iz (o9 W k))) rfl rfl k_ ho (hF.G 48) (hF.G 47) hC5.us (by simp[hlen];omega)) λa hF=>hgo a _ ⟨?_,hF.only ⟨rfl,rfl,rfl,rfl,rfl,trivial⟩⟩;rw[show((jl W k).map Value.bool).toArray.setIfInBounds k (.bool (iz (o9 W k)))=((jl W (k+1)).map Value.bool).toArray from by rw[←Ei W hk,YZ];simp];exact hC5.setU _
end
end L1
section
open Go.Conc Go.RowKit
theorem uP{R:Ending->World->Prop}{t u:Tmp}{ty ty':TypeId}{d:TypeDesc}(z:P.funcs[f]?=some fn)(c:fn.results=#[.cell t ty, .cell u ty'])(p:P.underlying ty=some d)(A:d.isRow=true)(y:(P.info? ty).map (·.size)=some n)(i:∀w:World,(isAgg ty').run P w= .ok false w)
 (h:∀cs,Rn P (λg w'=>∃(a:Act) (k:List Item) (b:Nat) (cells:Array Value) (l:TypeId) (ad:Addr) (v:Value),g=cJ {(base f).atR a k with mode:= .returning} cs/\a.defers=[]/\a.tmps[t]?=some (.pk b 0)/\w'.heap[b]?=some (.cells cells l)/\cells.size=n/\a.tmps[u]?=some (.pointer (some ad))/\w'.cell? ad=some v/\R (.returned (.tuple #[.agg cells,v])) w') (TJ P f args .normal) cs w):Calls P f args w R:=λcs=>by
 obtain⟨J,w',I,a,k,b,cells,l,ad,v,rfl,H,G,F,E,D,C,B⟩:=h cs;refine⟨.returned (.tuple #[.agg cells,v]),w',{(base f).atR a k with mode:= .returning},B,W3 I,rfl,rfl,H,rfl,fn,z, ?_⟩;have r:a.tmps[t]?.getD undef= .pk b 0:=by rw[G];rfl
 have o:a.tmps[u]?.getD undef= .pointer (some ad):=by rw[D];rfl
 have q:w'.rangeAt b 0 cells.toList:=λj x m=>by
  rw[TL];have:w'.cell? ⟨b,j,none⟩=cells[j]?:=by simp[U6,F]
  rw[this,←m,VG]
 have s:=run_loadVar_mid (P:=P) w' b 0 ty cells.toList d q p A (by rw[y];simp[E]);have e:(loadVar ty' ad).run P w'= .ok v w':=by simp[loadVar,i,C,go_sem]
 show(results fn a.tmps).run P w'=_;simp[results,c,r,o,asAddr,s,e]
end
namespace L1
open Go.Conc Go.RowKit
section
variable{y z:Operand}
theorem KO{a off b cap:Nat}(d:o.op= .slice 22 x (some y) (some z) none)(g:ev x= .slice (some ⟨a,off,none⟩) b cap)(f:ev y= .i m)(e:ev z= .i n)(h:n<=cap)(p:m<n):(execOp ev o).run lT w= .ok (.value (.slice (some ⟨a,off+m,none⟩) (n- m) (cap- m))) w:=by
 have i:lT.underlying 22=some (.slice 3):=k_
 have c:(sizeOf 3).run lT w= .ok 1 w:=k_
 have k:m<=n:=o_
 have j:¬cap=m:=o_
 have l:(⟨a,off,none⟩:Addr).add m=⟨a,off+m,none⟩:=Uu ..;simp[execOp,d,g,f,e,UF,VE,UK,run_underlying i,UQ,asIntOf,h,c,k,j,l]
end
theorem P4:Tryz.f50.body=some (.seq (rG Tryz.f50 0) (.seq (rG Tryz.f50 1) .ret)):=k_
theorem yW(v:Value)(hv:v.cells=#[v])(w:World):Calls lT 50 #[v] w λe w'=>e= .returned (.func (.func 61) #[] #[.pk w.heap.size 0])/\w'=w.alloc (.cells #[v] 22):=by
 refine bI (t:=2) Lf.func50 rfl λd=> ?_;rw[aZ (N:=4) [v] Lf.func50 P4 rfl];have b:=aQ [v] 4 s_;refine Rn.vv b (λo c=>CZ hv c (b.G 0)) λa b=> ?_;refine Rn.uc b λa b=> ?_;refine Rn.vv (w':=w.alloc (.cells #[v] 22)) b (v:= .func (.func 61) #[] #[.pk w.heap.size 0]) (λo c=> ?_) λa b=> ?_
 ·have:=(fv (ev:=a.eval) (w:=w.alloc (.cells #[v] 22)) lT (a:=#[.tmp 1]) c).1
  rwa [show(#[Ul 1]:Array Operand).map a.eval=#[.pk w.heap.size 0]from by simp[b.G 1]]at this
 refine Rn.uc b λa b=> ?_;exact Rn.fi b ⟨rfl,rfl⟩
def SS(f:Func):Code:= .seq (rG f 1) (.seq (.cond (.tmp 6) .skip (.exit 0)) (.seq (.block 1 (.seq (rG f 2) (.seq (rG f 3) (.seq (rG f 4) (.cond (.tmp 19) .ret .skip))))) (rG f 5)))
theorem P5:Tryz.f61.body=some (.seq (rG Tryz.f61 0) (.block 0 (.loop (SS Tryz.f61)))):=k_
section
variable{b2 bu bh bs ld cb off q:Nat}{st le:Int}{W:List Int}{T:Array Value}{cf:Frame}
theorem Rl(h85:85<=q)(hW:gW W)(hr:w0.rangeAt cb off (W.map (Value.int .i64)))(hT:aW [(2, .pt b2),(3, .pt b3),(7, .pt b7)] 56 [] ⟨T,[]⟩)
 (nf:((U5 4).all λk=>kt (o9 W k))=true->∀w',Cr w0 b2 b3 b7 bu bh bs l ld (tG Tryz.f36 T ld .ready none) (.slice (some ⟨cb,off,none⟩) 85 q) st le 0 (jl W 4) (jA W 4) w'->Rn lT Goal (cf.finish (.tuple #[])) cs w')
 (nq:((U5 4).all λk=>kt (o9 W k))=false->∀U H w',Cr w0 b2 b3 b7 bu bh bs l ld (tG Tryz.f36 T ld .done (some .ret)) (.slice (some ⟨cb,off,none⟩) 85 q) st le 1 U H w'->w'.heap[b2]?=some (.cells (i7 0 0 (.slice none 0 0) (.slice none 0 0)) 48)->Rn lT Goal (cf.finish (.tuple #[])) cs w'):
 ∀(m i:Nat) (a:Act) (w:World),4- i=m->i<=4->(∀j,j<i->kt (o9 W j)=true)->aW [(0, .func (.yield l) #[] #[]),(1, .pt bs),(5, .i i)] 21 [] a->Cr w0 b2 b3 b7 bu bh bs l ld (tG Tryz.f36 T ld .ready none) (.slice (some ⟨cb,off,none⟩) 85 q) st le 0 (jl W i) (jA W i) w->
  Rn lT Goal ((base 61).atR a [.code (SS Tryz.f61), .inLoop (SS Tryz.f61), .inBlock 0]) (cf::cs) w:=by
 intro m;induction m with
 |zero=>
  intro i a w hm hi hj hF hC;obtain rfl:i=4:=o_
  refine Rn.uc hF λa hF=> ?_;refine Rn.p rfl (Rn.p rfl (Rn.cond _ (hF.G 6) ?_));rw[decide_eq_false o_];refine Rn.p rfl (Rn.ends rfl (.inl rfl) (Rn.leave (.tuple #[]) rfl hF.defers Lf.func61 k_ k_ (nf ?_ _ hC)));rw[List.all_eq_true];intro k hk;exact hj k (by simpa using hk)
 |succ m ih=>
  intro i a w hm hi hj hF hC;refine Rn.uc hF λa hF=> ?_;refine Rn.p rfl (Rn.p rfl (Rn.cond _ (hF.G 6) ?_));rw[decide_eq_true o_]
  iterate 3 refine Rn.uc hF λa hF=> ?_
  refine Rn.vv hF (λo ho=>jW (n:=20) ho (hF.G 8) rfl o_) λa hF=> ?_;refine Rn.vv hF (λo ho=>dh (m:=5) ho rfl (hF.G 9) o_) λa hF=> ?_
  iterate 3 refine Rn.uc hF λa hF=> ?_
  refine Rn.vv hF (λo ho=>(aO pD ho (hF.G 1) ((aG hC.box 0).trans rfl)).1) λa hF=> ?_
  iterate 2 refine Rn.uc hF λa hF=> ?_
  refine Rn.vv hF (λo ho=>dh (n:=20) ho (hF.G 15) rfl o_) λa hF=> ?_;refine Rn.vv hF (λo ho=>KO ho (hF.G 13) (hF.G 14) (hF.G 16) o_ o_) λa hF=> ?_;rw[show(Value.slice (some ⟨cb,off+(5+i*20),none⟩) (5+i*20+20-(5+i*20)) (q-(5+i*20)))=EO q cb off i from by rw[EO,Nat.mul_comm i 20,Nat.add_sub_cancel_left]]at hF;refine Rn.gr ?_;have h18:((bV Tryz.f61 4)[7]?).map (λo=>(o.dst,o.op,o.guard))=some (some 18, .call {callee:= .value (.tmp 11),args:=#[.tmp 12, .tmp 17],argTypes:=#[3,91]},none):=k_
  cases ho:(bV Tryz.f61 4)[7]? with
  |none=>rw[ho]at h18;cases h18
  |some o=>
  obtain⟨e1,e2,e3⟩:=cB ho h18;refine Rn.yields (args:=#[.i i,EO q cb off i]) ho (e3 _) (by rw[e2];simp) hC.loop rfl (λw=>jo e2 (hF.G 11) (by simp[hF.G 12,hF.G 17]) w) ?_;refine NN h85 hW hr hT o_ hC (λhq w2 hC2=> ?_) (λhq w2 hC2 hz=> ?_)
  ·rw[U7,ho,Ug,e1];have hF:=hF.put (d:=18) d_ (.bool true);revert hF;generalize a.put (some 18) (.bool true)=a;intro hF;clear e1 e2 e3 ho;refine Rn.uc hF λa hF=> ?_;refine Rn.p rfl (Rn.cond false (hF.G 19) ?_);refine Rn.vv hF (λo ho=>dh (n:=1) ho (hF.G 5) rfl o_) λa hF=> ?_;refine Rn.uc hF λa hF=> ?_;exact Rn.p rfl (Rn.p rfl (ih (i+1) a _ o_ o_ (λj hj'=>by
    rcases Nat.lt_or_ge j i with h|h
    ·exact hj j h
    ·rw[show j=i by omega];exact hq) (hF.only ⟨rfl,rfl,rfl,trivial⟩) hC2))
  ·rw[U7,ho,Ug,e1];have hF:=hF.put (d:=18) d_ (.bool false);revert hF;generalize a.put (some 18) (.bool false)=a;intro hF;clear e1 e2 e3 ho;refine Rn.uc hF λa hF=> ?_;refine Rn.p rfl (Rn.cond true (hF.G 19) ?_);refine Rn.ends rfl (.inr ⟨_,rfl⟩) (Rn.leave (.tuple #[]) rfl hF.defers Lf.func61 k_ k_ (nq ?_ _ _ _ hC2 hz));rw[List.all_eq_false];exact⟨i,by simp;omega,by rw[hq];decide⟩
end
end L1
section
open Go.Conc Go.RowKit
structure Rp (w:World) (fx:List (Nat×Value)) (ds:List Nat) (G:Nat->Value->World->Prop) (ops:Array Oper) (n:Nat) (o:Oper) (a:Act) (w':World):Prop where
 ho:ops[n]?=some o
 e:∀{p},(h:(ops[n]?).map (·.op)=some p:=by kernel_rfl)->o.op=p
 b:Bw w w'
 f:∀x {u},(h:fx.lookup x=some u:=by rfl)->a.eval (.tmp x)=u
 k:∀m {d},(h:ds[m]?=some d:=by rfl)->(g:gt ops n m=true:=by kernel_rfl)->∃v,a.eval (.tmp d)=v/\G m v w'
theorem uF{fx:List (Nat×Value)}{x:Nat}{u:Value}(h:fx.lookup x=some u):(x,u)∈fx:=by
 induction fx with
 |nil=>cases h
 |cons p q a=>
  rw[TU]at h;split at h
  ·rename_i b;have:x=p.1:=(by simpa using b);cases h;rw[this];exact List.mem_cons_self
  ·exact List.mem_cons_of_mem _ (a h)
theorem Rn.ptab1{b:Frame}{k:List Item}{id:Nat}{df:List Deferred}{fx:List (Nat×Value)}{R:Act->World->Prop}(next:∀a w',R a w'->Rn P Goal (b.atR a k) cs w')(y:aW fx N df a)(ds:List Nat)(G:Nat->Value->World->Prop)(e:∀n v w w',G n v w->Bw w w'->G n v w')
 (f:∀n o a w',n<ds.length->Rp w fx ds G ops n o a w'->sq P a o w' λv c=>G n v c/\Bw w' c)
 (B:∀a w' rest,Bw w w'->aW fx N df a->(∀m d,ds[m]?=some d->∃v,a.tmps[d]?=some v/\G m v w')->(∀a' c,R a' c->Rn P Goal (b.atR a' (.inRegion ops rest::k)) cs c)->Rn P Goal (b.atR a (.inRegion ops (ds.length::rest)::k)) cs w') (g:P.follows .mixedOrders=true:=by kernel_rfl) (C:ops.size=ds.length+1:=by kernel_rfl) (i:mh ops ds (fx.map (·.1)) N=true:=by kernel_rfl) (p:(fx.map (·.1)).Nodup:=by simp):Rn P Goal (b.atR a (.code (.region id ops true)::k)) cs w:=by
 refine Rn.grows (fx:=fx) (ds:=ds) (N:=N) (df:=df) (G:=G) g i e (λn o a w' D j F r l=> ?_)
  (λm a w'=>(m=ds.length/\Bw w w'/\aW fx N df a/\∀m d,ds[m]?=some d->∃v,a.tmps[d]?=some v/\G m v w')\/(m=ds.length+1/\R a w')) (λa w' t=> .inl ⟨rfl,t.old,t.base,λm d s=>t.come m d s trivial⟩) (λm o a w' rest J j H q=> ?_) (λa w' h=> ?_) y.defers y.size (y.all p)
 ·refine f n o a w' D ⟨j,λh=>by rw[j]at h;exact Option.some.inj h,F,λx u h=>aB (r (x,u) (uF h)),λm d s E=> ?_⟩;obtain⟨v,A,z⟩:=l m d s E;exact⟨v,aB A,z⟩
 ·rcases H with⟨rfl,A,z,I⟩|⟨rfl,_⟩
  ·exact B a w' rest A z I λa' c h=>q a' c (.inr ⟨rfl,h⟩)
  ·have:=(gA j).1;omega
 ·rcases h with⟨h,_⟩|⟨_,h⟩
  ·omega
  ·exact next a w' h
end
end Go.Proofs.YtkmoglhgkcnalabGreatDoor
