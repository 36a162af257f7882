/- A part of the claim, laid together by a program. -/
import Derived.Shelf.Strings.OnBuilder
import Derived.StillTailTactics
import Derived.WalkKit
import Derived.WalkSpells
import Derived.WalkLawsBesides
import Derived.Deep.QuietTactic
import Derived.BigQuiet
import Derived.Shelf.Strings.BuilderF
import Derived.Laws.CopyRow
import Derived.Laws.AppendOwn
import Derived.Conc.AppendEvents3
import Derived.Test.YtkmoglhgkcnalaaGreatDoorNwn3
set_option linter.defProp false
set_option maxHeartbeats 16000000
set_option maxRecDepth 100000
set_option linter.all false
open Array renaming replicate->ar6,append_empty->Mx,length_toList->au3
open Bool renaming or_eq_false_iff->ay6,true_and->az5,false_and->aF7,false_or->aH3,not_eq_true->aH9
open ByteArray renaming size_extract->as6,size_append->ax3,ext->aH4
open Classical renaming byContradiction->V8
open Go.Act renaming put->ZM
open Go.Addr renaming add_mid->AS,add->Y1
open Go.Builtin renaming len_->YQ
open Go.ByteArray renaming toList_eq->az3
open Go.Ending renaming returned->Zo
open Go.Frame renaming enter->as7,finish_atR->Df,round->YU
open Go.Instr renaming loadAt->as_,sliceAt->Mv,sliceBounds->Ng,sliceBound->Tv,fieldAt->V9,slice->YT,alloc->aA7
open Go.IntKind renaming wrap_i64->as3,i64->DN,u64->Tu,wrap_u64->XZ,u8->ZH
open Go.Lib renaming IsBuilderF->ay7,join->aQ6,BuilderAtF->aQ8,byteCells->aR3
open Go.Operand renaming tmp->at6
open Go.Region renaming wanted->ar3
open Go.Sem renaming events_bind->aD6
open Go.StepsIn renaming steps->ZN
open Go.Value renaming oneCell'->Ic,agg->aO2
open Go.World renaming cell?->AT,frozen?->If,cell?_of_block->aD_
open Int renaming toNat_natCast->Zt
open List renaming range->ar7,getD_eq_getElem?_getD->as2,getElem?_eq_some_iff->as4,getElem?_append_left->as9,size_toArray->JR,length_append->V7,getElem?_map->YR,setIfInBounds_toArray->ZR,drop_eq_getElem_cons->ZW,getElem?_drop->ZY,flatMap_cons->au_,range_succ->av2,length_map->aD8,map_set->aE6,getElem?_take->aG4,drop_of_length_le->aI7,eq_nil_or_concat->aJ4,concat_eq_append->aJ5,drop_take->aQ7,extract->aS4
open Nat renaming lt_of_lt_of_le->ar4,le_refl->ar5,zero_add->as5,le_trans->as8,pow_le_pow_right->Q5,lt_of_le_of_lt->ZG,div_le_self->au1,and_lt_two_pow->au7,or_lt_two_pow->ay_,le_of_eq->ay9,zero_le->aB0,two_pow_pos->aD7,add_assoc->aH_,and_le_left->aP5
open Ne renaming symm->ZL
open Option renaming bind_some->IS
namespace Go.Proofs.YtkmoglhgkcnalaaGreatDoor
open Go Proofs.Tryz
variable{n b i N l m k j b3 b4 b7 b9 Wg wd:Nat}{w w' w0 wL wM wE:World}{fr:Frame}{v:Value}{cs:List Frame}{args cv:Array Value}{V RO D V0:Nat->Prop}{q main listen ql:Bool}{g:Goroutine}{a:Act}{K:List Item}{P PL PM:Program}{x:Operand}{ops:Array Oper}{KS:List Int}{t u:TypeId}{o:Oper}{f:FuncId}{es:Array Event}{Goal:Goroutine->World->Prop}{fn:Func}{rest:List Nat}{ds:List Deferred}{X:bX}{F:List (Nat×Value)}{e:Event}{listed:Array Bool}{c:Int}{s msg key sig:ByteArray}{ρ:Nat->Nat}{ev:Operand->Value}{Post:Value->World->Prop}
namespace L1
open Go.Conc Go.RowKit
def mK(p:ByteArray):Nat->ByteArray
 |0=>p
 |c+1=>(mK p c).extract 32 (mK p c).size
def wG(p):∀c,(mK p c).size=p.size- 32*c
 |0=>rfl
 |c+1=>by have:=wG p c;simp[mK,as6];omega
def gN(n:Nat):Nat->Nat
 |0=>n
 |c+1=>gN n c/2
def wZ(n):∀c,gN n c=n/2^c
 |0=>by simp[gN]
 |c+1=>by rw[gN,wZ n c,Nat.div_div_eq_div_mul,Nat.pow_succ]
def Jm{h c}(b:2^h<=n)(a:c<h):1<gN n c:=by rw[wZ];refine(Nat.le_div_iff_mul_le (aD7 c)).2 ?_;have:2^(c+1)<=2^h:=Q5 d_ a;omega
def Jn{h}(a:n<2^(h+1)):¬1<gN n h:=by rw[wZ];have:n/2^h<2:=Nat.div_lt_of_lt_mul o_;omega
def sE(n):∀c,gN n c<=n
 |0=>ar5 _
 |c+1=>by have:=sE n c;simp[gN];omega
def EU(f:Func):Code:= .seq (.seq (rG f 2) (.cond (.tmp 10) .skip (.exit 0))) (.seq (.block 1 (.seq (.seq (rG f 4) (.cond (.tmp 18) .ret .skip)) (rG f 5))) (rG f 3))
def Ul:f122.body=some (.seq (rG f122 0) (.seq (rG f122 1) (.block 0 (.loop (EU f122))))):=k_
section
variable{y:Operand}
def Lr(a:o.op= .fieldAddr 119 x 4)(c:ev x= .pk b 0):(execOp ev o).run lT w= .ok (.value (.pk b 11)) w:=by simp[execOp,a,c];kernel_rfl
def s8{t}(a:o.op= .slice 9 x none (some y) none)(c:ev x= .s t)(b:ev y= .i n)(h:n<=t.size):(execOp ev o).run lT w= .ok (.value (.s (t.extract 0 n))) w:=by
 have d:lT.underlying 9=some .string:=k_
 simp[execOp,a,c,b,Mv,YT,Ng,s_,Tv,asIntOf,h]
def rX{t}(a:o.op= .slice 9 x (some y) none none)(c:ev x= .s t)(b:ev y= .i n)(h:n<=t.size):(execOp ev o).run lT w= .ok (.value (.s (t.extract n t.size))) w:=by
 have d:lT.underlying 9=some .string:=k_
 simp[execOp,a,c,b,Mv,YT,Ng,s_,Tv,asIntOf,h]
end
section
variable{Inv:Nat->World->Prop}{r:Loop}{p:ByteArray}{h:Nat}(hp:p.size=32*h)(hn:2^h<=n)(hn2:n<2^(h+1))(hn3:n<9223372036854775808)
 (G:vo (aI true prog) Goal cs (λc=>#[.int .i64 (gN n c), .string ((mK p c).extract 0 32)]) h l r Inv)
include hp hn hn2 hn3 G
def Jz(next:∀a w,Inv h w->a.defers=[]->Rn lT Goal ((base 122).atR a K) cs w):
 ∀j c a w,h- c=j->c<=h->Inv c w->Has [(0, .func (.yield l) #[] #[]),(4, .s (mK p c)),(5, .i (gN n c))] 21 [] a->
  Rn lT Goal ((base 122).atR a (.code (EU f122):: .inLoop (EU f122):: .inBlock 0::K)) cs w:=by
 intro j;induction j with
 |zero=>
  intro c a w m q e b;have d:c=h:=o_
  subst d
  iterate 2 refine Rn.uu b λa b=> ?_
  refine Rn.p rfl (Rn.cond _ (b.G 10) ?_);rw[decide_eq_false (by have:=Jn hn2;omega)];exact Rn.p rfl (next a w e b.defers)
 |succ j g=>
  intro c a w m q e b;have d:c<h:=o_
  have r:=Jm hn d;have k:=sE n c;have i:=wG p c
  iterate 2 refine Rn.uu b λa b=> ?_
  refine Rn.p rfl (Rn.cond _ (b.G 10) ?_);rw[decide_eq_true o_]
  iterate 3 refine Rn.uu b λa b=> ?_
  refine Rn.vv b (λo f=>s8 (n:=32) f (b.G 15) rfl o_) λa b=> ?_;refine Rn.given G b 17 13 (xs:=#[.tmp 14, .tmp 16]) (ats:=#[3,9]) d_ k_ rfl (by simp[b.G 14,b.G 16]) d e λa w b e=> ?_;refine Rn.uu b λa b=> ?_;refine Rn.p rfl (Rn.cond false (b.G 18) (Rn.p rfl (Rn.r rfl ?_)));refine Rn.uu b λa b=> ?_;refine Rn.vv b (λo f=>rX (n:=32) f (b.G 19) rfl o_) λa b=> ?_
  iterate 4 refine Rn.uu b λa b=> ?_
  refine Rn.p rfl (Rn.p rfl (g (c+1) a w o_ o_ e (b.only ⟨rfl,rfl, ?_,trivial⟩)));show some _=some _;rw[gN,Int.natCast_ediv];rfl
end
def KV{j}{b}{r}{s:dQ}{h bs k}(m:s.path.size=32*h)(q:2^h<=n)(g:n<2^(h+1))(f:n<9223372036854775808)
 (G:vo lT Goal (j::cs) (λc=>#[.i (gN n c), .s ((mK s.path c).extract 0 32)]) h l r b)  (i:b 0 w) (u:w.heap[bs]?=some (.cells s.cells 119)) (v:w.heap[k]?=some (.cells #[.i n] 3))
 (e:∀w,b h w->Rn lT Goal (j.finish (.tuple #[])) cs w):
 Rn lT Goal (as7 lT 122 #[.func (.yield l) #[] #[], .pk bs 0, .pk k 0] .normal) (j::cs) w:=by
 refine Rn.ent lf122 Ul λa d=> ?_;refine Rn.vv d (λo p=>Lr p (d.G 1)) λa d=> ?_
 iterate 4 refine Rn.uu d λa d=> ?_
 refine Rn.p rfl (Rn.p rfl (Rn.p rfl ?_));refine Jz m q g f G (λa w i t=> ?_) h 0 a w rfl o_ i d.O;exact Rn.ends rfl s_ (Rn.leave (.tuple #[]) rfl t lf122 (results_none rfl _ _ w) (events_results_none rfl _ _) (e w i))
end L1
section
open Go.RowKit Go.Lib Go.Shelf
def Lf.ren156:Go.Shelf.Ren:=⟨λ|156=>93|165=>113|166=>114|169=>115|240=>134|241=>135|276=>167|277=>168|n=>n,λ|31=>43|9=>9|3=>3|4=>4|0=>0|20=>20|72=>171|76=>175|70=>169|37=>83|75=>174|127=>195|164=>198|5=>5|80=>33|n=>n,λ|n=>n⟩
def ly156:Go.Proofs.Lays.n156 (aI q tP) Lf.ren156:=by
 cases q<;>constructor
 all_goals first|(rw[qc];kernel_rfl)|kernel_rfl|(intro w;kernel_rfl)
def Lf.extra156:Builder.Extra (aI q tP) Lf.ren156:=by
 cases q<;>constructor
 all_goals first|kernel_rfl|(intro w;kernel_rfl)|decide|(constructor<;>first|kernel_rfl|(intro w;kernel_rfl)|decide)
def Lf.strings_Join(g o c:Nat)(xs:List ByteArray)(a:ByteArray)(w:World)(b:∀(j:Nat) x,xs[j]?=some x->w.cell? ⟨g,o+j,none⟩=some (.s x))(h:g<w.heap.size)(i:xs.length<=140737488355328)(f:xs.length<=c)(d:(aQ6 (xs.map (·.l)) a.data.toList).length<=140737488355328):
 Calls (aI q tP) 93 #[.slice (some ⟨g,o,none⟩) xs.length c, .s a] w λe w'=>e= .returned (.string ⟨(aQ6 (xs.map (·.l)) a.data.toList).toArray⟩)/\Bw w w':=Any.strings_Join ly156 Lf.extra156 g o c xs a w b h i f d
end
section
open Go.Conc Go.RowKit
def ob(n k:Nat):ByteArray:=⟨(dm n k).toArray⟩
def et(n k):(ob n k).size=k:=mQ n k
def Bs(n:Nat)(cells:Array Value)(ty:TypeId)(v:Value)(w:World):Prop:=∃p,v= .sk p n n/\w.heap[p]?=some (.cells cells ty)
def Bs.mono{cells}{ty}(h:Bs n cells ty v w)(b:Bw w w'):Bs n cells ty v w':=by have⟨p,c,a⟩:=h;exact⟨p,c,(b.block p (gA a).1).trans a⟩
def JI(L):aQ6 L []=L.flatten:=by
 cases L with
 |nil=>rfl
 |cons x r=>rw[Lib.join_cons,Lib.joinTail];simp
end
namespace L1
open Go.Conc Go.RowKit
section
variable{y z u v:Operand}
def jW(j k)(d:(j=0/\k=0)\/(j=1/\k=8)\/(j=2/\k=9))(a:o.op= .fieldAddr 119 x j)(c:ev x= .pk b 0):(execOp ev o).run lT w= .ok (.value (.pk b k)) w:=by simp[execOp,a,c];rcases d with⟨rfl,rfl⟩|⟨rfl,rfl⟩|⟨rfl,rfl⟩<;>kernel_rfl
def Gu{d c b a}(f:o.op= .buildSlice 43 4 #[(0,x),(1,y),(2,z),(3,u)])(j:ev x= .s d)(g:ev y= .s c)(i:ev z= .s b)(h:ev u= .s a):
 (execOp ev o).run lT w= .ok (.value (.sk w.heap.size 4 4)) (w.alloc (.cells #[.s d, .s c, .s b, .s a] 9)):=by simp[execOp,f,j,g,i,h];kernel_rfl
def Gv{f d c b a}(g:o.op= .buildSlice 43 5 #[(0,x),(1,y),(2,z),(3,u),(4,v)])(l:ev x= .s f)(h:ev y= .s d)(k:ev z= .s c)(j:ev u= .s b)(i:ev v= .s a):
 (execOp ev o).run lT w= .ok (.value (.sk w.heap.size 5 5)) (w.alloc (.cells #[.s f, .s d, .s c, .s b, .s a] 9)):=by simp[execOp,g,l,h,k,j,i];kernel_rfl
def sD(KS)(a:List ByteArray)(h)(w)(p n)(f:h=(a.map Value.string).toArray)(j:n=a.length)(i:w.heap[p]?=some (.cells h 9))(m:w.rangeAt 0 0 (aQ KS))(g:KS.length=64)(c:(a.flatMap λp=>p.data.toList).length<=576460752303423488)(d:a.length<=10):
 Calls lT 91 #[.sk p n n] w λe w'=>e= .returned (.string ⟨(iu KS (a.flatMap λp=>p.data.toList)).toArray⟩)/\Bw w w':=by
 subst j;subst f;have b:fh a a.length=a.flatMap λp=>p.data.toList:=by simp[fh]
 have:=LK (ql:=true) KS a a.length w p (gA i).1 (λk l=>by rw[aH i];simp[l]) m g (b▸c) o_;simp_all
end
def Kj(s:dQ):∀i,i<8->s.cells[i]?=s.key[i]?:=by intro i a;rcases(o_:i=0\/i=1\/i=2\/i=3\/i=4\/i=5\/i=6\/i=7)with rfl|rfl|rfl|rfl|rfl|rfl|rfl|rfl<;>rfl
def wn(KS)(L):(⟨(iu KS L).toArray⟩:ByteArray).size=32:=by show(iu KS L).toArray.size=32;simp[iu]
def Q2{s:dQ}{sh q:Nat}{Qb:ByteArray}(h:Qb=⟨(iu KS ([s.id,ob q 4,ob 33153 2,s.salt,msg].flatMap λp=>p.data.toList)).toArray⟩)(t:KS.length=64)(B:vy wd)(i:s.width=wd)(j:s.shift=sh)(f:sh<=8)(D:s.count=n)(l:1<=n)(k:n<=34*(8/wd))(g:([s.id,ob q 4,ob 33153 2,s.salt,msg].flatMap λp=>p.data.toList).length<=576460752303423488)(E:w.rangeAt 0 0 (aQ KS))(F:0<w.heap.size)(e:w.heap[N]?=some (.cells s.cells 119))
 (x:Has [(1, .s (msg)),(2, .pt N),(5, .s (ob q 4))] 81 ds a)
 (next:∀a w',(Bw w w'/\∃v,lE n (λc=>dP (ll Qb.data.toList wd sh) wd c) v w'/\Has [(6,v),(1, .s msg),(2, .pt N),(5, .s (ob q 4))] 81 ds a)->Rn lT Goal (fr.atR a K) cs w'):
 Rn lT Goal (fr.atR a (.code (rD f71 2)::K)) cs w:=by
 refine Rn.gt x ?_;refine n_ ?_ (y:=λo a w d z=>jW 0 0 d_ d gx);refine n_ ?_ (y:=λo a w d z=>j7 (s:=s) d gx (bk z.b e) (Kj s));refine n_ ?_ (y:=λo a w d z=>jW 0 0 d_ d gx)
 iterate 3 refine n_ ?_
 refine p_ lf92 (λw _ _=>nH 33153 d_ w) ?_;refine n_ ?_ (y:=λo a w d z=>jW 2 9 d_ d gx)
 iterate 2 refine n_ ?_
 refine f_ [.inl (.s Qb), .inr (lE n λc=>dP (ll Qb.data.toList wd sh) wd c), .inr (lE n λc=>dP (ll Qb.data.toList wd sh) wd c)] (V:=λb=> .sk b 5 5) (λu=> ?_) (y:=λo a w d z=>Gv d gx gx gx gx gx);refine y8 lf91 (λw m r=> ?_) ?_
 .obtain⟨p,rfl,_,C⟩:=r.1 k_;rw[h];exact sD KS [s.id,ob q 4,ob 33153 2,s.salt,msg] _ w p 5 rfl rfl C (Yc F m E) t g s_
 refine b_ (λ_ _ _=>lE.mono) lf90 (λw _ _=>AW s wd sh n Qb w B i j f D l k (by rw[h];exact wn KS _)) λv=> ?_;exact z_ (λ_ _ _=>lE.mono) (λA=>y_ λa w' x m r=>next a w' ⟨m,A,r.1 rfl,x.only ⟨rfl,rfl,rfl,rfl,trivial⟩⟩) (y:=λo a w d z=>⟨v,w,XE d gx,z.m.1 k_,bR⟩)
def K5(KS)(s)(dg)(n):aQ6 (((ar7 n).map λc=>lA KS s c (dg c) (s.links.extract (c*32) ((c+1)*32))).map (·.l)) ([]:List UInt8)=mZ KS s dg n:=by rw[JI,mZ,List.flatMap_def,List.map_map];rfl
def zE(KS)(a):∀n j x,x.length=32->(jR KS a n j x).length=32
 |0,_,_,h=>h
 |n+1,j,_,_=>zE KS a n (j+1) _ (rP ..)
def PW(KS)(s)(c)(d)(link)(h:link.size=32):(lA KS s c d link).data.toList.length=32:=by
 have a:link.data.toList.length=32:=by simpa using h
 simpa[lA]using zE KS (kU s c) (dH s.width.toNat- d.toNat) d.toNat link.data.toList a
def xp(KS)(s)(dg):∀n,n*32<=s.links.size->(mZ KS s dg n).length=32*n
 |0,_=>by simp[mZ]
 |n+1,h=>by have a:=xp KS s dg n o_;have b:=PW KS s n (dg n) (s.links.extract (n*32) ((n+1)*32)) (by rw[as6];omega);unfold mZ at a⊢;rw[av2,List.flatMap_append,V7,a,List.flatMap_singleton,b];omega
def Q1{s:dQ}{q:Nat}{dg:Nat->Nat}{vg:Value}{En Xn:ByteArray}(hEn:En=⟨(mZ KS s (λc=>(dg c:Nat)) n).toArray⟩)(hX:Xn=⟨(iu KS ([s.id,ob q 4,ob 32896 2,En].flatMap λp=>p.data.toList)).toArray⟩)(hKl:KS.length=64)(hwd:0<=s.width/\s.width<9)(hqq:0<=s.q/\s.q<4294967296)(hid:s.id.size<65536)(hn:s.count=n)(hn1:1<=n)(hnb:n<65537)(hlk:n*32<=s.links.size)(hd8:∀c,dg c<256)(hlen:([s.id,ob q 4,ob 32896 2,En].flatMap λp=>p.data.toList).length<=576460752303423488)(hK:w.rangeAt 0 0 (aQ KS))(h0:0<w.heap.size)(hgone:lE n dg vg w)(hsig:w.heap[N]?=some (.cells s.cells 119))
 (hF:Has [(2, .pt N),(5, .s (ob q 4)),(6,vg)] 81 ds a)
 (next:∀a w',(Bw w w'/\Has [(7, .s Xn),(2, .pt N),(5, .s (ob q 4)),(6,vg)] 81 ds a)->Rn lT Goal (fr.atR a K) cs w'):
 Rn lT Goal (fr.atR a (.code (rD f71 3)::K)) cs w:=by
 subst hX;refine Rn.gt hF ?_;refine n_ ?_ (y:=λo a w ho z=>jW 0 0 d_ ho gx)
 iterate 3 refine n_ ?_
 refine p_ lf92 (λw _ _=>nH 32896 d_ w) ?_;refine n_ ?_ (y:=λo a w ho z=>(mz (ex:=#[]) ho gx (by rw[Mx];exact bk z.b hsig)).1);refine n_ ?_;refine t_ [.inr (Bs n (Array.ofFn λc:Fin n=>Ae KS s (λc=>(dg c:Nat)) c.val) 9), .inl (.s En), .inr (Ms w (λb=> .sk b 4 4) (.cells #[.s s.id, .s (ob q 4), .s (ob 32896 2), .s En] 9)), .inl (.string ⟨(iu KS ([s.id,ob q 4,ob 32896 2,En].flatMap λp=>p.data.toList)).toArray⟩), .inl (.string ⟨(iu KS ([s.id,ob q 4,ob 32896 2,En].flatMap λp=>p.data.toList)).toArray⟩)] ?_;refine b_ (λ_ _ _=>Bs.mono) uQ (λw hb _=> ?_) λu=> ?_
 .obtain⟨gb,gcap,rfl,hgb,hdg⟩:=hgone.mono hb;exact(MK KS hKl s n gb n gcap (λc=>(dg c:Nat)) w (Yc h0 hb hK) (ar4 h0 hb.size) hn hn1 hnb hwd hqq hid hlk hgb (ar5 _) (λc hc=>⟨⟨o_,by grind⟩,hdg c hc⟩)).mono λe w'' ⟨bL,h1,h2,h3⟩=>⟨_,h1,⟨bL,rfl,h2⟩,h3⟩
 refine y8 lf93 (λw hb hM=> ?_) ?_
 .obtain⟨p,rfl,hp⟩:=hM.1 k_;have hj:=K5 KS s (λc=>(dg c:Nat)) n;have hjl:=xp KS s (λc=>(dg c:Nat)) n hlk;have hxl:((ar7 n).map λc=>lA KS s c ((dg c:Nat):Int) (s.links.extract (c*32) ((c+1)*32))).length=n:=s_
  have hJ:=Lf.strings_Join (q:=true) p 0 n ((ar7 n).map λc=>lA KS s c ((dg c:Nat):Int) (s.links.extract (c*32) ((c+1)*32))) ⟨#[]⟩ w (λj y hx=>by have hj:j<n:=(by grind);rw[as5,aH hp];simp[hj]at hx⊢;rw[←hx];rfl) (gA hp).1 (by rw[hxl];omega) o_ (by rw[hj];omega)
  simp_all
 refine h_ (λu=> ?_) (y:=λo a w ho z=>Gu ho gx gx gx gx);refine y8 lf91 (λw hb hM=> ?_) ?_
 .obtain⟨p,rfl,_,hp⟩:=hM.1 k_;exact sD KS [s.id,ob q 4,ob 32896 2,En] _ w p 4 rfl rfl hp (Yc h0 hb hK) hKl hlen s_
 exact x_ (y_ λa w' hF hb _=>next a w' ⟨hb,hF.only ⟨rfl,rfl,rfl,rfl,trivial⟩⟩)
def Q0{s:dQ}{h q H2:Nat}{f}(d:H2=2^h)(l:s.height=h)(j:h<=8)(p:H2<=256)(hq:s.q=q)(i:q<4294967296)(c:w.heap[N]?=some (.cells s.cells 119))
 (e:Has [(2, .pt N),(7,f)] 81 ds a)
 (next:∀a w',(Bw w w'/\Has [(8, .i ((H2+q:Nat):Int)),(2, .pt N),(7,f)] 81 ds a)->Rn lT Goal (fr.atR a K) cs w'):
 Rn lT Goal (fr.atR a (.code (rD f71 4)::K)) cs w:=by
 have g:(1:Int)*2^h=(H2:Int):=by simp_all
 refine Rn.gt e ?_;refine n_ ?_ (y:=λo a w b z=>jW 0 0 d_ b gx);refine n_ ?_;refine n_ ?_ (v:= .i h) (y:=λo a w b z=>(aO bH b gx ((aH (bk z.b c) 4).trans (by rw[←l];rfl))).1);refine n_ ?_ (y:=λo a w b z=>(m8 b rfl gx o_ (by rw[g];omega)).trans (by rw[g]));refine n_ ?_ (y:=λo a w b z=>jW 1 8 d_ b gx);refine n_ ?_ (v:= .i q) (y:=λo a w b z=>(aO bH b gx ((aH (bk z.b c) 8).trans (by rw[←hq];rfl))).1);refine n_ ?_;refine n_ ?_;exact q_ λa w' e n _=>next a w' ⟨n,e.O⟩
def PZ{s:dQ}{lf M}{en Xn}(r:Xn=⟨(iu KS ([s.id,ob lf 4,ob 33410 2,en].flatMap λp=>p.data.toList)).toArray⟩)(i:KS.length=64)(q:lf<9223372036854775808)(e:([s.id,ob lf 4,ob 33410 2,en].flatMap λp=>p.data.toList).length<=576460752303423488)(t:w.rangeAt 0 0 (aQ KS))(A:0<w.heap.size)(m:w.heap[N]?=some (.cells s.cells 119))
 (f:M=w.heap.size)
 (d:Has [(2, .pt N),(7, .s (en)),(8, .i (lf:Int))] 81 ds a)
 (next:∀a w',(∃b9 w1,M<=b9/\Bw w w1/\w1.heap[b9]?=some (.cells #[.string ⟨#[]⟩] 9)/\w'=w1.setCell ⟨b9,0,none⟩ (.s Xn)/\Has [(9, .pt b9),(56, .s Xn),(2, .pt N),(7, .s en),(8, .i (lf:Int))] 81 ds a)->Rn lT Goal (fr.atR a K) cs w'):
 Rn lT Goal (fr.atR a (.code (rD f71 5)::K)) cs w:=by
 subst r f;refine Rn.gu 10 d ?_;refine n_ ?_ (y:=λo a w c z=>jW 0 0 d_ c gx)
 iterate 3 refine n_ ?_
 refine p_ lf89 (λw _ _=>vE lf o_ w) ?_;refine p_ lf92 (λw _ _=>nH 33410 d_ w) ?_;refine n_ ?_;refine f_ [.inl (.string ⟨(iu KS ([s.id,ob lf 4,ob 33410 2,en].flatMap λp=>p.data.toList)).toArray⟩), .inr (Ms w (λb=> .pk b 0) (.cells #[.string ⟨#[]⟩] 9))] (V:=λb=> .sk b 4 4) (λu=> ?_) (y:=λo a w c z=>Gu c gx gx gx gx);refine y8 lf91 (λw h f=> ?_) ?_
 .obtain⟨p,rfl,_,n⟩:=f.1 k_;exact sD KS [s.id,ob lf 4,ob 33410 2,en] _ w p 4 rfl rfl n (Yc A h t) i e s_
 refine h_ (λu=>y_ λa w' d h f l g=> ?_) (y:=λo a w c _=>(tz c).1);obtain⟨b9,rfl,x,j⟩:=f.1 rfl;exact Rn.nn d (λo c=>(ff (w:=w') (b:=b9) (k:=0) (v:= .s _) (v0:= .string ⟨#[]⟩) rfl rfl k_ c (d.G 9) (d.G 56) ((aH j 0).trans rfl) (by simp[If,j])).1) λa d=>g _ _ (next a _ ⟨b9,w',x,h,j,rfl,d.O⟩)
def PY{vn vb}{x}(b:w.heap[b9]?=some (.cells #[.s x] 9))
 (c:Has [(2, .pt N),(9, .pt b9),(10,vn),(11,vb)] 81 ds a)
 (next:∀a w',(Bw w w'/\Has [(12,vb),(13, .s x),(2, .pt N),(9, .pt b9),(10,vn),(11,vb)] 81 ds a)->Rn lT Goal (fr.atR a K) cs w'):
 Rn lT Goal (fr.atR a (.code (rD f71 11)::K)) cs w:=by
 refine Rn.gt c ?_
 iterate 4 refine n_ ?_
 exact q_ λa w' c d _=>next a w' ⟨d,c.O⟩
def PX{s:dQ}{c}{x g rt Xn}(B:Xn=⟨(iu KS ([s.id,ob (c/2) 4,ob 33667 2,g,rt].flatMap λp=>p.data.toList)).toArray⟩)(j:KS.length=64)(t:c<9223372036854775808)(h:([s.id,ob (c/2) 4,ob 33667 2,g,rt].flatMap λp=>p.data.toList).length<=576460752303423488)(D:w.rangeAt 0 0 (aQ KS))(E:0<w.heap.size)(m:w.heap[N]?=some (.cells s.cells 119))
 (e:w.heap[b9]?=some (.cells #[.s x] 9))
 (f:Has [(2, .pt N),(9, .pt b9),(10, .i (c:Int)),(12, .s (g)),(13, .s (rt))] 81 ds a)
 (next:∀a w',(∃w1,Bw w w1/\w'=w1.setCell ⟨b9,0,none⟩ (.s Xn))->Rn lT Goal (fr.atR a K) cs w'):
 Rn lT Goal (fr.atR a (.code (rD f71 12)::K)) cs w:=by
 subst B;refine Rn.gu 11 f ?_;refine n_ ?_ (y:=λo a w d z=>jW 0 0 d_ d gx)
 iterate 3 refine n_ ?_
 refine n_ ?_;refine p_ lf89 (λw _ _=>vE (c/2) o_ w) ?_;refine p_ lf92 (λw _ _=>nH 33667 d_ w) ?_
 iterate 2 refine n_ ?_
 refine f_ [.inl (.string ⟨(iu KS ([s.id,ob (c/2) 4,ob 33667 2,g,rt].flatMap λp=>p.data.toList)).toArray⟩)] (V:=λb=> .sk b 5 5) (λu=> ?_) (y:=λo a w d z=>Gv d gx gx gx gx gx);refine y8 lf91 (λw A C=> ?_) (y_ λa w' f q _ l i=> ?_)
 .obtain⟨p,rfl,_,r⟩:=C.1 k_;exact sD KS [s.id,ob (c/2) 4,ob 33667 2,g,rt] _ w p 5 rfl rfl r (Yc E A D) j h s_
 have n:=bk q e;exact Rn.nn f (λo d=>(ff (w:=w') (b:=b9) (k:=0) (v:= .s _) (v0:= .s x) rfl rfl k_ d (f.G 9) (f.G 79) ((aH n 0).trans rfl) (by simp[If,n])).1) λa f=>i _ _ (next a _ ⟨w',q,rfl⟩)
end L1
section
open Go.Conc Go.RowKit
def kH(KS:List Int)(ps:List ByteArray):ByteArray:=⟨(iu KS (ps.flatMap λp=>p.data.toList)).toArray⟩
def qB(KS:List Int)(s:dQ)(q:Nat)(msg:ByteArray):ByteArray:=kH KS [s.id,ob q 4,ob 33153 2,s.salt,msg]
def Vq(KS:List Int)(s:dQ)(wd sh q:Nat)(msg:ByteArray)(c:Nat):Nat:=dP (ll (qB KS s q msg).data.toList wd sh) wd c
def Xm(KS:List Int)(s:dQ)(wd sh n q:Nat)(msg:ByteArray):ByteArray:=⟨(mZ KS s (λc=>(Vq KS s wd sh q msg c:Nat)) n).toArray⟩
def Xe(KS:List Int)(s:dQ)(wd sh n q:Nat)(msg:ByteArray):ByteArray:=kH KS [s.id,ob q 4,ob 32896 2,Xm KS s wd sh n q msg]
def Vz(KS:List Int)(s:dQ)(wd sh n q lf:Nat)(msg:ByteArray):ByteArray:=kH KS [s.id,ob lf 4,ob 33410 2,Xe KS s wd sh n q msg]
def NQ(KS:List Int)(id:ByteArray)(nn:Nat)(p x:ByteArray):ByteArray:=kH KS [id,ob (nn/2) 4,ob 33667 2,if nn%2=1 then p else x,if nn%2=1 then x else p]
def kG(KS)(a):(kH KS a).size=32:=by show(iu KS _).toArray.size=32;simp[iu]
def Ws(a b c d e:ByteArray):([a,b,c,d,e].flatMap λp=>p.data.toList).length=a.size+b.size+c.size+d.size+e.size:=by simp[au_];omega
def Wt(a b c d:ByteArray):([a,b,c,d].flatMap λp=>p.data.toList).length=a.size+b.size+c.size+d.size:=by simp[au_];omega
structure Cm (ts tg:TypeId) (s:dQ) (N b9 l ld:Nat) (r:Loop) (w0:World) (x:ByteArray) (w:World):Prop where
 old:Bw w0 w
 sig:w.heap[N]?=some (.cells s.cells tg)
 nine:w.heap[b9]?=some (.cells #[.string x] ts)
 list:w.heap[ld]?=some (.deferred (some []))
 loop:w.heap[l]?=some (.loop r)
section
variable{ts tg:TypeId}{s:dQ}{ld:Nat}{r:Loop}{x:ByteArray}
def Cm.below(h:Cm ts tg s N b9 l ld r w0 x w)(c:Bw w w'):Cm ts tg s N b9 l ld r w0 x w':=by have g:∀{b:Nat} {o:Obj},w.heap[b]?=some o->w'.heap[b]?=some o:=λ{b o} a=>(c.block b (gA a).1).trans a;exact⟨aD h.old h.old.size c,g h.sig,g h.nine,g h.list,g h.loop⟩
def Cm.turn(h:Cm ts tg s N b9 l ld r w0 x w)(f:w0.heap.size<=l)(a):Cm ts tg s N b9 l ld a w0 x (bU w l a):=by
 have d:N≠l:=λe=>by have:=h.sig;rw[e,h.loop]at this;cases this
 have c:b9≠l:=λe=>by have:=h.nine;rw[e,h.loop]at this;cases this
 have b:ld≠l:=λe=>by have:=h.list;rw[e,h.loop]at this;cases this
 exact⟨h.old.trans (fa w _ _ f),(bD w _ d).trans h.sig,(bD w _ c).trans h.nine,(bD w _ b).trans h.list,iA h.loop⟩
def Cm.put(h:Cm ts tg s N b9 l ld r w0 x w)(d:ts≠tg)(f:w0.heap.size<=b9)(y):Cm ts tg s N b9 l ld r w0 y (w.setCell ⟨b9,0,none⟩ (.s y)):=by
 have c:N≠b9:=λe=>by have:=h.sig;rw[e,h.nine]at this;simp_all
 have b:l≠b9:=λe=>by have:=h.nine;rw[←e,h.loop]at this;cases this
 have a:ld≠b9:=λe=>by have:=h.nine;rw[←e,h.list]at this;cases this
 exact⟨h.old.trans (eJ w _ _ f),(cP w _ c).trans h.sig,kJ h.nine,(cP w _ a).trans h.list,(cP w _ b).trans h.loop⟩
end
end
namespace L1
open Go.Conc Go.RowKit
def wY(KS:List Int)(id path:ByteArray)(lf:Nat)(x:ByteArray):Nat->ByteArray
 |0=>x
 |c+1=>NQ KS id (gN lf c) ((mK path c).extract 0 32) (wY KS id path lf x c)
def EI(KS)(id path)(lf)(x)(a:x.size=32):∀c,(wY KS id path lf x c).size=32
 |0=>a
 |_+1=>kG _ _
def B9(f:Func):Code:= .block 1 (.seq (rG f 9) (.seq (.seq (rG f 10) (.cond (.tmp 66) (rD f 11) .skip)) (rD f 12)))
def FG(f:Func)(T:Array Value)(ld:Nat)(st:LoopState):Loop:={state:=st,pending:=none,fn:=71,tmps:=T,params:=#[60,61],assign:= .seq (rG f 7) (rG f 8),body:=B9 f,defers:=ld}
section
variable{y:Operand}{m n:Int}
def XA(a:o.op= .binOp .rem 3 x y u)(c:ev x= .i m)(b:ev y= .i 2)(d:0<=m):(execOp ev o).run lT w= .ok (.value (.i (m%2))) w:=by have e:m.tmod 2=m%2:=Int.tmod_eq_emod_of_nonneg d;simp[execOp,a,c,b,go_sem,e]
def m9(a:o.op= .binOp .eql 3 x y u)(c:ev x= .i m)(b:ev y= .i n):(execOp ev o).run lT w= .ok (.value (.bool (m==n))) w:=by simp[execOp,a,c,b,go_sem]
end
section
variable{T:Array Value}{s:dQ}{ld nn:Nat}{p x:ByteArray}
def Oo(hKl:KS.length=64)(hK:w0.rangeAt 0 0 (aQ KS))(h0:0<w0.heap.size)(hid:s.id.size<65536)(hnn:nn<9223372036854775808)(hp:p.size<=32)(hx:x.size=32)(hb9:w0.heap.size<=b9)(hl:w0.heap.size<=l)
 (hT:Has [(2, .pt N),(9, .pt b9)] 81 [] ⟨T,[]⟩) {cf}
 (hI:Cm 9 119 s N b9 l ld (FG f71 T ld .ready) w0 x w)
 (next:∀w',Cm 9 119 s N b9 l ld (FG f71 T ld .ready) w0 (NQ KS s.id nn p x) w'->Rn lT Goal (cf.finish (.bool true)) cs w'):
 Rn lT Goal (YU l 71 (((#[60,61]:Array Tmp).zip #[.i nn, .s p]).foldl (λtmps (t,a)=>tmps.setIfInBounds t a) T) (.seq (rG f71 7) (rG f71 8)) (B9 f71) .normal) (cf::cs) w:=by
 have hF:=(hT.put (d:=60) d_ (.i nn)).put (d:=61) d_ (.s p);have ez:((#[60,61]:Array Tmp).zip #[.i nn, .s p]).foldl (λ tmps x=>match x with|(t,a)=>tmps.setIfInBounds t a) T=(T.setIfInBounds 60 (.i nn)).setIfInBounds 61 (.s p):=s_
 rw[ez];show Rn _ Goal ((rb 71 l).atR (ZM (ZM ⟨T,[]⟩ (some 60) (.i nn)) (some 61) (.s p)) [.code (.seq (rG f71 7) (rG f71 8)), .beginRound, .code (B9 f71)]) (cf::cs) w;revert hF;generalize ZM (ZM ⟨T,[]⟩ (some 60) (.i nn)) (some 61) (.s p)=a;intro hF;refine Rn.p rfl (Rn.r rfl (Rn.S hF 10 60 rfl λa hF=> ?_));refine Rn.p rfl (Rn.r rfl (Rn.S hF 11 61 rfl λa hF=> ?_));refine Rn.p rfl (Rn.rounds rfl hI.loop rfl ?_);have hI1:=hI.turn hl (FG f71 T ld .busy);show Rn _ Goal _ _ (bU w l (FG f71 T ld .busy));revert hI1;generalize bU w l (FG f71 T ld .busy)=w1;intro hI1;refine Rn.vv hF (λo ho=>(aO cC ho (hF.G 9) ((aH hI1.nine 0).trans rfl)).1) λa hF=> ?_
 iterate 4 refine Rn.uu hF λa hF=> ?_
 refine Rn.uu hF λa hF=> ?_;refine Rn.uu hF λa hF=> ?_;have done:∀lt rt a w2,NQ KS s.id nn p x=kH KS [s.id,ob (nn/2) 4,ob 33667 2,lt,rt]->lt.size<=32->rt.size<=32->Cm 9 119 s N b9 l ld (FG f71 T ld .busy) w0 x w2->
  Has [(2, .pt N),(9, .pt b9),(10, .i (nn:Int)),(12, .s lt),(13, .s rt)] 81 [] a->
  Rn lT Goal ((rb 71 l).atR a [.code (rD f71 12), .inBlock 1]) (cf::cs) w2:=by intro lt rt a w2 hup hlt hrt hI2 hF;refine PX hup hKl hnn (by rw[Ws,et,et];omega) (Yc h0 hI2.old hK) (ar4 h0 hI2.old.size) hI2.sig hI2.nine hF λa w3 hw3=> ?_;obtain⟨w4,hb4,rfl⟩:=hw3;have hI3:=(hI2.below hb4).put d_ hb9 (NQ KS s.id nn p x);exact Rn.p rfl (Rn.through rfl rfl hI3.loop (next _ (hI3.turn hl _)))
 refine Rn.p rfl (Rn.cond _ (hF.G 66) ?_);by_cases hodd:nn%2=1
 .rw[show(((nn:Int)%2)==1)=true from by grind];refine PY hI1.nine (hF.only ⟨rfl,rfl,rfl,rfl,trivial⟩) λa w2 ⟨hb2,hF⟩=> ?_;exact done p x a w2 (by simp[NQ,hodd]) hp o_ (hI1.below hb2) hF.O
 .rw[show(((nn:Int)%2)==1)=false from by grind];refine Rn.p rfl ?_;exact done x p a w1 (by simp[NQ,hodd]) o_ hp hI1 hF.O
end
def Us:f95.body=some (.seq (rG f95 0) (.seq (rG f95 1) .ret)):=k_
def O1(s:dQ)(lf:Nat)(w):
 Calls lT 95 #[.agg s.cells, .i lf] w λe w'=>e= .returned (.func (.func 122) #[] #[.pk w.heap.size 0, .pk (w.heap.size+1) 0])/\w'=(w.alloc (.cells s.cells 119)).alloc (.cells #[.i lf] 3):=by
 refine eK lf95 Us λd a b=> ?_;refine Rn.gr ?_;refine Rn.z b 2 0 119 rfl λa b=> ?_;show Rn _ _ _ _ (w.alloc (.cells s.cells 119));refine Rn.z b 3 1 3 rfl λa b=> ?_;rw[aJ]at b;show Rn _ _ _ _ ((w.alloc (.cells s.cells 119)).alloc (.cells #[.i lf] 3));refine Rn.uu b λa b=> ?_;refine Rn.gr ?_;refine Rn.O b 5 (.makeFunc (.func 122) #[] #[.tmp 2, .tmp 3]) (v:= .func (.func 122) #[] #[.pk w.heap.size 0, .pk (w.heap.size+1) 0]) (w':=(w.alloc (.cells s.cells 119)).alloc (.cells #[.i lf] 3)) (λo c=> ?_) λa b=> ?_
 .rw[((gw lT (w:=(w.alloc (.cells s.cells 119)).alloc (.cells #[.i lf] 3)) (ev:=a.eval) c).1)];simp[b.G 2,b.G 3]
 refine Rn.uu b λa b=> ?_;exact Rn.fi b ⟨rfl,rfl⟩
def Ko:f71.body=some (.seq (rG f71 0) (.seq (rG f71 1) (.seq (rD f71 2) (.seq (rD f71 3)
 (.seq (rD f71 4) (.seq (rD f71 5) (.seq (.seq (rG f71 6) (.block 0 (.rangeFunc (.tmp 59) #[60,61] (.seq (rG f71 7) (rG f71 8)) (B9 f71))))
 (.seq (rG f71 13) .ret)))))))):=k_
structure WY (s:dQ) (h wd sh n q:Nat):Prop where
 wid:vy wd
 width:s.width=wd
 shift:s.shift=sh
 shift8:sh<=8
 count:s.count=n
 one:1<=n
 most:n<=34*(8/wd)
 height:s.height=h
 low:h<=5
 qq:s.q=q
 leaf:q<2^h
 id:s.id.size<=1000
 salt:s.salt.size<=1000
 links:n*32<=s.links.size
 path:s.path.size=32*h
def C0(KS:List Int)(s:dQ)(h wd sh n q:Nat)(msg:ByteArray):ByteArray:=wY KS s.id s.path (2^h+q) (Vz KS s wd sh n q (2^h+q) msg) h
def Da(KS)(u:KS.length=64)(s)(h wd sh n q)(f:WY s h wd sh n q)(msg)(ae:msg.size<=281474976706560)(w)(hK:w.rangeAt 0 0 (aQ KS))(S:0<w.heap.size):
 Calls lT 71 #[.agg s.cells, .s msg] w λe w'=>e= .returned (.s (C0 KS s h wd sh n q msg))/\Bw w w':=by
 have af:wd<=8:=by rcases f.wid with h|h|h<;>omega
 have W:8/wd<=4:=by rcases f.wid with h|h|h<;>subst h<;>decide
 have aa:n<=136:=as8 f.most o_;have aj:2^h<=32:=as8 (Q5 d_ f.low) d_;have hq:=f.leaf;have ag:=f.id;have a9:=f.salt;have ab:∀c,Vq KS s wd sh q msg c<256:=λc=>by have:=sP (ll (qB KS s q msg).data.toList wd sh) wd c;have:=qQ f.wid;unfold Vq;omega
 have ah:(Xm KS s wd sh n q msg).size<=5000:=by
  have:=xp KS s (λc=>(Vq KS s wd sh q msg c:Nat)) n f.links
  show(mZ KS s (λc=>(Vq KS s wd sh q msg c:Nat)) n).toArray.size<=5000
  grind
 refine eK lf71 Ko λcs a b=> ?_;refine Rn.zz b λw1 a R I _ b=> ?_;refine Rn.C b 4 (.string ⟨#[]⟩) λa b=> ?_;refine Rn.vv b (λo J=>jW 1 8 d_ J (b.G 2)) λa b=> ?_;refine Rn.vv b (λo J=>(aO (v:= .i q) bH J (b.G 14) ((aH I 8).trans (by rw[←f.qq];rfl))).1) λa b=> ?_;refine Rn.cw b lf89 ((vE q o_ w1)) λw2 Q a b=> ?_;refine Rn.uu b λa b=> ?_;refine Rn.p rfl (Rn.p rfl ?_);have z:Bw w w2:=aD R R.size Q;have H:=bk Q I;clear R I Q;have b:Has [(1, .s msg),(2, .pt w.heap.size),(5, .s (ob q 4))] 81 [] a:=b.O;refine Q2 (Qb:=qB KS s q msg) (wd:=wd) (sh:=sh) (n:=n) rfl u f.wid f.width f.shift f.shift8 f.count f.one f.most (by rw[Ws,et,et];omega) (Yc S z hK) (ar4 S z.size) H b λa w3 ⟨P,vg,j,b⟩=> ?_;have y:Bw w w3:=aD z z.size P;have F:=bk P H;clear P H;refine Rn.p rfl ?_;refine Q1 (dg:=Vq KS s wd sh q msg) (En:=Xm KS s wd sh n q msg) (Xn:=Xe KS s wd sh n q msg) rfl rfl u ⟨by have:=f.width;omega,by have:=f.width;omega⟩ ⟨by have:=f.qq;omega,by have:=f.qq;omega⟩ o_ f.count f.one o_ f.links ab (by rw[Wt,et,et];omega) (Yc S y hK) (ar4 S y.size) j F b.O λa w4 ⟨O,b⟩=> ?_;have a7:Bw w w4:=aD y y.size O;have E:=bk O F;clear O F j;refine Rn.p rfl ?_;refine Q0 (h:=h) (q:=q) (H2:=2^h) rfl f.height (by have:=f.low;omega) o_ f.qq o_ E (b.only ⟨rfl,rfl,trivial⟩) λa w5 ⟨g,b⟩=> ?_;have l:Bw w w5:=aD a7 a7.size g;have r:=bk g E;clear g E;refine Rn.p rfl ?_;refine PZ (lf:=2^h+q) (en:=Xe KS s wd sh n q msg) (Xn:=Vz KS s wd sh n q (2^h+q) msg) (M:=w5.heap.size) rfl u o_ (by rw[Wt,et,et,Xe,kG];omega) (Yc S l hK) (ar4 S l.size) r rfl b.O λa i ⟨A,a8,ai,g,a0,p,b⟩=> ?_;have B:Bw w a8:=aD l l.size g;have ad:=l.size;have a1:=(gA r).1;have D:i.heap[w.heap.size]?=some (.cells s.cells 119):=by rw[p,cP _ _ (by grind)];exact(g.block _ a1).trans r
 have Z:i.heap[A]?=some (.cells #[.s (Vz KS s wd sh n q (2^h+q) msg)] 9):=by rw[p];exact kJ a0
 have a6:Bw w i:=by rw[p];exact B.trans (eJ _ _ _ (by grind))
 clear p g a0 B r;refine Rn.vv b (λo J=>(mz (ex:=#[]) J (b.G 2) (by rw[Mx];exact D)).1) λa b=> ?_;refine Rn.uu b λa b=> ?_;refine Rn.cw b lf95 ((O1 s (2^h+q) i)) λd m a b=> ?_;have t:Bw i d:=by rw[m];exact aD (aR i _) (by simp_all) (aR _ _)
 have k0:d.heap[i.heap.size]?=some (.cells s.cells 119):=by rw[m];exact(cV _ _ (by simp_all)).trans (aY i _)
 have k1:d.heap[i.heap.size+1]?=some (.cells #[.i ((2^h+q:Nat):Int)] 3):=by rw[m];have:=aY (i.alloc (.cells s.cells 119)) (.cells #[.i ((2^h+q:Nat):Int)] 3);simp_all
 have a5:Bw w d:=aD a6 a6.size t;have V:=bk t D;have Y:=bk t Z;clear m t D Z;have T:=a5.size;have L:=(gA k0).1;have K:=(gA k1).1;have U:=(gA V).1;have X:=(gA Y).1;refine Rn.p rfl (Rn.p rfl ?_);refine Rn.rangeAs (FG f71 a.tmps d.heap.size .ready) (args:=#[.func (.yield (d.heap.size+1)) #[] #[], .pk i.heap.size 0, .pk (i.heap.size+1) 0]) rfl rfl lf122 k_ k_ (b.G 59) s_ ?_;have hT:Has [(2, .pt w.heap.size),(9, .pt A)] 81 [] ⟨a.tmps,[]⟩:=⟨rfl,b.size,(b.only (G:=[(2, .pt w.heap.size),(9, .pt A)]) ⟨rfl,rfl,trivial⟩).slot⟩;have ac:Cm 9 119 s w.heap.size A (d.heap.size+1) d.heap.size (FG f71 a.tmps d.heap.size .ready) w (wY KS s.id s.path (2^h+q) (Vz KS s wd sh n q (2^h+q) msg) 0) (du d (FG f71 a.tmps d.heap.size .ready)):=
  ⟨aD a5 T (m5 d _),(bK d _ U).trans V,(bK d _ X).trans Y,fJ d _,fI d _⟩
 have G:∀C,vo lT C (((base 71).atR ⟨a.tmps,{target:= .collected d.heap.size,args:=#[]}::a.defers⟩ (.inRangeFunc (d.heap.size+1)::[.inBlock 0, .code (.seq (rG f71 13) .ret)]))::cs) (λc=>#[.i (gN (2^h+q) c), .s ((mK s.path c).extract 0 32)]) h (d.heap.size+1) (FG f71 a.tmps d.heap.size .ready)
  (λc=>Cm 9 119 s w.heap.size A (d.heap.size+1) d.heap.size (FG f71 a.tmps d.heap.size .ready) w (wY KS s.id s.path (2^h+q) (Vz KS s wd sh n q (2^h+q) msg) c)):=
  λC=>
  {below:=λc w w' h hb=>h.below hb
   loop:=λc w h=>h.loop
   size:=λc=>rfl
   round:=λc w' cf hc hI next=>Oo u hK S o_ (by have:=sE (2^h+q) c;omega) (by rw[as6];omega) (EI _ _ _ _ _ (kG _ _) c) o_ o_ hT hI next}
 refine KV (s:=s) f.path o_ o_ o_ (G _) ac ((bK d _ L).trans k0) ((bK d _ K).trans k1) λw8 hI=> ?_;show Rn _ _ ((base 71).atR ⟨a.tmps,{target:= .collected d.heap.size,args:=#[]}::a.defers⟩ (.endRangeFunc (d.heap.size+1)::_)) cs w8;refine Rn.rangeOver hI.loop rfl rfl ?_;have k:=hI.turn o_ (FG f71 a.tmps d.heap.size .exhausted);show Rn _ _ _ _ (bU w8 (d.heap.size+1) (FG f71 a.tmps d.heap.size .exhausted));have x:Has [(9, .pt A)] 81 [{target:= .collected d.heap.size,args:=#[]}] ⟨a.tmps,{target:= .collected d.heap.size,args:=#[]}::a.defers⟩:=⟨by rw[b.defers],b.size,(b.only (G:=[(9, .pt A)]) ⟨rfl,trivial⟩).slot⟩;revert x k;generalize bU w8 (d.heap.size+1) (FG f71 a.tmps d.heap.size .exhausted)=w9;generalize (Act.mk a.tmps ({target:= .collected d.heap.size,args:=#[]}::a.defers))=a2;intro k x;refine Rn.gr ?_;refine Rn.O x 80 (.load 9 (.tmp 9)) (λo J=>(aO cC J (x.G 9) ((aH k.nine 0).trans rfl)).1) λa3 x=> ?_;refine Rn.S x 4 80 rfl λa4 x=> ?_;exact Rn.p rfl (Rn.ends rfl s_ (Rn.take (ds:=[]) x.defers k.list (Rn.now ⟨⟨a4.tmps,[]⟩,_, .s (C0 KS s h wd sh n q msg),rfl,rfl,x.slot 4 _ rfl,rfl,k.old.trans (gJ _ _ o_)⟩)))
end L1
section
open Go
def eZ(t:Int):Nat:=if t=5 then 5 else if t=226 then 2 else 0
def ir(c:Int):Nat:=if c=2 then 2 else if c=3 then 4 else if c=4 then 8 else 0
def jQ(c:Int):Nat:=if c=2 then 133 else if c=3 then 67 else if c=4 then 34 else 0
def jM(c:Int):Nat:=if c=2 then 6 else if c=3 then 4 else 0
def cd(b:ByteArray)(i j:Nat):Int:=dC (b.extract i j).data.toList
def iS(b:ByteArray):dQ:={tree:=b.extract 0 4,chains:=b.extract 4 8,id:=b.extract 8 24,root:=b.extract 24 b.size,height:=eZ (cd b 0 4),width:=ir (cd b 4 8),count:=jQ (cd b 4 8),shift:=jM (cd b 4 8),q:=0,salt:=⟨#[]⟩,links:=⟨#[]⟩,path:=⟨#[]⟩}
def iJ:Array Value:=#[.string ⟨#[]⟩, .string ⟨#[]⟩, .string ⟨#[]⟩, .string ⟨#[]⟩, .int .i64 0, .int .i64 0, .int .i64 0, .int .i64 0]
def ik(b:ByteArray):Prop:=b.size=56/\eZ (cd b 0 4)≠0/\ir (cd b 4 8)≠0
end
namespace L1
open Go.Conc Go.RowKit
section
variable{y z u:Operand}{m n:Int}
def As(a:o.op= .binOp .neq 3 x y t)(c:ev x= .i m)(b:ev y= .i n):(execOp ev o).run lT w= .ok (.value (.bool (m !=n))) w:=by simp[execOp,a,c,b,go_sem]
def Xh(a:o.op= .binOp .eql 132 x y t)(c:ev x= .int .u64 m)(b:ev y= .int .u64 n):(execOp ev o).run lT w= .ok (.value (.bool (m==n))) w:=by simp[execOp,a,c,b,go_sem]
def EM(a:o.op= .alloc 115):(execOp ev o).run lT w= .ok (.value (.pk w.heap.size 0)) (w.alloc (.cells iJ 115)):=by simp[execOp,a];kernel_rfl
def Ln(a:o.op= .build 115 #[]):(execOp ev o).run lT w= .ok (.value (.agg iJ)) w:=by simp[execOp,a];kernel_rfl
def Lq{a b c d}(f:o.op= .build 115 #[(0,x),(1,y),(2,z),(3,u)])(j:ev x= .s a)(g:ev y= .s b)(i:ev z= .s c)(h:ev u= .s d):
 (execOp ev o).run lT w= .ok (.value (.agg #[.s a, .s b, .s c, .s d, .i 0, .i 0, .i 0, .i 0])) w:=by simp[execOp,f,j,g,i,h];kernel_rfl
end
def CN:(lT.info? 115).map (·.size)=some 8:=k_
def kN{b:Frame}{k}{t}(u:Has F N ds a)(d x j)(c)(A:d<N)(z:j<8){b4}{g}(y:F.lookup x=some (.pk b4 0))
 (D:(ops[m]?).map (λo=>(o.dst,o.op,o.guard))=some (some d, .fieldAddr 115 (.tmp x) j,none)) (C:(ops[t]?).map (λo=>(o.dst,o.op,o.guard))=some (none, .store 3 (.tmp d) (.const (.i c)),none)) (f:w.heap[b4]?=some (.cells g 115)) {v0} (h:g[j]?=some v0)
 (next:∀a' w',Has F N ds a'->w'.heap[b4]?=some (.cells (g.setIfInBounds j (.i c)) 115)->(∀M,M<=b4->Below M w w')->Rn lT Goal (b.atR a' (.inRegion ops rest::k)) cs w') (r:F.lookup d=none):Rn lT Goal (b.atR a (.inRegion ops (m::t::rest)::k)) cs w:=by
 refine Rn.op u d (.fieldAddr 115 (.tmp x) j) A D s_ (λo l=>fv j z l (u.get y)) λa i=> ?_;refine Rn.does0 i (.store 3 (.tmp d) (.const (.i c))) C s_ (λo l=>(ff (b:=b4) (k:=j) rfl rfl k_ l (i.get (by simp_all)) rfl (by rw[aH f];exact h) (by simp[If,f])).1) λa s=> ?_;refine next a _ (s.sub λe v p=> ?_) (kI f) λM B=>eJ w _ _ B
 grind
def Tt{b}(hb56:b.size=56){v2}(hF:Has [(0, .s b),(2,v2)] 48 [] a)
 (next:∀a w' b4,w.heap.size<=b4->Bw w w'->w'.heap[b4]?=some (.cells #[.s (b.extract 0 4), .s (b.extract 4 8), .s (b.extract 8 24), .s (b.extract 24 b.size), .int .i64 0, .int .i64 0, .int .i64 0, .int .i64 0] 115)->Has [(4, .pt b4),(0, .s b),(2,v2)] 48 [] a->Rn (aI true tP) Goal ((base 69).atR a K) cs w'):
 Rn (aI true tP) Goal ((base 69).atR a (.code (rD f69 3)::K)) cs w:=by refine Rn.gu 10 hF ?_;refine n_ ?_;refine n_ ?_ (y:=λo a w ho z=>s8 (n:=4) ho gx rfl o_);refine n_ ?_;refine n_ ?_ (y:=λo a w ho z=>(eC (m:=4) (n:=8) ho gx rfl rfl o_ o_).1);refine n_ ?_;refine n_ ?_ (y:=λo a w ho z=>(eC (m:=8) (n:=24) ho gx rfl rfl o_ o_).1);refine n_ ?_;refine n_ ?_ (y:=λo a w ho z=>rX (n:=24) ho gx rfl o_);refine n_ ?_ (y:=λo a w ho z=>Lq ho gx gx gx gx);refine f_ [] (V:=λb=> .pk b 0) (λu=>y_ λa w' hF hb hM rest hgo=> ?_) (y:=λo a w ho _=>EM ho);obtain⟨b4,rfl,h1,h3⟩:=hM.1 rfl;exact Rn.nn hF (λo ho=>cZ ho (hF.get rfl) (hF.get (d:=17) rfl) h3 CN rfl (by simp[Ic])) λa hF=>hgo _ _ (next a _ b4 h1 (hb.trans (dD w' b4 _ h1)) (setRow_heap w' b4 _ _ _ _ h3) hF.O)
def Dc(f:Func):Code:= .seq (.seq (rG f 10) (.block 1 (.seq (rG f 12) (.cond (.tmp 32) (rG f 13) (.seq (rG f 14) (.cond (.tmp 37) (rG f 15) (.seq (rG f 16) (.cond (.tmp 42) (rG f 17) (.seq (rG f 11) .ret))))))))) (.seq (rG f 18) .ret)
def L4(f:Func):Code:= .seq (.seq (rG f 4) (.block 0 (.seq (rG f 6) (.cond (.tmp 22) (rG f 7) (.seq (rG f 8) (.cond (.tmp 25) (rG f 9) (.seq (rG f 5) .ret))))))) (Dc f)
def Ux:f69.body=some (.seq (rG f69 0) (.seq (.seq (rG f69 1) (.cond (.tmp 7) (.seq (rG f69 2) .ret) .skip)) (.seq (rD f69 3) (L4 f69)))):=k_
def Rj(b:ByteArray)(w0:World)(e:Ending)(w':World):Prop:=((ik b/\e= .returned (.tuple #[.agg (iS b).key, .bool true]))\/(¬ik b/\e= .returned (.tuple #[.agg iJ, .bool false])))/\Bw w0 w'
def ua(b:ByteArray)(w0:World)(cs:List Frame)(g:Goroutine)(w':World):Prop:=∃(a:Act) (k:List Item) (bk:Nat) (cells:Array Value) (tt:TypeId) (v:Value),g=cD {(base 69).atR a k with mode:= .returning} cs/\a.defers=[]/\a.tmps[2]?=some (.pk bk 0)/\w'.heap[bk]?=some (.cells cells tt)/\cells.size=8/\a.tmps[3]?=some v/\Rj b w0 (.returned (.tuple #[.agg cells,v])) w'
section
variable{b:ByteArray}{k:List Item}
def N9(id d)(h:d<48/\d≠2)(f:¬ik b)(c:Has [(2, .pt w0.heap.size)] 48 [] a)(i:w.heap[w0.heap.size]?=some (.cells iJ 115))(e:Bw w0 w)(j:ar7 (bP f69 id).size=[0,1,2])
 (n:((bP f69 id)[0]?).map (λo=>(o.dst,o.op,o.guard))=some (some d, .build 115 #[],none)) (m:((bP f69 id)[1]?).map (λo=>(o.dst,o.op,o.guard))=some (none, .store 115 (.tmp 2) (.tmp d),none)) (l:((bP f69 id)[2]?).map (λo=>(o.dst,o.op,o.guard))=some (some 3, .assign (.const (.bool false)),none)):
 Rn lT (ua b w0 cs) ((base 69).atR a (.code (.seq (rG f69 id) .ret)::k)) cs w:=by
 refine Rn.p rfl (Rn.r j ?_);refine Rn.op c d (.build 115 #[]) h.1 n s_ (λo g=>Ln g) λa c=> ?_;have p:((d,aO2 iJ)::[(2, .pt w0.heap.size)]:List (Nat×Value)).lookup 2=some (.pk w0.heap.size 0):=by grind
 refine Rn.does0 c (.store 115 (.tmp 2) (.tmp d)) m s_ (λo g=>cZ (cells:=iJ) g (c.get p) (c.get (by simp_all)) i CN rfl (by simp[iJ,Ic])) λa c=> ?_;refine Rn.asc c 3 (.bool false) d_ l λa c=> ?_;refine Rn.p rfl (Rn.ends rfl s_ (Rn.now ⟨a,_,w0.heap.size,iJ,115, .bool false,rfl,c.defers,c.slot 2 _ ?_,setRow_heap w _ _ _ _ _ i,rfl,c.slot 3 _ (by simp_all), .inr ⟨f,rfl⟩,e.trans (dD _ _ _ (ar5 _))⟩))
 grind
def Tg{b4}(f:ik b)(c:Has [(2, .pt w0.heap.size),(4, .pt b4)] 48 [] a)(i:w.heap[w0.heap.size]?=some (.cells iJ 115))(e:Bw w0 w)(h:w.heap[b4]?=some (.cells (iS b).key 115)):
 Rn (aI true tP) (ua b w0 cs) ((base 69).atR a (.code (.seq (rG f69 18) .ret)::k)) cs w:=by refine Rn.vv c (λo g=>j7 (s:=iS b) g (c.get rfl) h s_) λa c=> ?_;refine Rn.nn c (λo g=>cZ g (c.get rfl) (c.get (d:=47) rfl) i CN rfl (by simp[dQ.key,Ic])) λa c=> ?_;refine Rn.uu c λa c=> ?_;exact Rn.p rfl (Rn.ends rfl s_ (Rn.now ⟨a,_,w0.heap.size,(iS b).key,115, .bool true,rfl,c.defers,c.slot 2 _ rfl,setRow_heap w _ _ _ _ _ i,rfl,c.slot 3 _ rfl, .inl ⟨f,rfl⟩,e.trans (dD _ _ _ (ar5 _))⟩))
def Xk(b:ByteArray)(h w c s:Int):Array Value:=#[.string (b.extract 0 4), .string (b.extract 4 8), .string (b.extract 8 24), .string (b.extract 24 b.size), .int .i64 h, .int .i64 w, .int .i64 c, .int .i64 s]
def LE{b4}(F:b.size=56)(G:eZ (cd b 0 4)≠0)(c:Has [(2, .pt w0.heap.size),(4, .pt b4)] 48 [] a)(L:w.heap[w0.heap.size]?=some (.cells iJ 115))(l:Bw w0 w)(n:w.heap[b4]?=some (.cells (Xk b (eZ (cd b 0 4)) 0 0 0) 115))(Q:w0.heap.size<b4):
 Rn lT (ua b w0 cs) ((base 69).atR a (.code (Dc f69)::k)) cs w:=by
 have D:(b.extract 4 8).size<=8:=by simp_all
 refine Rn.vv c (λo P=>fv 1 d_ P (c.G 4)) λa c=> ?_;refine Rn.uu c λa c=> ?_;refine Rn.cl c lf88 (R:=λv K=>v= .int .u64 (cd b 4 8)/\K=w) ((fN (b.extract 4 8) w D).mono λe K h=>⟨_,h.1,rfl,h.2⟩) λv N O a c=> ?_;obtain⟨rfl,rfl⟩:=O;have q:∀a m,ik b->(iS b).key=Xk b (eZ (cd b 0 4)) (ir (cd b 4 8)) (jQ (cd b 4 8)) (jM (cd b 4 8))->m.heap[b4]?=some (.cells (Xk b (eZ (cd b 0 4)) (ir (cd b 4 8)) (jQ (cd b 4 8)) (jM (cd b 4 8))) 115)->(∀M,M<=b4->Below M N m)->Has [(2, .pt w0.heap.size),(4, .pt b4)] 48 [] a->
  Rn lT (ua b w0 cs) ((base 69).atR a (.code (.seq (rG f69 18) .ret)::k)) cs m:=by intro a m E s p S c;have t:=S (w0.heap.size+1) o_;exact Tg E c ((t.block _ o_).trans L) (l.trans (t.mono o_)) (s▸p)
 iterate 2 refine Rn.uu c λa c=> ?_
 refine Rn.p rfl (Rn.cond _ (c.G 32) ?_);have I:∀(x y:Int) (h:x=y),(x==y)=true:=s_;have H:∀(x y:Int) (h:x≠y),(x==y)=false:=s_;by_cases C:cd b 4 8=2
 .rw[I _ _ C];have c:Has [(2, .pt w0.heap.size),(4, .pt b4)] 48 [] a:=c.O;refine Rn.gr ?_;refine kN c 34 4 5 2 d_ d_ rfl k_ k_ n rfl (λa m c z j=> ?_) rfl;refine kN c 35 4 6 133 d_ d_ rfl k_ k_ z rfl (λa J c u i=> ?_) rfl;refine kN c 36 4 7 6 d_ d_ rfl k_ k_ u rfl (λa r c p g=> ?_) rfl;have d:ir (cd b 4 8)=2/\jQ (cd b 4 8)=133/\jM (cd b 4 8)=6:=by rw[C];decide
  refine Rn.p rfl (Rn.p rfl (q a r ⟨F,G,o_⟩ rfl ?_ (λM f=>((j M f).trans (i M f)).trans (g M f)) c));rw[d.1,d.2.1,d.2.2];exact p
 rw[H _ _ C]
 iterate 2 refine Rn.uu c λa c=> ?_
 refine Rn.p rfl (Rn.cond _ (c.G 37) ?_);by_cases B:cd b 4 8=3
 .rw[I _ _ B];have c:Has [(2, .pt w0.heap.size),(4, .pt b4)] 48 [] a:=c.O;refine Rn.gr ?_;refine kN c 39 4 5 4 d_ d_ rfl k_ k_ n rfl (λa m c z j=> ?_) rfl;refine kN c 40 4 6 67 d_ d_ rfl k_ k_ z rfl (λa J c u i=> ?_) rfl;refine kN c 41 4 7 4 d_ d_ rfl k_ k_ u rfl (λa r c p g=> ?_) rfl;have d:ir (cd b 4 8)=4/\jQ (cd b 4 8)=67/\jM (cd b 4 8)=4:=by rw[B];decide
  refine Rn.p rfl (Rn.p rfl (q a r ⟨F,G,o_⟩ rfl ?_ (λM f=>((j M f).trans (i M f)).trans (g M f)) c));rw[d.1,d.2.1,d.2.2];exact p
 rw[H _ _ B]
 iterate 2 refine Rn.uu c λa c=> ?_
 refine Rn.p rfl (Rn.cond _ (c.G 42) ?_);by_cases A:cd b 4 8=4
 .rw[I _ _ A];have c:Has [(2, .pt w0.heap.size),(4, .pt b4)] 48 [] a:=c.O;refine Rn.gr ?_;refine kN c 44 4 5 8 d_ d_ rfl k_ k_ n rfl (λa m c z j=> ?_) rfl;refine kN c 45 4 6 34 d_ d_ rfl k_ k_ z rfl (λa J c u i=> ?_) rfl;refine kN c 46 4 7 0 d_ d_ rfl k_ k_ u rfl (λa r c p g=> ?_) rfl;have d:ir (cd b 4 8)=8/\jQ (cd b 4 8)=34/\jM (cd b 4 8)=0:=by rw[A];decide
  refine Rn.p rfl (Rn.p rfl (q a r ⟨F,G,o_⟩ rfl ?_ (λM f=>((j M f).trans (i M f)).trans (g M f)) c));rw[d.1,d.2.1,d.2.2];exact p
 rw[H _ _ A];refine N9 11 31 d_ (λh=>h.2.2 ?_) c.O L l rfl k_ k_ k_;simp[ir,C,B,A]
def IB{b4}(t:b.size=56)(c:Has [(2, .pt w0.heap.size),(4, .pt b4)] 48 [] a)(q:w.heap[w0.heap.size]?=some (.cells iJ 115))(d:Bw w0 w)(j:w.heap[b4]?=some (.cells (Xk b 0 0 0 0) 115))(i:w0.heap.size<b4):
 Rn lT (ua b w0 cs) ((base 69).atR a (.code (L4 f69)::k)) cs w:=by
 have p:(b.extract 0 4).size<=8:=by simp_all
 refine Rn.vv c (λo C=>fv 0 d_ C (c.G 4)) λa c=> ?_;refine Rn.uu c λa c=> ?_;refine Rn.cl c lf88 (R:=λv s=>v= .int .u64 (cd b 0 4)/\s=w) ((fN (b.extract 0 4) w p).mono λe s h=>⟨_,h.1,rfl,h.2⟩) λv D B a c=> ?_;obtain⟨rfl,rfl⟩:=B;have z:∀(x y:Int) (h:x=y),(x==y)=true:=s_;have u:∀(x y:Int) (h:x≠y),(x==y)=false:=s_
 iterate 2 refine Rn.uu c λa c=> ?_
 refine Rn.p rfl (Rn.cond _ (c.G 22) ?_);by_cases n:cd b 0 4=5
 .rw[z _ _ n];have c:Has [(2, .pt w0.heap.size),(4, .pt b4)] 48 [] a:=c.O;refine Rn.gr ?_;refine kN c 24 4 4 5 d_ d_ rfl k_ k_ j rfl (λa A c r g=> ?_) rfl;have l:eZ (cd b 0 4)=5:=by rw[n];decide
  have f:=g (w0.heap.size+1) o_;refine Rn.p rfl (Rn.p rfl (LE t (by rw[l];decide) c ((f.block _ o_).trans q) (d.trans (f.mono o_)) ?_ i));exact l▸r
 rw[u _ _ n]
 iterate 2 refine Rn.uu c λa c=> ?_
 refine Rn.p rfl (Rn.cond _ (c.G 25) ?_);by_cases m:cd b 0 4=226
 .rw[z _ _ m];have c:Has [(2, .pt w0.heap.size),(4, .pt b4)] 48 [] a:=c.O;refine Rn.gr ?_;refine kN c 27 4 4 2 d_ d_ rfl k_ k_ j rfl (λa A c r g=> ?_) rfl;have l:eZ (cd b 0 4)=2:=by rw[m];decide
  have f:=g (w0.heap.size+1) o_;refine Rn.p rfl (Rn.p rfl (LE t (by rw[l];decide) c ((f.block _ o_).trans q) (d.trans (f.mono o_)) ?_ i));exact l▸r
 rw[u _ _ m];refine N9 5 21 d_ (λh=>h.2.1 ?_) c.O q d rfl k_ k_ k_;simp[eZ,n,m]
end
def C6(b)(w):Calls lT 69 #[.s b] w (Rj b w):=by
 refine kj lf69 rfl lu115 rfl CN λi=> ?_;show Rn _ (ua b w i) _ i w;refine Rn.ent lf69 Ux λa c=> ?_;refine Rn.al c (λo k=>EM k) λp a d f j c=> ?_
 iterate 4 refine Rn.uu c λa c=> ?_
 refine Rn.p rfl (Rn.cond _ (c.G 7) ?_);by_cases e:b.size=56
 .rw[show((b.size:Int) !=56)=false from by simp;omega];refine Rn.p rfl (Rn.p rfl ?_);refine Tt e c.O λa m r q g l c=> ?_;exact IB e c.O ((g.block _ o_).trans f) (aD d o_ g) l o_
 .rw[show((b.size:Int) !=56)=true from by simp;omega];exact N9 2 8 d_ (λh=>e h.1) c.O f d rfl k_ k_ k_
end L1
section
open Go
def iI:Array Value:=#[.string ⟨#[]⟩, .string ⟨#[]⟩, .string ⟨#[]⟩, .string ⟨#[]⟩, .int .i64 0, .int .i64 0, .int .i64 0, .int .i64 0, .int .i64 0, .string ⟨#[]⟩, .string ⟨#[]⟩, .string ⟨#[]⟩]
def lI(k:dQ)(h n:Nat)(b:ByteArray):Prop:=b.size=44+32*n+32*h/\cd b 0 4<2^h/\(b.extract 4 8).data.toList=k.chains.data.toList/\(b.extract (40+32*n) (44+32*n)).data.toList=k.tree.data.toList
def xW(k:dQ)(n:Nat)(b:ByteArray):dQ:={k with q:=cd b 0 4,salt:=b.extract 8 40,links:=b.extract 40 (40+32*n),path:=b.extract (44+32*n) b.size}
end
namespace L1
open Go.Conc Go.RowKit
section
variable{y z u v:Operand}{m n:Int}
def vG{a b}(c:o.op= .binOp .neq 9 x y t)(e:ev x= .s a)(d:ev y= .s b):(execOp ev o).run lT w= .ok (.value (.bool (a.data.toList !=b.data.toList))) w:=by simp[execOp,c,e,d,go_sem,(az3 a),(az3 b),bne]
def OG(a:o.op= .binOp .geq 132 x y t)(c:ev x= .int .u64 m)(b:ev y= .int .u64 n):(execOp ev o).run lT w= .ok (.value (.bool (decide (m≥n)))) w:=by simp[execOp,a,c,b,go_sem]
def Oz(a:o.op= .binOp .shl 132 x y t)(c:ev x= .int .u64 m)(b:ev y= .i k)(h:k<=64)(d:0<=m*2^k/\m*2^k<18446744073709551616):(execOp ev o).run lT w= .ok (.value (.int .u64 (m*2^k))) w:=by
 have e:Tu.wrap (m*2^k)=m*2^k:=by rw[XZ];omega
 simp[execOp,a,c,b,go_sem,e]
def Lv(a:o.op= .convert 132 3 x)(b:ev x= .int .u64 m)(h:0<=m/\m<9223372036854775808):(execOp ev o).run lT w= .ok (.value (.i m)) w:=by
 have d:lT.underlying 132=some (.int .u64):=k_
 have c:lT.underlying 3=some (.int .i64):=k_
 have e:DN.wrap m=m:=by rw[as3];omega
 simp[execOp,a,b,go_sem,d,c,e]
def Lm(a:o.op= .build 119 #[]):(execOp ev o).run lT w= .ok (.value (.agg iI)) w:=by simp[execOp,a];kernel_rfl
def LR(a:o.op= .alloc 119):(execOp ev o).run lT w= .ok (.value (.pk w.heap.size 0)) (w.alloc (.cells iI 119)):=by simp[execOp,a];kernel_rfl
def Sa{s:dQ}(a:o.op= .build 119 #[(0,x),(1,y),(2,z),(3,u),(4,v)])(g:ev x= .agg s.key)(b:ev y= .i s.q)(f:ev z= .s s.salt)(d:ev u= .s s.links)(c:ev v= .s s.path):
 (execOp ev o).run lT w= .ok (.value (.agg s.cells)) w:=by simp[execOp,a,g,b,f,d,c];kernel_rfl
end
def Hf:(lT.info? 119).map (·.size)=some 12:=k_
section
variable{k:dQ}{b:ByteArray}{H2 h T:Nat}{c1 n1 n2:Bool}
def Ts(l:H2=2^h)(r:k.height=h)(q:h<=8)(t:H2<=256)(e:T+4<=b.size)(s:8<=b.size)(j:c1=decide (cd b 0 4≥(H2:Int)))(i:n1=((b.extract 4 8).data.toList !=k.chains.data.toList))(g:n2=((b.extract T (T+4)).data.toList !=k.tree.data.toList))
 (f:w.heap[N]?=some (.cells k.key 115)) (d:Has [(1, .s b),(2, .pt N),(6, .i T),(7, .i ((T+4:Nat):Int)),(8, .int .u64 (cd b 0 4)),(4, .pt (N+1))] 61 [] a)
 (next:∀a w',Bw w w'->Has [(47, .bool (c1||n1||n2)),(1, .s b),(2, .pt N),(6, .i T),(7, .i ((T+4:Nat):Int)),(8, .int .u64 (cd b 0 4)),(4, .pt (N+1))] 61 [] a->Rn lT Goal ((base 70).atR a K) cs w'):
 Rn lT Goal ((base 70).atR a (.code (rD f70 6)::K)) cs w:=by
 have p:(1:Int)*2^h=(H2:Int):=by simp_all
 refine Rn.gt d ?_
 iterate 2 refine n_ ?_
 refine n_ ?_ (v:= .i h) (y:=λo a w c z=>(aO bH c gx ((aH (bk z.b f) 4).trans (by rw[←r];rfl))).1);refine n_ ?_ (y:=λo a w c z=>(Oz (m:=1) (k:=h) c rfl gx o_ (by rw[p];omega)).trans (by rw[p]));refine n_ ?_ (y:=λo a w c z=>j▸OG c gx gx);refine n_ ?_;cases c1 with
 |true=>
  iterate 5 refine r_ ?_
  refine n_ ?_ (y:=λo a w c z=>mH c gx);refine n_ ?_
  iterate 7 refine r_ ?_
  refine n_ ?_ (y:=λo a w c z=>mH c gx);exact q_ λa w' d e _=>next a w' e d.O
 |false=>
  refine n_ ?_;refine n_ ?_ (y:=λo a w c z=>(eC (m:=4) (n:=8) c gx rfl rfl o_ o_).1)
  iterate 2 refine n_ ?_
  refine n_ ?_ (y:=λo a w c z=>i▸vG c gx gx)
  iterate 2 refine n_ ?_
  cases n1 with
  |true=>
   iterate 7 refine r_ ?_
   refine n_ ?_ (y:=λo a w c z=>mH c gx);exact q_ λa w' d e _=>next a w' e d.O
  |false=>
   iterate 6 refine n_ ?_
   refine n_ ?_ (v:= .bool n2) (y:=λo a w c z=>g▸vG c gx gx);refine n_ ?_;exact q_ λa w' d e _=>next a w' e d.O
end
section
variable{k s:dQ}{b:ByteArray}{T:Nat}
def Q3(p:s=xW k n b)(v:T=40+32*n)(r:T+4<=b.size)(hq:0<=cd b 0 4/\cd b 0 4<9223372036854775808)(q:w.heap[N]?=some (.cells k.key 115))(f:w.heap[N+1]?=some (.cells iI 119))(e:Has [(1, .s b),(2, .pt N),(6, .i T),(7, .i ((T+4:Nat):Int)),(8, .int .u64 (cd b 0 4)),(4, .pt (N+1))] 61 [] a)
 (next:∀a w',Below (N+1) w w'->w'.heap[N+1]?=some (.cells s.cells 119)->Has [(5, .bool true),(4, .pt (N+1))] 61 [] a->Rn lT Goal ((base 70).atR a K) cs w'):
 Rn lT Goal ((base 70).atR a (.code (rD f70 8)::K)) cs w:=by
 have u:=(gA f).1;have d:s.links=b.extract 40 T:=by rw[p,v];rfl
 have i:s.path=b.extract (T+4) b.size:=by rw[p,v];show b.extract (44+32*n) b.size=_;grind
 have h:s.salt=b.extract 8 40:=by rw[p];rfl
 have t:s.q=cd b 0 4:=by rw[p];rfl
 have g:s.key=k.key:=by rw[p];rfl
 refine Rn.gv 12 e ?_;refine n_ ?_ (y:=λo a w c z=>j7 (s:=k) c gx (bk z.b q) s_);refine n_ ?_;refine n_ ?_ (y:=λo a w c z=>Lv c gx hq);refine n_ ?_;refine n_ ?_ (y:=λo a w c z=>(eC (m:=8) (n:=40) c gx rfl rfl o_ o_).1)
 iterate 2 refine n_ ?_
 refine n_ ?_ (y:=λo a w c z=>(eC (m:=40) (n:=T) c gx rfl gx o_ o_).1)
 iterate 2 refine n_ ?_
 refine n_ ?_;rw[←g,←t,←h,←d,←i];refine n_ ?_ (y:=λo a w c z=>Sa (s:=s) c gx gx gx gx gx);refine q_ λa w' e r _ l j=> ?_;have B:=bk r f;refine Rn.nn e (λo c=>cZ (cells:=s.cells) c (e.G 4) (e.G 60) B Hf rfl (by simp[dQ.cells,Ic])) λa e=>j _ _ λl j=> ?_;exact Rn.uu e λa e=>j _ _ (next a _ ((r.mono o_).trans (dD w' (N+1) _ o_)) (setRow_heap w' (N+1) _ _ _ _ B) (e.only ⟨rfl,rfl,trivial⟩))
end
def Uw:f70.body=some (.seq (rG f70 0) (.seq (rG f70 1) (.seq (rG f70 2) (.seq (.seq (rG f70 3) (.cond (.tmp 22) (.seq (rG f70 4) .ret) .skip))
 (.seq (rG f70 5) (.seq (.seq (rD f70 6) (.cond (.tmp 47) (.seq (rG f70 7) .ret) .skip)) (.seq (rD f70 8) .ret))))))):=k_
def Rc(k:dQ)(h n:Nat)(b:ByteArray)(w0:World)(e:Ending)(w':World):Prop:=((lI k h n b/\e= .returned (.tuple #[.agg (xW k n b).cells, .bool true]))\/(¬lI k h n b/\e= .returned (.tuple #[.agg iI, .bool false])))/\Bw w0 w'
def NK(k:dQ)(h n:Nat)(b:ByteArray)(w0:World)(cs:List Frame)(g:Goroutine)(w':World):Prop:=∃(a:Act) (K:List Item) (bk:Nat) (cells:Array Value) (tt:TypeId) (v:Value),g=cD {(base 70).atR a K with mode:= .returning} cs/\a.defers=[]/\a.tmps[4]?=some (.pk bk 0)/\w'.heap[bk]?=some (.cells cells tt)/\cells.size=12/\a.tmps[5]?=some v/\Rc k h n b w0 (.returned (.tuple #[.agg cells,v])) w'
section
variable{kk:dQ}{h:Nat}{b:ByteArray}{k:List Item}
def R5(id d)(i:d<61/\d≠4)(f:¬lI kk h n b)(c:Has [(4, .pt (w0.heap.size+1))] 61 [] a)(j:w.heap[w0.heap.size+1]?=some (.cells iI 119))(e:Bw w0 w)(l:ar7 (bP f70 id).size=[0,1,2])
 (q:((bP f70 id)[0]?).map (λo=>(o.dst,o.op,o.guard))=some (some d, .build 119 #[],none)) (p:((bP f70 id)[1]?).map (λo=>(o.dst,o.op,o.guard))=some (none, .store 119 (.tmp 4) (.tmp d),none)) (m:((bP f70 id)[2]?).map (λo=>(o.dst,o.op,o.guard))=some (some 5, .assign (.const (.bool false)),none)):
 Rn lT (NK kk h n b w0 cs) ((base 70).atR a (.code (.seq (rG f70 id) .ret)::k)) cs w:=by
 refine Rn.p rfl (Rn.r l ?_);refine Rn.op c d (.build 119 #[]) i.1 q s_ (λo g=>Lm g) λa c=> ?_;have r:((d,aO2 iI)::[(4, .pt (w0.heap.size+1))]:List (Nat×Value)).lookup 4=some (.pk (w0.heap.size+1) 0):=by grind
 refine Rn.does0 c (.store 119 (.tmp 4) (.tmp d)) p s_ (λo g=>cZ (cells:=iI) g (c.get r) (c.get (by simp_all)) j Hf rfl (by simp[iI,Ic])) λa c=> ?_;refine Rn.asc c 5 (.bool false) d_ m λa c=> ?_;refine Rn.p rfl (Rn.ends rfl s_ (Rn.now ⟨a,_,w0.heap.size+1,iI,119, .bool false,rfl,c.defers,c.slot 4 _ ?_,setRow_heap w _ _ _ _ _ j,rfl,c.slot 5 _ (by simp_all), .inr ⟨f,rfl⟩,e.trans (dD _ _ _ o_)⟩))
 grind
end
def LA(k:dQ)(h n:Nat)(L:k.height=h)(A:h<=8)(U:k.count=n)(S:n<=1000)(b:ByteArray)(X:b.size<=1125899906842624)(w:World):Calls lT 70 #[.agg k.key, .s b] w (Rc k h n b w):=by
 refine kj (t:=4) (u:=5) (ty:=119) (n:=12) lf70 rfl lu119 rfl Hf λO=> ?_;show Rn _ (NK k h n b w O) _ O w;refine Rn.ent (N:=61) lf70 Uw λa c=> ?_;refine Rn.gr ?_;refine Rn.z c 2 0 115 rfl λa c=> ?_;show Rn _ _ _ _ (w.alloc (.cells k.key 115));refine Rn.vv c (λo g=>LR g) λa c=> ?_;rw[aJ]at c;have f:=(cV (w.alloc (.cells k.key 115)) (.cells iI 119) (b:=w.heap.size) (by simp_all)).trans (aY w _);have d:=aY (w.alloc (.cells k.key 115)) (.cells iI 119);rw[aJ]at d;have i:Bw w ((w.alloc (.cells k.key 115)).alloc (.cells iI 119)):=aD (aR w _) (by simp_all) (aR _ _);revert f d i;generalize (w.alloc (.cells k.key 115)).alloc (.cells iI 119)=J;intro f d i;have z:=(gA d).1
 iterate 2 refine Rn.uu c λa c=> ?_
 refine Rn.vv c (λo g=>(aO (v:= .i n) bH g (c.G 9) ((aH f 6).trans (by rw[←U];rfl))).1) λa c=> ?_;refine Rn.O c 11 (.binOp .mul 3 (.tmp 10) (.const (.i 32)) 3) (λo g=>(kD g (c.G 10) rfl o_).1) λa c=> ?_;refine Rn.vv c (λo g=>nQ (m:=40) g rfl (c.G 11) o_) λa c=> ?_;rw[show(40:Int)+(n:Int)*32=((40+32*n:Nat):Int)from o_]at c
 iterate 3 refine Rn.uu c λa c=> ?_
 rw[show((40+32*n:Nat):Int)+4=((40+32*n+4:Nat):Int)from o_]at c;refine Rn.uu c λa c=> ?_
 iterate 2 refine Rn.uu c λa c=> ?_
 refine Rn.y c 17 7 rfl λa c=> ?_;refine Rn.vv c (λo g=>fv 4 d_ g (c.G 2)) λa c=> ?_;refine Rn.vv c (λo g=>(aO (v:= .i h) bH g (c.G 18) ((aH f 4).trans (by rw[←L];rfl))).1) λa c=> ?_;refine Rn.O c 20 (.binOp .mul 3 (.tmp 19) (.const (.i 32)) 3) (λo g=>(kD g (c.G 19) rfl o_).1) λa c=> ?_;refine Rn.vv c (λo g=>nQ g (c.G 17) (c.G 20) o_) λa c=> ?_;refine Rn.vv c (λo g=>As g (c.G 16) (c.G 21)) λa c=> ?_;refine Rn.p rfl (Rn.cond _ (c.G 22) ?_);by_cases x:b.size=44+32*n+32*h
 .rw[show((b.size:Int) !=((40+32*n+4:Nat):Int)+(h:Int)*32)=false from by simp;omega];have M:=jY (b.extract 0 4).data.toList 4 (by simp;omega);have I:0<=cd b 0 4/\cd b 0 4<4294967296:=⟨M.1,by have:=M.2;rw[show(256:Int)^4=4294967296 from d_]at this;exact this⟩;refine Rn.uu c λa c=> ?_;refine Rn.vv c (λo g=>s8 (n:=4) g (c.G 24) rfl o_) λa c=> ?_;refine Rn.cl c lf88 (R:=λv K=>v= .int .u64 (cd b 0 4)/\K=J) ((fN (b.extract 0 4) J (by rw[as6];omega)).mono λe K h=>⟨_,h.1,rfl,h.2⟩) λv W Q a c=> ?_;obtain⟨rfl,rfl⟩:=Q;refine Rn.uu c λa c=> ?_;refine Rn.p rfl (Rn.p rfl (Rn.p rfl ?_));have F:2^h<=256:=as8 (Q5 d_ A) d_;refine Ts (k:=k) (b:=b) (N:=w.heap.size) (H2:=2^h) (h:=h) (T:=40+32*n) rfl L A F o_ o_ rfl rfl rfl f c.O λa P r c=> ?_;have q:=bk r f;have j:=(r.block _ z).trans d;have l:Bw w P:=aD i i.size r;refine Rn.cond _ (c.G 47) ?_;by_cases p:lI k h n b
  .have e:(decide (cd b 0 4≥((2^h:Nat):Int))||((b.extract 4 8).data.toList !=k.chains.data.toList)||((b.extract (40+32*n) (40+32*n+4)).data.toList !=k.tree.data.toList))=false:=by obtain⟨_,C,G,B⟩:=p;rw[show 44+32*n=40+32*n+4 from o_]at B;simp_all
   rw[e];refine Rn.p rfl (Rn.p rfl ?_);refine Q3 (k:=k) (s:=xW k n b) (n:=n) rfl rfl o_ ⟨I.1,o_⟩ q j c.O λa V E D c=> ?_;exact Rn.ends rfl (.inr ⟨_,rfl⟩) (Rn.now ⟨a,_,w.heap.size+1,(xW k n b).cells,119, .bool true,rfl,c.defers,c.slot 4 _ rfl,D,rfl,c.slot 5 _ rfl, .inl ⟨p,rfl⟩,l.trans (E.mono o_)⟩)
  .have e:(decide (cd b 0 4≥((2^h:Nat):Int))||((b.extract 4 8).data.toList !=k.chains.data.toList)||((b.extract (40+32*n) (40+32*n+4)).data.toList !=k.tree.data.toList))=true:=by
    refine V8 λy=>p ?_;rw[aH9,ay6,ay6,decide_eq_false_iff_not,bne_eq_false_iff_eq,bne_eq_false_iff_eq]at y;obtain⟨⟨C,G⟩,B⟩:=y;refine⟨x, ?_,G, ?_⟩
    .simp_all
    .rw[show 44+32*n=40+32*n+4 from o_];exact B
   rw[e];exact R5 7 48 d_ p c.O j l rfl k_ k_ k_
 .rw[show((b.size:Int) !=((40+32*n+4:Nat):Int)+(h:Int)*32)=true from by simp;omega];exact R5 4 23 d_ (λh=>x h.1) c.O d i rfl k_ k_ k_
def hK(key:ByteArray):Nat:=eZ (cd key 0 4)
def wK(key:ByteArray):Nat:=ir (cd key 4 8)
def nK(key:ByteArray):Nat:=jQ (cd key 4 8)
def Gn(key:ByteArray):Nat:=jM (cd key 4 8)
def oE(KS:List Int)(key msg sig:ByteArray):ByteArray:=C0 KS (xW (iS key) (nK key) sig) (hK key) (wK key) (Gn key) (nK key) (cd sig 0 4).toNat msg
def vA(KS:List Int)(key msg sig:ByteArray)(c:Int):Prop:=
 (¬ik key/\c=9)\/(ik key/\¬lI (iS key) (hK key) (nK key) sig/\c=10)\/(ik key/\lI (iS key) (hK key) (nK key) sig/\(oE KS key msg sig).data.toList≠(key.extract 24 key.size).data.toList/\c=10)\/(ik key/\lI (iS key) (hK key) (nK key) sig/\(oE KS key msg sig).data.toList=(key.extract 24 key.size).data.toList/\c=0)
def kinds(h:ik key):(hK key=5\/hK key=2)/\((wK key=2/\nK key=133/\Gn key=6)\/(wK key=4/\nK key=67/\Gn key=4)\/(wK key=8/\nK key=34/\Gn key=0)):=by
 have⟨_,g,f⟩:=h;constructor
 .unfold hK eZ at*
  grind
 .unfold wK nK Gn ir jQ jM at*
  grind
def MC(h:ik key)(e:lI (iS key) (hK key) (nK key) sig):WY (xW (iS key) (nK key) sig) (hK key) (wK key) (Gn key) (nK key) (cd sig 0 4).toNat:=by
 have⟨j,c⟩:=kinds h;have⟨g,_⟩:=h;have⟨d,f,_⟩:=e;have i:0<=cd sig 0 4:=(jY (sig.extract 0 4).data.toList 4 (by simp;omega)).1;have a:((cd sig 0 4).toNat:Int)=cd sig 0 4:=o_;exact
  {wid:=by rcases c with⟨h,_⟩|⟨h,_⟩|⟨h,_⟩<;>rw[h]<;>simp[vy]
   width:=rfl
   shift:=rfl
   shift8:=o_
   count:=rfl
   one:=o_
   most:=by grind
   height:=rfl
   low:=o_
   qq:=a.symm
   leaf:=by simp_all
   id:=by show(key.extract 8 24).size<=1000;simp_all
   salt:=by show(sig.extract 8 40).size<=1000;rw[as6];omega
   links:=by show nK key*32<=(sig.extract 40 (40+32*nK key)).size;rw[as6];omega
   path:=by show(sig.extract (44+32*nK key) sig.size).size=32*hK key;simp_all}
section
variable{s:dQ}{rt:ByteArray}{k:dQ}{bad ne:Bool}
def Tx(j:bad=false->∀w',Bw w w'->Calls lT 71 #[.agg s.cells, .s msg] w' λe f=>e= .returned (.s rt)/\Bw w' f)(g:ne=(rt.data.toList !=k.root.data.toList))(l:w.heap[b7]?=some (.cells k.key 115))(i:bad=false->w.heap[b9]?=some (.cells s.cells 119))
 (d:Has [(1, .s msg),(7, .pt b7),(8, .bool (!bad)),(9, .pt b9)] 33 [] a)
 (next:∀a w',Bw w w'->Has [(32, .bool (bad||ne))] 33 [] a->Rn lT Goal ((base 36).atR a K) cs w'):
 Rn lT Goal ((base 36).atR a (.code (rD f36 5)::K)) cs w:=by
 refine Rn.gt d ?_
 iterate 3 refine n_ ?_
 cases bad with
 |true=>
  iterate 6 refine r_ ?_
  refine n_ ?_ (y:=λo a w c z=>mH c gx);exact q_ λa w' d h _=>next a w' h d.O
 |false=>
  have i:=i rfl;refine n_ ?_ (y:=λo a w c z=>(mz c gx (by rw[Mx];exact bk z.b i)).1);refine n_ ?_;refine p_ lf71 (λw b _=>(j rfl) w b) ?_
  iterate 2 refine n_ ?_
  refine n_ ?_ (y:=λo a w c z=>g▸vG c gx gx);refine n_ ?_;exact q_ λa w' d h _=>next a w' h d.O
end
def UE:f36.body=some (.seq (rG f36 0) (.seq (rG f36 1) (.seq (.seq (rG f36 2) (.cond (.tmp 16) (.seq (rG f36 3) .ret) .skip))
 (.seq (rG f36 4) (.seq (.seq (rD f36 5) (.cond (.tmp 32) (.seq (rG f36 6) .ret) .skip)) (.seq (rG f36 7) .ret)))))):=k_
def xV(KS:List Int)(a1:KS.length=64)(key msg sig:ByteArray)(hm:msg.size<=281474976706560)(hs:sig.size<=1125899906842624)(w:World)(P:w.rangeAt 0 0 (aQ KS))(h0:0<w.heap.size):
 Calls lT 36 #[.s key, .s msg, .s sig] w λe w'=>∃c,e= .returned (.i c)/\vA KS key msg sig c/\Bw w w':=by
 refine eK (N:=33) lf36 UE λcs a b=> ?_
 iterate 2 refine Rn.uu b λa b=> ?_
 refine Rn.calls (f:=69) (xs:=#[.tmp 11]) (ats:=#[9]) (args:=#[.s key]) b 12 d_ k_ (by simp[b.G 11]) lf69 k_ k_
  (R:=λv w'=>((ik key/\v= .tuple #[.agg (iS key).key, .bool true])\/(¬ik key/\v= .tuple #[.agg iJ, .bool false]))/\Bw w w')
  ((C6 key w).mono λe w' h=>by
    rcases h with⟨⟨l,j⟩|⟨l,j⟩,T⟩
    .exact⟨_,j, .inl ⟨l,rfl⟩,T⟩
    .exact⟨_,j, .inr ⟨l,rfl⟩,T⟩) λv I y a b=> ?_
 obtain⟨y,C⟩:=y;obtain⟨cells,V,d,x⟩:∃cells V,((¬ik key/\cells=iJ/\V=false)\/(ik key/\cells=(iS key).key/\V=true))/\v= .tuple #[.agg cells, .bool V]:=by grind
 subst x;have n:cells.size=8/\cells.all (·.oneCell')=true:=by
  rcases d with⟨_,rfl,_⟩|⟨_,rfl,_⟩
  .exact⟨rfl,by simp[iJ,Ic]⟩
  .exact⟨rfl,by simp[dQ.key,Ic]⟩
 iterate 3 refine Rn.uu b λa b=> ?_
 refine Rn.al b (λo u=>EM u) λY a M h7 _ b=> ?_;refine Rn.nn b (λo u=>cZ (cells:=cells) u (b.G 7) (b.G 13) h7 (by exact n.1▸CN) (by rw[n.1];rfl) n.2) λa b=> ?_;have t:=setRow_heap Y I.heap.size iJ cells 115 (0,0) h7;have r:Bw w (Y.setRow I.heap.size cells):=(aD C C.size M).trans (dD _ _ _ C.size);have q:=(gA t).1;revert t r q;generalize Y.setRow I.heap.size cells=X;intro t r q;clear h7 M
 iterate 3 refine Rn.uu b λa b=> ?_
 refine Rn.p rfl (Rn.cond _ (b.G 16) ?_);rcases d with⟨K,rfl,rfl⟩|⟨p,rfl,rfl⟩
 .refine Rn.uu b λa b=> ?_;exact Rn.fi b ⟨9,rfl, .inl ⟨K,rfl⟩,r⟩
 obtain xQ:=kinds p;refine Rn.vv b (λo u=>j7 (s:=iS key) u (b.G 7) t s_) λa b=> ?_;refine Rn.uu b λa b=> ?_;refine Rn.calls (f:=70) (xs:=#[.tmp 18, .tmp 19]) (ats:=#[115,9]) (args:=#[.agg (iS key).key, .s sig]) b 20 d_ k_ (by simp[b.G 18,b.G 19]) lf70 k_ k_
  (R:=λv w'=>((lI (iS key) (hK key) (nK key) sig/\v= .tuple #[.agg (xW (iS key) (nK key) sig).cells, .bool true])\/(¬lI (iS key) (hK key) (nK key) sig/\v= .tuple #[.agg iI, .bool false]))/\Bw X w')
  ((LA (iS key) (hK key) (nK key) rfl o_ rfl o_ sig hs X).mono λe w' h=>by
    rcases h with⟨⟨l,j⟩|⟨l,j⟩,T⟩
    .exact⟨_,j, .inl ⟨l,rfl⟩,T⟩
    .exact⟨_,j, .inr ⟨l,rfl⟩,T⟩) λv H y a b=> ?_
 obtain⟨y,L⟩:=y;obtain⟨cells,bad,d,x⟩:∃cells bad,((lI (iS key) (hK key) (nK key) sig/\cells=(xW (iS key) (nK key) sig).cells/\bad=false)\/(¬lI (iS key) (hK key) (nK key) sig/\cells=iI/\bad=true))/\v= .tuple #[.agg cells, .bool (!bad)]:=by
  rcases y with⟨l,j⟩|⟨l,j⟩
  .exact⟨_,false, .inl ⟨l,rfl,rfl⟩,j⟩
  .exact⟨_,true, .inr ⟨l,rfl,rfl⟩,j⟩
 subst x;have i:cells.size=12/\cells.all (·.oneCell')=true:=by
  rcases d with⟨_,rfl,_⟩|⟨_,rfl,_⟩
  .exact⟨rfl,by simp[dQ.cells,Ic]⟩
  .exact⟨rfl,by simp[iI,Ic]⟩
 have S:=(L.block _ q).trans t;have E:Bw w H:=aD r r.size L
 iterate 3 refine Rn.uu b λa b=> ?_
 refine Rn.al b (λo u=>LR u) λU a B h9 _ b=> ?_;have Q:=bk B S;have Z:=(gA S).1;refine Rn.nn b (λo u=>cZ (cells:=cells) u (b.G 9) (b.G 21) h9 (by exact i.1▸Hf) (by rw[i.1];rfl) i.2) λa b=> ?_;have F:=setRow_heap U H.heap.size iI cells 119 (0,0) h9;have G:=(setRow_other U H.heap.size I.heap.size cells o_).trans Q;have g:Bw w (U.setRow H.heap.size cells):=(aD E E.size B).trans (dD _ _ _ E.size);revert F G g;generalize U.setRow H.heap.size cells=w6;intro F G g;clear h9 B Q;refine Rn.uu b λa b=> ?_;refine Rn.p rfl (Rn.p rfl (Rn.p rfl ?_));refine Tx (s:=xW (iS key) (nK key) sig) (k:=iS key) (rt:=oE KS key msg sig) (bad:=bad) (b9:=H.heap.size) (b7:=I.heap.size) (msg:=msg) (λJ w' O=> ?_) rfl G (λJ=> ?_) b.O λa w7 a0 b=> ?_
 .rcases d with⟨m,_,_⟩|⟨_,_,A⟩
  .exact Da KS a1 _ _ _ _ _ _ (MC p m) msg hm w' (Yc h0 (aD g g.size O) P) (ar4 h0 (aD g g.size O).size)
  .rw[A]at J;cases J
 .rcases d with⟨_,hc,_⟩|⟨_,_,A⟩
  .rw[F,hc]
  .rw[A]at J;cases J
 have D:Bw w w7:=aD g g.size a0;refine Rn.cond _ (b.G 32) ?_;rcases d with⟨m,_,rfl⟩|⟨z,_,rfl⟩
 .by_cases W:(oE KS key msg sig).data.toList=(key.extract 24 key.size).data.toList
  .rw[show(false||((oE KS key msg sig).data.toList !=(iS key).root.data.toList))=false from by rw[aH3,bne_eq_false_iff_eq];exact W];refine Rn.uu b λa b=> ?_;exact Rn.fi b ⟨0,rfl, .inr (.inr (.inr ⟨p,m,W,rfl⟩)),D⟩
  .rw[show(false||((oE KS key msg sig).data.toList !=(iS key).root.data.toList))=true from by rw[aH3,bne_iff_ne];exact W];refine Rn.uu b λa b=> ?_;exact Rn.fi b ⟨10,rfl, .inr (.inr (.inl ⟨p,m,W,rfl⟩)),D⟩
 .refine Rn.uu b λa b=> ?_;exact Rn.fi b ⟨10,rfl, .inr (.inl ⟨p,z,rfl⟩),D⟩
end L1
section
open Go.Conc Go.RowKit
def sY(KS:List Int)(cv:Array Value)(w:World):Prop:=∃hb capH kb cap:Nat,cv=#[.sk hb 8 capH, .sk kb 64 cap]/\w.rangeAt hb 0 (bA H0)/\hb<w.heap.size/\w.rangeAt kb 0 (bA KS)/\kb<w.heap.size
def cp(t c:Int)(h wd n sh:Nat):Array Value:=#[.int .i64 t, .int .i64 c, .int .i64 h, .int .i64 wd, .int .i64 n, .int .i64 sh]
def uZ{L}(d:Bw w w')(a:b<w.heap.size)(h:w.rangeAt b 0 L):w'.rangeAt b 0 L:=λj v c=>by have:=h j v c;unfold AT at this⊢;exact d.block b a▸this
def sY.mono(h:sY KS cv w)(a:Bw w w'):sY KS cv w':=by obtain⟨b,j,e,i,rfl,g,d,f,c⟩:=h;exact⟨b,j,e,i,rfl,uZ a d g,ar4 d a.size,uZ a c f,ar4 c a.size⟩
def sY.two(h:sY KS cv w):∃c a,cv=#[c,a]:=by obtain⟨b,a,d,e,rfl,_⟩:=h;simp_all
end
namespace L1
open Go.Conc Go.RowKit
def pR(KS)(c:KS.length=64)(b:lB KS)(f)(s)(w)(j:sY KS f w)(h:s.size<=281474976710400):
 Calls lT 12 #[.agg f, .s s] w λe w'=>e= .returned (.string ⟨(iu KS s.data.toList).toArray⟩)/\Bw w w':=by obtain⟨i,a,g,d,rfl,n,m,l,k⟩:=j;exact Em KS s i a g d w c b n m l k h
section
variable{y:Operand}
def s7(c:∃e d,cv=#[e,d])(a:o.op= .load 26 x)(f:ev x= .pk b 0)(h:w.heap[b]?=some (.cells cv 26)):(execOp ev o).run lT w= .ok (.value (.agg cv)) w:=by
 obtain⟨e,d,rfl⟩:=c;have i:(isAgg 26).run lT w= .ok true w:=k_
 simp[execOp,a,f,as_,loadVar,i,loadCells,loadCellsFrom,Y1,(aH h),go_sem]
def tl{t}{d wd sh}(a:o.op= .load 29 x)(e:ev x= .pk b 0)(h:w.heap[b]?=some (.cells (cp t c d wd n sh) 29)):(execOp ev o).run lT w= .ok (.value (.agg (cp t c d wd n sh))) w:=by
 have g:(isAgg 29).run lT w= .ok true w:=k_
 simp[execOp,a,e,as_,loadVar,g,loadCells,loadCellsFrom,Y1,(aH h),cp,go_sem]
def mJ(j)(f:j<6)(a:o.op= .fieldAddr 29 x j)(c:ev x= .pk b 0):(execOp ev o).run lT w= .ok (.value (.pk b j)) w:=by simp[execOp,a,c];rcases(o_:j=0\/j=1\/j=2\/j=3\/j=4\/j=5)with rfl|rfl|rfl|rfl|rfl|rfl<;>kernel_rfl
def Ao(b:o.op= .binOp .quo 3 x y u)(f:ev x= .i m)(d:ev y= .i n)(i:0<n)(j:m<9223372036854775808):(execOp ev o).run lT w= .ok (.value (.i ((m/n:Nat):Int))) w:=by
 obtain⟨q,a⟩:∃q,q=m/n:=s_;have g:q<=m:=a▸au1 _ _;have e:DN.wrap (q:Int)=(q:Int):=by rw[as3];omega
 have h:(m:Int).tdiv (n:Int)=(q:Int):=by simp_all
 have c:¬n=0:=o_
 rw[←a];simp[execOp,b,f,d,go_sem,h,e,c]
def Gq(a:o.op= .binOp .rem 3 x y u)(d:ev x= .i m)(c:ev y= .i n)(f:0<n):(execOp ev o).run lT w= .ok (.value (.i ((m%n:Nat):Int))) w:=by
 have e:(m:Int).tmod (n:Int)=((m%n:Nat):Int):=by grind
 have b:¬n=0:=o_
 simp[execOp,a,d,c,go_sem,e,b]
end
def BP(KS)(a b c d e):kH KS [a,b,c,d,e]=⟨(iu KS (a++b++c++d++e).data.toList).toArray⟩:=by simp[kH,au_]
def BO(KS)(a b c d):kH KS [a,b,c,d]=⟨(iu KS (a++b++c++d).data.toList).toArray⟩:=by simp[kH,au_]
section
variable{W:World}{df:List Deferred}{Q:Act->WP}{M:List (Nat×WP)}{d:Tmp}{gd:Option (Nat×Bool)}{xs:Array Operand}{ats:Array TypeId}
def v_(v k:Nat)(next:Gx (aI true prog) ops W N n df Q (m+1) ((d, .string (ob v k))::F) M)(h:Is ops m d (.call {callee:= .value (.func 29),args:=xs,argTypes:=ats}) gd:=by rfl)(hw:gV ops F gd=some true:=by rfl)(hk0:A5 ops (Z8 ops n m) gd=true:=by kernel_rfl)(ha:PU F xs.toList=some [.int .i64 v, .int .i64 k]:=by rfl)(hk:xs.toList.all (GR (Z8 ops n m))=true:=by kernel_rfl)(hn:k<=8:=by decide)(hv:v<9223372036854775808:=by omega):Gx (aI true prog) ops W N n df Q m F M:=
 p_ (v:= .string (ob v k)) lf29 (λw _ _=>fw v k w hn hv) next h hw hk0 ha hk
def w_{KS:List Int}{cv:Array Value}{s:ByteArray}(hKl:KS.length=64)(hKw:lB KS)(hC:sY KS cv W)(next:Gx (aI true prog) ops W N n df Q (m+1) ((d, .string ⟨(iu KS s.data.toList).toArray⟩)::F) M)(h:Is ops m d (.call {callee:= .value (.func 12),args:=xs,argTypes:=ats}) gd:=by rfl)(hw:gV ops F gd=some true:=by rfl)(hk0:A5 ops (Z8 ops n m) gd=true:=by kernel_rfl)(ha:PU F xs.toList=some [.agg cv, .string s]:=by rfl)(hk:xs.toList.all (GR (Z8 ops n m))=true:=by kernel_rfl)(hs:s.size<=281474976710400:=by first|omega|(simp only[ByteArray.size_append,et];omega)):Gx (aI true prog) ops W N n df Q m F M:=
 p_ lf12 (λw h _=>pR KS hKl hKw cv s w (hC.mono h) hs) next h hw hk0 ha hk
end
def UC:f31.body=some (.seq (rG f31 0) (.seq (rD f31 1) .ret)):=k_
def Az(h:KS.length=64)(g:lB KS)(id d c)(q:Nat)(hq:q<9223372036854775808)(j:id.size+6+d.size+c.size<=281474976710400)(w)(i:sY KS cv w):
 Calls lT 31 #[.agg cv, .s id, .i q, .s d, .s c] w λe w'=>e= .returned (.s (kH KS [id,ob q 4,ob 33153 2,d,c]))/\Bw w w':=by
 rw[BP];refine eK lf31 UC λn a b=> ?_;refine Rn.zz b λl a f m _ b=> ?_;refine Rn.uu b λa b=> ?_
 iterate 2 refine Rn.p rfl ?_
 refine Rn.gt b ?_
 iterate 3 refine n_ ?_
 refine v_ q 4 ?_;refine n_ ?_;refine v_ 33153 2 ?_
 iterate 5 refine n_ ?_
 refine w_ h g (i.mono f) ?_;refine n_ ?_;exact q_ λa w' b k _=>Rn.fi b ⟨rfl,aD f f.size k⟩
def Uz:f65.body=some (.seq (rG f65 0) (.seq (rD f65 1) .ret)):=k_
def wP(h:KS.length=64)(g:lB KS)(id d c)(q:Nat)(hq:q<9223372036854775808)(j:id.size+6+d.size+c.size<=281474976710400)(w)(i:sY KS cv w):
 Calls lT 65 #[.agg cv, .s id, .i q, .s d, .s c] w λe w'=>e= .returned (.s (kH KS [id,ob q 4,ob 33667 2,d,c]))/\Bw w w':=by
 rw[BP];refine eK lf65 Uz λn a b=> ?_;refine Rn.zz b λl a f m _ b=> ?_;refine Rn.uu b λa b=> ?_
 iterate 2 refine Rn.p rfl ?_
 refine Rn.gt b ?_
 iterate 3 refine n_ ?_
 refine v_ q 4 ?_;refine n_ ?_;refine v_ 33667 2 ?_
 iterate 5 refine n_ ?_
 refine w_ h g (i.mono f) ?_;refine n_ ?_;exact q_ λa w' b k _=>Rn.fi b ⟨rfl,aD f f.size k⟩
def UA:f64.body=some (.seq (rG f64 0) (.seq (rD f64 1) (.seq (rD f64 2) .ret))):=k_
def Me(l:KS.length=64)(j:lB KS)(id en)(q h wd n sh:Nat)(t c)(F:h<=8)(hq:q<4294967296)(B:id.size+100+en.size<=140737488355328)(w)(C:sY KS cv w):
 Calls lT 64 #[.agg cv, .agg (cp t c h wd n sh), .s id, .i q, .s en] w λe w'=>e= .returned (.s (kH KS [id,ob (2^h+q) 4,ob 33410 2,kH KS [id,ob q 4,ob 32896 2,en]]))/\Bw w w':=by
 obtain⟨H,u⟩:∃H,H=2^h:=s_;have G:H<=256:=u▸as8 (Q5 d_ F) d_;have A:(1:Int)*2^h=(H:Int):=by simp_all
 rw[←u,BO KS id (ob (H+q) 4)];have E:=kG KS [id,ob q 4,ob 32896 2,en];rw[BO]at E⊢;refine eK lf64 UA λM a b=> ?_;refine Rn.zz b λL a i p _ b=> ?_;refine Rn.zz b λK a g D _ b=> ?_;have p:=bk g p;have f:=aD i i.size g;refine Rn.uu b λa b=> ?_
 iterate 2 refine Rn.p rfl ?_
 refine Rn.gt b ?_
 iterate 3 refine n_ ?_
 refine v_ q 4 ?_;refine n_ ?_;refine v_ 32896 2 ?_
 iterate 3 refine n_ ?_
 refine w_ l j (C.mono f) ?_;refine n_ ?_;refine q_ λa J b d _=> ?_;have p:=bk d p;have D:=bk d D;have f:=aD f f.size d;refine Rn.p rfl (Rn.gt b ?_)
 iterate 4 refine n_ ?_
 refine n_ ?_ (y:=λo a w r z=>(m8 r rfl gx o_ (by rw[A];omega)).trans (by rw[A]));refine n_ ?_;refine n_ ?_;refine v_ (H+q) 4 ?_;refine n_ ?_;refine v_ 33410 2 ?_
 iterate 3 refine n_ ?_
 refine w_ l j (C.mono f) ?_;refine n_ ?_;exact q_ λa I b s _=>Rn.fi b ⟨rfl,aD f f.size s⟩
def EV(f:Func):Code:= .seq (.seq (rG f 2) (.cond (.tmp 19) .skip (.exit 0))) (.seq (.block 1 (rD f 4)) (rG f 3))
def UB:f32.body=some (.seq (rG f32 0) (.seq (.seq (rG f32 1) (.block 0 (.loop (EV f32)))) (.seq (rG f32 5) .ret))):=k_
def Z9(KS:List Int)(id:ByteArray)(q i:Nat):Nat->Nat->ByteArray->ByteArray
 |0,_,y=>y
 |n+1,j,y=>Z9 KS id q i n (j+1) ⟨(iu KS (id++ob q 4++ob i 2++ob j 1++y).data.toList).toArray⟩
def Ph(l:KS.length=64)(k:lB KS){id}{q f}(hq:q<4294967296)(z:i<65536)(t:f<65536)(x:id.size<=1000)(n:sY KS cv w0)(c:w0.heap[b7]?=some (.cells cv 26)){Y}
 (next:∀a w,Bw w0 w->Has [(6, .s Y)] 37 [] a->Rn lT Goal (fr.atR a K) cs w):
 ∀(m j:Nat) y a w,f- j=m->j<=65535->y.size=32->Z9 KS id q i m j y=Y->Bw w0 w->Has [(1, .s id),(2, .i q),(3, .i i),(5, .i f),(6, .s y),(7, .pt b7),(15, .i j)] 37 [] a->
  Rn lT Goal (fr.atR a (.code (EV f32):: .inLoop (EV f32):: .inBlock 0::K)) cs w:=by
 intro m;induction m with
 |zero=>
  intro j y a w u v s e d b
  iterate 3 refine Rn.uu b λa b=> ?_
  refine Rn.p rfl (Rn.cond _ (b.G 19) ?_);rw[decide_eq_false o_];have e:=e;exact Rn.p rfl (next a w d (b.only ⟨by rw[←e];rfl,trivial⟩))
 |succ m r=>
  intro j y a w u v s e d b
  iterate 3 refine Rn.uu b λa b=> ?_
  refine Rn.p rfl (Rn.cond _ (b.G 19) ?_);rw[decide_eq_true o_];refine Rn.p rfl (Rn.p rfl (Rn.p rfl ?_));have c:=bk d c;refine Rn.gu 14 b ?_
  iterate 3 refine n_ ?_
  refine v_ q 4 ?_
  iterate 2 refine n_ ?_
  refine v_ i 2 ?_
  iterate 2 refine n_ ?_
  refine v_ j 1 ?_
  iterate 3 refine n_ ?_
  refine w_ l k (n.mono d) ?_;refine q_ λa p b h _ o g=>Rn.uu b λa b=>g _ _ ?_
  iterate 3 refine Rn.uu b λa b=> ?_
  refine Rn.p rfl (Rn.p rfl (r (j+1) _ a p o_ o_ (wn KS _) e (aD d d.size h) (b.only ⟨rfl,rfl,rfl,rfl,rfl,rfl, ?_,trivial⟩)));simp_all
def SB(k:KS.length=64)(h:lB KS)(id y)(q i j d:Nat)(hq:q<4294967296)(n:i<65536)(t:j<65536)(f:d<65536)(g:id.size<=1000)(m:y.size=32)(w)(o:sY KS cv w):
 Calls lT 32 #[.agg cv, .s id, .i q, .i i, .i j, .i d, .s y] w λe w'=>e= .returned (.s (Z9 KS id q i (d- j) j y))/\Bw w w':=by
 refine eK lf32 UB λu a b=> ?_;refine Rn.zz b λl a c r _ b=> ?_
 iterate 3 refine Rn.uu b λa b=> ?_
 refine Rn.p rfl (Rn.p rfl (Rn.p rfl ?_));refine Ph k h hq n f g (o.mono c) r (λa s p b=> ?_) (d- j) j y a l rfl o_ m rfl (bR) b.O
 iterate 2 refine Rn.uu b λa b=> ?_
 exact Rn.fi b ⟨rfl,aD c c.size p⟩
def Tr{b}{H2}(g:H2=2^wd)(h:0<H2)(r:vy wd)(q:i/(8/wd)<b.size)(s:i<1000000)(d:0<8/wd)(f:wd<=8)(u:H2<=256)(l:dH wd=H2- 1)(e:i%(8/wd)*wd<=8- wd)(x:(b.data.toList.getD (i/(8/wd)) 0).toNat<256)
 (j:Has [(0, .s b),(1, .i i),(2, .i wd),(7, .i ((8/wd:Nat):Int))] 29 [] a)
 (next:∀a w',(Bw w w'/\Has [(6, .i (dP b.data.toList wd i)),(0, .s b),(1, .i i),(2, .i wd),(7, .i ((8/wd:Nat):Int))] 29 [] a)->Rn lT Goal (fr.atR a K) cs w'):
 Rn lT Goal (fr.atR a (.code (rD f66 2)::K)) cs w:=by
 have p:(1:Int)*2^wd=(H2:Int):=by simp_all
 refine Rn.gt j ?_
 iterate 3 refine n_ ?_
 refine n_ ?_ (y:=λo a w c z=>Ao c gx gx d o_);refine n_ ?_ (y:=λo a w c z=>(C2 c gx gx q).trans (by rw[I4 b _ q]));refine n_ ?_ (y:=λo a w c z=>Gz c gx);refine n_ ?_;refine n_ ?_ (y:=λo a w c z=>u9 (m:=8) c rfl gx f d_)
 iterate 2 refine n_ ?_
 refine n_ ?_;refine n_ ?_;refine n_ ?_;refine n_ ?_ (y:=λo a w c z=>u9 c gx gx e o_);refine n_ ?_ (v:= .i (((b.data.toList.getD (i/(8/wd)) 0).toNat/2^(8- wd- i%(8/wd)*wd):Nat):Int)) (y:=λo a w c z=>(sb c gx gx o_).trans (by simp_all));refine n_ ?_;refine n_ ?_ (y:=λo a w c z=>(m8 (m:=1) (k:=wd) c rfl gx o_ (by rw[p];omega)).trans (by rw[p]));refine n_ ?_ (v:= .i (dH wd)) (y:=λo a w c z=>l▸u9 (n:=1) c gx rfl h o_);refine n_ ?_ (v:= .i (dP b.data.toList wd i)) (y:=λo a w c z=>(ma c gx gx).trans (by rw[Ie _ wd (ZG (au1 _ _) o_) r];rfl));refine n_ ?_;exact q_ λa w' j t _=>next a w' ⟨t,j.O⟩
def Uv:f66.body=some (.seq (rG f66 0) (.seq (rG f66 1) (.seq (rD f66 2) .ret))):=k_
def zB(b)(i wd)(d:vy wd)(k:i/(8/wd)<b.size)(h:i<1000000)(w):
 Calls lT 66 #[.s b, .i i, .i wd] w λe w'=>e= .returned (.i (dP b.data.toList wd i))/\Bw w w':=by
 have f:0<8/wd:=by rcases d with rfl|rfl|rfl<;>decide
 have g:i%(8/wd)*wd<=8- wd:=by rcases d with rfl|rfl|rfl<;>simp<;>omega
 refine eK lf66 Uv λn a c=> ?_
 iterate 2 refine Rn.uu c λa c=> ?_
 refine Rn.vv c (λo j=>Ao (m:=8) j rfl (c.G 8) (by simp_all) d_) λa c=> ?_;refine Rn.uu c λa c=> ?_;refine Rn.p rfl (Rn.p rfl ?_);refine Tr rfl (aD7 wd) d k h f (by simp_all) (by rcases d with rfl|rfl|rfl<;>decide) rfl g (b.data.toList.getD (i/(8/wd)) 0).toNat_lt c.O λa w' ⟨l,c⟩=> ?_;exact Rn.fi c ⟨rfl,l⟩
def K3(f:Func):Code:= .seq (.seq (rG f 4) (.cond (.tmp 21) .skip (.exit 0))) (.seq (.block 1 (.seq (rG f 6) (rG f 7))) (rG f 5))
def Tm(f:Func):Code:= .seq (.seq (rG f 11) (.cond (.tmp 44) .skip (.exit 2))) (.seq (.block 3 (.seq (rG f 13) (rG f 14))) (rG f 12))
def UD:f30.body=some (.seq (rG f30 0) (.seq (rG f30 1) (.seq (rG f30 2) (.seq (.seq (rG f30 3) (.block 0 (.loop (K3 f30))))
 (.seq (rG f30 8) (.seq (rG f30 9) (.seq (.seq (rG f30 10) (.block 2 (.loop (Tm f30)))) (.seq (rG f30 15) .ret)))))))):=rfl
section
variable{Q:ByteArray}{t:Int}{h sh:Nat}
def K2(k:vy wd)(E:Q.size=32)(next:∀a w,Bw w0 w->Has [(1, .s Q),(2, .pt N),(6, .i (fD Q.data.toList wd (256/wd)))] 57 [] a->Rn lT Goal (fr.atR a K) cs w)(j:w0.heap[N]?=some (.cells (cp t c h wd n sh) 29)):
 ∀m i a w,256/wd- i=m->i<=256/wd->Bw w0 w->Has [(1, .s Q),(2, .pt N),(5, .i (dH wd)),(6, .i (fD Q.data.toList wd i)),(7, .i i)] 57 [] a->
  Rn lT Goal (fr.atR a (.code (K3 f30):: .inLoop (K3 f30):: .inBlock 0::K)) cs w:=by
 have f:=(gA j).1;have l:0<wd:=by rcases k with rfl|rfl|rfl<;>decide
 have x:=qQ k;have y:256/wd<=128:=by rcases k with rfl|rfl|rfl<;>decide
 have d:∀i a w (R:List Nat),i<=256/wd->Bw w0 w->Has [(1, .s Q),(2, .pt N),(5, .i (dH wd)),(6, .i (fD Q.data.toList wd i)),(7, .i i)] 57 [] a->
  (∀a,Has [(21, .bool (decide ((i:Int)<((256/wd:Nat):Int)))),(1, .s Q),(2, .pt N),(5, .i (dH wd)),(6, .i (fD Q.data.toList wd i)),(7, .i i)] 57 [] a->Rn lT Goal (fr.atR a (.code (.cond (.tmp 21) .skip (.exit 0)):: .code (.seq (.block 1 (.seq (rG f30 6) (rG f30 7))) (rG f30 5)):: .inLoop (K3 f30):: .inBlock 0::K)) cs w)->
  Rn lT Goal (fr.atR a (.code (K3 f30):: .inLoop (K3 f30):: .inBlock 0::K)) cs w:=by
  intro i a w _ r e b g;have p:=(e.block N f).trans j
  iterate 3 refine Rn.uu b λa b=> ?_
  refine Rn.vv b (λo B=>Ao (m:=256) B rfl (b.G 19) l d_) λa b=> ?_;refine Rn.uu b λa b=> ?_;exact Rn.p rfl (g a b.O)
 intro m;induction m with
 |zero=>
  intro i a w C r e b;have u:i=256/wd:=o_
  refine d i a w [] r e b λa b=>Rn.cond _ (b.G 21) ?_;rw[decide_eq_false o_];exact Rn.p rfl (next a w e (b.only ⟨rfl,rfl,by rw[←u];rfl,trivial⟩))
 |succ m A=>
  intro i a w C r e b;have s:i<256/wd:=o_
  refine d i a w [] r e b λa b=>Rn.cond _ (b.G 21) ?_;rw[decide_eq_true o_];have p:=(e.block N f).trans j;have F:=rO Q.data.toList k i;have D:=sP Q.data.toList wd i;have q:i/(8/wd)<Q.size:=by rw[E];rcases k with rfl|rfl|rfl<;>simp at s⊢<;>omega
  refine Rn.uu b λa b=> ?_
  iterate 3 refine Rn.uu b λa b=> ?_
  refine Rn.cw b lf66 ((zB Q i wd k q o_ w)) λz v a b=> ?_
  iterate 6 refine Rn.uu b λa b=> ?_
  rw[show(fD Q.data.toList wd i:Int)+(dH wd:Int)-(dP Q.data.toList wd i:Int)=((fD Q.data.toList wd (i+1):Nat):Int)from by simp[fD];omega]at b
  iterate 4 refine Rn.uu b λa b=> ?_
  refine Rn.p rfl (Rn.p rfl (A (i+1) a z o_ o_ (aD e e.size v) (b.only ⟨rfl,rfl,rfl,rfl, ?_,trivial⟩)));simp_all
def K1{al}(T:vy wd)(a0:al.size=34)(hn:n<=34*(8/wd))
 (next:∀a w v,Bw w0 w->w.ownsRow w0.heap.size 3 1 v n (nh al wd n)->Has [(10,v)] 57 [] a->Rn lT Goal (fr.atR a K) cs w):
 ∀m i v a w,n- i=m->i<=n->Bw w0 w->w.heap[N]?=some (.cells (cp t c h wd n sh) 29)->w.ownsRow w0.heap.size 3 1 v i (nh al wd i)->Has [(2, .pt N),(9, .s al),(10,v),(11, .i i)] 57 [] a->
  Rn lT Goal (fr.atR a (.code (Tm f30):: .inLoop (Tm f30):: .inBlock 2::K)) cs w:=by
 have D:8/wd<=4:=by rcases T with rfl|rfl|rfl<;>decide
 have W:=o_;intro m;induction m with
 |zero=>
  intro i v a w hm hi O r f b;have H:i=n:=o_
  subst H
  iterate 4 refine Rn.uu b λa b=> ?_
  refine Rn.p rfl (Rn.cond _ (b.G 44) ?_);rw[decide_eq_false o_];exact Rn.p rfl (next a w v O f b.O)
 |succ m ih=>
  intro i v a w hm hi O r f b;have H:i<n:=o_
  have J:i/(8/wd)<al.size:=by rw[a0];rcases T with rfl|rfl|rfl<;>simp at hn⊢<;>omega
  iterate 4 refine Rn.uu b λa b=> ?_
  refine Rn.p rfl (Rn.cond _ (b.G 44) ?_);rw[decide_eq_true o_];refine Rn.uu b λa b=> ?_
  iterate 3 refine Rn.uu b λa b=> ?_
  refine Rn.cw b lf66 ((zB al i wd T J o_ w)) λx s a b=> ?_;have G:=(s.block N (gA r).1).trans r;have l:=jC f λk r=>s.block k (f.lt k r).2;have M:=aD O O.size s;clear r f O s
  iterate 3 refine Rn.uu b λa b=> ?_
  refine Rn.vv b (λo E=>Lo E (b.G 53)) λa b=> ?_;have A:=aR x (.cells #[.i (dP al.data.toList wd i)] 3);have z:=(A.block N (gA G).1).trans G;have g:=jC l λk r=>A.block k (l.lt k r).2;have B:=aD M M.size A;have⟨ti,U,hz,V,Z⟩:=CM;have L:=λty=>run_append_own (x.alloc (.cells #[.i (dP al.data.toList wd i)] 3)) w0.heap.size 24 ty 3 ti (.i 0) 1 8 k_ U hz V Z rfl d_ v i _ g ⟨x.heap.size,0,none⟩ 1 1 [.i (dP al.data.toList wd i)] rfl
   (λj u hj=>by have Y:j=0:=(by grind);subst Y;cases hj;rw[rC,aH (aY x (.cells #[.i (dP al.data.toList wd i)] 3))];rfl) (λu hu=>by simp at hu;subst hu;rfl) (by simp[maxLen];omega) o_ B.size
  cases E:(bP f30 14)[3]? with
  |none=>exact absurd E (by simp;decide)
  |some o=>
  have⟨e1,e2,e3⟩:=cL (d:=some 55) (p:= .call {callee:= .builtin .append,args:=#[.tmp 52, .tmp 54],argTypes:=#[24,24]}) E k_;have⟨Q,S,C,y,I,_⟩:=L o.type;have hr:(execOp a.eval o).run lT (x.alloc (.cells #[.i (dP al.data.toList wd i)] 3))= .ok (.value Q) S:=by simp[execOp,e2,resolve,(b.G 52),(b.G 54),invoke,builtin,C]
  refine Rn.ran E (e3 _) (by rw[e2];simp) hr ?_;rw[e1];have b:=b.put (d:=55) d_ Q;revert b;generalize a.put (some 55) Q=a;intro b;have q2:=nY g z (by simp_all);have a1:=uR B I (λk r=>(g.lt k r).1) B.size
  iterate 4 refine Rn.uu b λa b=> ?_
  refine Rn.p rfl (Rn.p rfl (ih (i+1) Q a S o_ o_ a1 ((I.block N (gA z).1 q2).trans z) ?_ (b.only ⟨rfl,rfl,rfl, ?_,trivial⟩)))
  .have e:nh al wd (i+1)=nh al wd i++[.i (dP al.data.toList wd i)]:=(by simp[nh,av2]);simp_all
  simp_all
end
def PP(Q:ByteArray)(t c:Int)(h wd n sh:Nat)(w:World)(q:vy wd)(D:sh<=8)(Z:1<=n)(E:n<=34*(8/wd))(F:Q.size=32):
 Calls lT 30 #[.agg (cp t c h wd n sh), .s Q] w λe w'=>∃v,e= .returned v/\lE n (λc=>dP (ll Q.data.toList wd sh) wd c) v w'/\Bw w w':=by
 refine eK (N:=57) lf30 UD λcs a b=>Rn.zz b λO a f z _ b=> ?_;have I:2^wd<=256:=by rcases q with rfl|rfl|rfl<;>decide
 have P:wd<=8:=by rcases q with rfl|rfl|rfl<;>decide
 obtain⟨r,i⟩:∃r,r=2^wd:=s_;have S:(1:Int)*2^wd=(r:Int):=by simp_all
 have a2:dH wd=r- 1:=by rw[i];rfl
 have a1:0<r:=by grind
 rw[←i]at I
 iterate 3 refine Rn.uu b λa b=> ?_
 refine Rn.vv b (λo u=>m8 (m:=1) (k:=wd) u rfl (b.G 14) o_ (by rw[S];omega)) λa b=> ?_;rw[S]at b;refine Rn.uu b λa b=> ?_;rw[show(r:Int)- 1=(dH wd:Int)from o_]at b
 iterate 3 refine Rn.uu b λa b=> ?_
 refine Rn.p rfl (Rn.p rfl (Rn.p rfl ?_));refine K2 (w0:=O) (N:=w.heap.size) q F (λa B p b=> ?_) z (256/wd) 0 a O rfl s_ (bR) b.O;have y:=bk p z;have hS:=rO Q.data.toList q (256/wd);have V:256/wd<=128:=by rcases q with rfl|rfl|rfl<;>decide
 have J:2^sh<=256:=as8 (Q5 d_ D) d_;have T:fD Q.data.toList wd (256/wd)*2^sh<=32640*256:=Nat.mul_le_mul o_ J;have d:(fD Q.data.toList wd (256/wd):Int)*2^sh=((fD Q.data.toList wd (256/wd)*2^sh:Nat):Int):=by simp_all
 iterate 4 refine Rn.uu b λa b=> ?_
 refine Rn.vv b (λo u=>m8 (k:=sh) u (b.G 35) (b.G 37) o_ (by rw[d];omega)) λa b=> ?_;rw[d]at b;refine Rn.cl b lf29 (R:=λv w'=>v= .s (ob (fD Q.data.toList wd (256/wd)*2^sh) 2)/\Bw B w') ((fw _ 2 B d_ o_).mono λe w' h=>⟨_,h.1,rfl,h.2⟩) λv M X a b=> ?_;obtain⟨rfl,A⟩:=X;refine Rn.vv b (λo u=>rV u (b.G 34) (b.G 39) (by rw[F,et];decide)) λa b=> ?_;refine Rn.uu b λa b=> ?_;have H:Bw w M:=aD (aD f f.size p) (aD f f.size p).size A;have x:=bk A y
 iterate 2 refine Rn.uu b λa b=> ?_
 refine Rn.p rfl (Rn.p rfl (Rn.p rfl ?_));have C:(Q++ob (fD Q.data.toList wd (256/wd)*2^sh) 2).size=34:=by rw[ax3,F,et]
 have l:(Q++ob (fD Q.data.toList wd (256/wd)*2^sh) 2).data.toList=ll Q.data.toList wd sh:=by simp[ll,ob]
 refine K1 (w0:=w) (N:=w.heap.size) (al:=Q++ob (fD Q.data.toList wd (256/wd)*2^sh) 2) q C E (λa w4 v G s b=> ?_) n 0 (.slice none 0 0) a M rfl (aB0 _) H x (World.ownsRow_nil _ _ _ _) b.O
 iterate 2 refine Rn.uu b λa b=> ?_
 refine Rn.p rfl (Rn.ends rfl (.inr ⟨_,rfl⟩) (Rn.now ⟨a,_,v,rfl,b.defers,b.slot 4 _ rfl,v,rfl, ?_,G⟩));rcases s.2 with⟨_,h0⟩|⟨g,L,K,rfl,_,U,Y,_,a0,j⟩
 .omega
 refine⟨g,L,rfl,(gA U).1,λc hc=> ?_⟩;rw[aH U];have W:(K.toList.take (n*1))[c]?=(nh (Q++ob (fD Q.data.toList wd (256/wd)*2^sh) 2) wd n)[c]?:=by rw[j]
 rw[List.getElem?_take_of_lt o_]at W;rw[←Array.getElem?_toList,W,←l];simp[nh,hc]
def Q7(k:KS.length=64)(j:lB KS){id salt p path Qb}{q m h sh}{t}(d:Qb=kH KS [id,ob q 4,ob 33153 2,salt,msg])(s:vy wd)(e:sh<=8)(g:1<=n)(f:n<=34*(8/wd))(hq:q<4294967296)(b:id.size+6+salt.size+msg.size<=281474976710400)(B:sY KS cv w)(r:w.heap[m]?=some (.cells cv 26))(x:w.heap[b9]?=some (.cells (cp t c h wd n sh) 29))
 (l:Has [(2, .s id),(3, .i q),(4, .s salt),(5, .s msg),(6, .s p),(7, .s path),(8, .pt m),(9, .pt b9)] 106 [] a)
 (next:∀a w',(Bw w w'/\∃v,lE n (λc=>dP (ll Qb.data.toList wd sh) wd c) v w'/\Has [(17,v),(2, .s id),(3, .i q),(4, .s salt),(5, .s msg),(6, .s p),(7, .s path),(8, .pt m),(9, .pt b9)] 106 [] a)->Rn lT Goal (fr.atR a K) cs w'):
 Rn lT Goal (fr.atR a (.code (rD f38 1)::K)) cs w:=by
 refine Rn.gt l ?_
 iterate 6 refine n_ ?_
 refine p_ lf31 (λw i _=>d▸Az k j id salt msg q o_ b w (B.mono i)) ?_;refine t_ [.inr (lE n λc=>dP (ll Qb.data.toList wd sh) wd c), .inr (lE n λc=>dP (ll Qb.data.toList wd sh) wd c)] ?_;refine b_ (λ_ _ _=>lE.mono) lf30 (λw _ _=>PP Qb t c h wd n sh w s e g f (d▸kG _ _)) λv=> ?_;exact z_ (λ_ _ _=>lE.mono) (λv=>y_ λa w' l i A=>next a w' ⟨i,v,A.1 rfl,l.only ⟨rfl,rfl,rfl,rfl,rfl,rfl,rfl,rfl,rfl,trivial⟩⟩) (y:=λo a w u z=>⟨v,w,XE u gx,z.m.1 k_,bR⟩)
def Q6(A:KS.length=64)(x:lB KS){id g path en Yn}{q d f cap F h sh H2}{t}(u:Yn=Z9 KS id q i (dH wd- d) d (g.extract (32*i) (32*i+32)))(B:H2=2^wd)(C:0<H2)(O:H2<=256)(G:wd<=8)(E:dH wd=H2- 1)(l:i<n)(P:n<=1000)(L:d<256)(j:32*i+32<=g.size)(p:id.size<=1000)(hq:q<4294967296)(r:f<w.heap.size)(M:w.cell? ⟨f,i,none⟩=some (.i (d:Int)))(N:sY KS cv w)(I:w.heap[F]?=some (.cells cv 26))(J:w.heap[b9]?=some (.cells (cp t c h wd n sh) 29))
 (D:Has [(2, .s id),(3, .i q),(6, .s g),(8, .pt F),(9, .pt b9),(17, .sk f n cap),(19, .i i),(18, .s en),(7, .s path)] 106 [] a)
 (next:∀a w',(Bw w w'/\Has [(20, .s Yn),(2, .s id),(3, .i q),(6, .s g),(8, .pt F),(9, .pt b9),(17, .sk f n cap),(19, .i i),(18, .s en),(7, .s path)] 106 [] a)->Rn lT Goal (fr.atR a K) cs w'):
 Rn lT Goal (fr.atR a (.code (rD f38 6)::K)) cs w:=by
 have H:(1:Int)*2^wd=(H2:Int):=by simp_all
 refine Rn.gt D ?_
 iterate 6 refine n_ ?_
 refine n_ ?_ (y:=λo a w b z=>(dI (e:=3) k_ s_ b gx gx l).1.trans (by rw[rC,as5]));refine n_ ?_ (y:=λo a w b z=>(aO bH b gx ((aD_ (z.b.block f r)).trans M)).1)
 iterate 2 refine n_ ?_
 refine n_ ?_ (y:=λo a w b z=>(m8 b rfl gx o_ (by rw[H];omega)).trans (by rw[H]));refine n_ ?_ (y:=λo a w b z=>E▸u9 b gx rfl C o_)
 iterate 2 refine n_ ?_
 refine n_ ?_;refine n_ ?_;refine n_ ?_ (y:=λo a w b z=>rY (m:=32) b rfl gx o_);refine n_ ?_;refine n_ ?_ (y:=λo a w b z=>(eC (m:=32*i) (n:=32*i+32) b gx gx gx o_ j).1);refine p_ lf32 (λw s _=>u▸SB A x id _ q i d (dH wd) hq o_ o_ o_ p (by simp_all) w (N.mono s)) ?_;refine n_ ?_;exact q_ λa w' D s _=>next a w' ⟨s,D.O⟩
def K7(KS:List Int)(id ys:ByteArray)(q tp:Nat)(dg:Nat->Nat):Nat->ByteArray
 |0=>⟨#[]⟩
 |i+1=>K7 KS id ys q tp dg i++Z9 KS id q i (tp- dg i) (dg i) (ys.extract (32*i) (32*i+32))
def lQ(KS:List Int)(id path:ByteArray)(lf:Nat)(x:ByteArray):Nat->ByteArray
 |0=>x
 |i+1=>NQ KS id (gN lf i) (path.extract (32*i) (32*i+32)) (lQ KS id path lf x i)
def xl(KS)(id)(q i):∀m j y,y.size=32->(Z9 KS id q i m j y).size=32
 |0,_,_,h=>h
 |m+1,j,_,_=>xl KS id q i m (j+1) _ (wn KS _)
def xq(KS)(id a)(q b)(dg):∀i,32*i<=a.size->(K7 KS id a q b dg i).size=32*i
 |0,_=>rfl
 |i+1,h=>by have d:=xl KS id q i (b- dg i) (dg i) (a.extract (32*i) (32*i+32)) (by rw[as6];omega);rw[K7,ax3,(xq KS id a q b dg i o_),d];omega
def EJ(KS)(id path)(lf)(x)(a:x.size=32):∀i,(lQ KS id path lf x i).size=32
 |0=>a
 |_+1=>kG _ _
def Fx(f:Func):Code:= .seq (.seq (rG f 4) (.cond (.tmp 36) .skip (.exit 0))) (.seq (.block 1 (.seq (rD f 6) (rG f 7))) (rG f 5))
def O3(f:Func):Code:= .seq (.seq (rG f 11) (.cond (.tmp 76) .skip (.exit 2))) (.seq (.block 3 (.seq (rG f 13) (.seq (.seq (rG f 14) (.cond (.tmp 88) (rG f 15) (rG f 16))) (rG f 17)))) (rG f 12))
def UF:f38.body=some (.seq (rG f38 0) (.seq (rD f38 1) (.seq (rG f38 2) (.seq (.seq (rG f38 3) (.block 0 (.loop (Fx f38))))
 (.seq (rG f38 8) (.seq (rG f38 9) (.seq (.seq (rG f38 10) (.block 2 (.loop (O3 f38)))) (.seq (rG f38 18) .ret)))))))):=k_
section
variable(hKl:KS.length=64)(hKw:lB KS){id ys path:ByteArray}{q h sh gb cap b8:Nat}{t:Int}{dg:Nat->Nat}
 (hC:sY KS cv w0) (hbox:w0.heap[b8]?=some (.cells cv 26)) (hkd:w0.heap[b9]?=some (.cells (cp t c h wd n sh) 29)) (hid:id.size<=1000)
include hKl hKw hC hbox hkd hid
def K4(y:q<4294967296)(k:vy wd)(z:n<=1000)(x:32*n<=ys.size)(o:∀c,dg c<256)(j:gb<w0.heap.size)(l:∀c,c<n->w0.cell? ⟨gb,c,none⟩=some (.i (dg c)))
 (next:∀a w,Bw w0 w->Has [(18, .s (K7 KS id ys q (dH wd) dg n)),(2, .s id),(3, .i q),(7, .s path),(8, .pt b8),(9, .pt b9)] 106 [] a->Rn lT Goal (fr.atR a K) cs w):
 ∀m i a w,n- i=m->i<=n->Bw w0 w->Has [(2, .s id),(3, .i q),(6, .s ys),(8, .pt b8),(9, .pt b9),(17, .sk gb n cap),(19, .i i),(18, .s (K7 KS id ys q (dH wd) dg i)),(7, .s path)] 106 [] a->
  Rn lT Goal (fr.atR a (.code (Fx f38):: .inLoop (Fx f38):: .inBlock 0::K)) cs w:=by
 have s:=qQ k;have h:=(gA hbox).1;have g:=(gA hkd).1;intro m;induction m with
 |zero=>
  intro i a w A B e b;have f:i=n:=o_
  have t:=(e.block b9 g).trans hkd
  iterate 4 refine Rn.uu b λa b=> ?_
  refine Rn.p rfl (Rn.cond _ (b.G 36) ?_);rw[decide_eq_false o_];exact Rn.p rfl (next a w e (b.only ⟨by rw[←f];rfl,rfl,rfl,rfl,rfl,rfl,trivial⟩))
 |succ m v=>
  intro i a w A B e b;have f:i<n:=o_
  have t:=(e.block b9 g).trans hkd
  iterate 4 refine Rn.uu b λa b=> ?_
  refine Rn.p rfl (Rn.cond _ (b.G 36) ?_);rw[decide_eq_true o_];refine Rn.p rfl (Rn.p rfl (Rn.p rfl (Rn.p rfl ?_)));refine Q6 hKl hKw rfl rfl (aD7 wd) (by rcases k with rfl|rfl|rfl<;>decide) (by rcases k with rfl|rfl|rfl<;>decide) rfl f z (o i) o_ hid y (ar4 j e.size) ((aD_ (e.block gb j)).trans (l i f)) (hC.mono e) ((e.block b8 h).trans hbox) t (b.only ⟨rfl,rfl,rfl,rfl,rfl,rfl,rfl,rfl,rfl,trivial⟩) λa u ⟨r,b⟩=> ?_;have D:=xq KS id ys q (dH wd) dg i o_;have C:=xl KS id q i (dH wd- dg i) (dg i) (ys.extract (32*i) (32*i+32)) (by rw[as6];omega)
  iterate 7 refine Rn.uu b λa b=> ?_
  refine Rn.p rfl (Rn.p rfl (v (i+1) a u o_ o_ (aD e e.size r) (b.only ⟨rfl,rfl,rfl,rfl,rfl,rfl, ?_,rfl,rfl,trivial⟩)));simp_all
def O2{lf}{x}(B:x.size=32)(J:h<=8)(E:lf<9223372036854775808)(I:32*h<=path.size)
 (next:∀a w,Bw w0 w->Has [(21, .s (lQ KS id path lf x h))] 106 [] a->Rn lT Goal (fr.atR a K) cs w):
 ∀m i a w,h- i=m->i<=h->Bw w0 w->Has [(21, .s (lQ KS id path lf x i)),(22, .i (gN lf i)),(23, .i i),(2, .s id),(7, .s path),(8, .pt b8),(9, .pt b9)] 106 [] a->
  Rn lT Goal (fr.atR a (.code (O3 f38):: .inLoop (O3 f38):: .inBlock 2::K)) cs w:=by
 have l:=(gA hkd).1;intro m;induction m with
 |zero=>
  intro i a w D H g b;have r:i=h:=o_
  have G:=(g.block b9 l).trans hkd
  iterate 4 refine Rn.uu b λa b=> ?_
  refine Rn.p rfl (Rn.cond _ (b.G 76) ?_);rw[decide_eq_false o_];exact Rn.p rfl (next a w g (b.only ⟨by rw[←r];rfl,trivial⟩))
 |succ m z=>
  intro i a w D H g b;have r:i<h:=o_
  have G:=(g.block b9 l).trans hkd;have s:=(g.block b8 ((gA hbox).1)).trans hbox;have F:=sE lf i
  iterate 4 refine Rn.uu b λa b=> ?_
  refine Rn.p rfl (Rn.cond _ (b.G 76) ?_);rw[decide_eq_true o_];refine Rn.gr ?_;have u:(32:Int)*(i:Int)=((32*i:Nat):Int):=o_
  have t:((32*i:Nat):Int)+32=((32*i+32:Nat):Int):=o_
  iterate 3 refine Rn.uu b λa b=> ?_
  rw[u]at b
  iterate 2 refine Rn.uu b λa b=> ?_
  rw[u]at b;refine Rn.uu b λa b=> ?_;rw[t]at b
  iterate 2 refine Rn.uu b λa b=> ?_
  refine Rn.uu b λa b=> ?_;refine Rn.uu b λa b=> ?_;refine Rn.uu b λa b=> ?_;refine Rn.p rfl (Rn.cond _ (b.G 88) ?_);have C:(path.extract (32*i) (32*i+32)).size<=32:=by rw[as6];omega
  have A:=EJ KS id path lf x B i;have d:((gN lf i:Int)/2)=((gN lf i/2:Nat):Int):=o_
  have n:∀a j,Bw w j->Has [(21, .s (lQ KS id path lf x (i+1))),(22, .i (gN lf i)),(23, .i i),(2, .s id),(7, .s path),(8, .pt b8),(9, .pt b9)] 106 [] a->
   Rn lT Goal (fr.atR a (.code (rG f38 17):: .inBlock 3:: .code (rG f38 12):: .inLoop (O3 f38):: .inBlock 2::K)) cs j:=by
   intro a j c b;refine Rn.r rfl ?_;refine Rn.y b 103 22 rfl λa b=> ?_;refine Rn.vv b (λo f=>Aq f (b.G 103) rfl o_ o_) λa b=> ?_;rw[d]at b
   iterate 4 refine Rn.uu b λa b=> ?_
   refine Rn.p rfl (Rn.p rfl (z (i+1) a j o_ o_ (aD g g.size c) (b.only ⟨rfl,rfl, ?_,rfl,rfl,rfl,rfl,trivial⟩)));simp_all
  by_cases k:gN lf i%2=1
  .rw[show(((gN lf i:Int)%2)==1)=true from by grind];refine Rn.vv b (λo f=>s7 hC.two f (b.G 8) s) λa b=> ?_;refine Rn.y b 90 2 rfl λa b=> ?_;refine Rn.y b 91 22 rfl λa b=> ?_;refine Rn.vv b (λo f=>Aq f (b.G 91) rfl o_ o_) λa b=> ?_;rw[d]at b
   iterate 2 refine Rn.uu b λa b=> ?_
   refine Rn.cl b lf65 (R:=λv p=>v= .s (lQ KS id path lf x (i+1))/\Bw w p) ((wP hKl hKw id (path.extract (32*i) (32*i+32)) (lQ KS id path lf x i) (gN lf i/2) o_ o_ w (hC.mono g)).mono λe p h=>⟨_,h.1,by simp[lQ,NQ,k],h.2⟩) λv j y a b=> ?_;obtain⟨rfl,c⟩:=y;refine Rn.uu b λa b=> ?_;exact Rn.p rfl (n a j c b.O)
  .rw[show(((gN lf i:Int)%2)==1)=false from by grind];refine Rn.vv b (λo f=>s7 hC.two f (b.G 8) s) λa b=> ?_;refine Rn.y b 97 2 rfl λa b=> ?_;refine Rn.y b 98 22 rfl λa b=> ?_;refine Rn.vv b (λo f=>Aq f (b.G 98) rfl o_ o_) λa b=> ?_;rw[d]at b
   iterate 2 refine Rn.uu b λa b=> ?_
   refine Rn.cl b lf65 (R:=λv p=>v= .s (lQ KS id path lf x (i+1))/\Bw w p) ((wP hKl hKw id (lQ KS id path lf x i) (path.extract (32*i) (32*i+32)) (gN lf i/2) o_ o_ w (hC.mono g)).mono λe p h=>⟨_,h.1,by simp[lQ,NQ,k],h.2⟩) λv j y a b=> ?_;obtain⟨rfl,c⟩:=y;refine Rn.uu b λa b=> ?_;exact Rn.p rfl (n a j c b.O)
end
def xv(KS:List Int)(id salt msg ys path:ByteArray)(h wd sh n q:Nat):ByteArray:=
 lQ KS id path (2^h+q) (kH KS [id,ob (2^h+q) 4,ob 33410 2,kH KS [id,ob q 4,ob 32896 2,K7 KS id ys q (dH wd) (λc=>dP (ll (kH KS [id,ob q 4,ob 33153 2,salt,msg]).data.toList wd sh) wd c) n]]) h
def Kg(p:KS.length=64)(l:lB KS)(id salt msg z path)(t c)(h wd sh n q:Nat)(O:vy wd)(R:sh<=8)(U:1<=n)(D:n<=34*(8/wd))(V:h<=8)(hq:q<256)(F:id.size<=1000)(E:id.size+6+salt.size+msg.size<=281474976710400)(A:32*n<=z.size)(hp:32*h<=path.size)(w:World)(P:sY KS cv w):
 Calls lT 38 #[.agg cv, .agg (cp t c h wd n sh), .s id, .i q, .s salt, .s msg, .s z, .s path] w λe w'=>e= .returned (.s (xv KS id salt msg z path h wd sh n q))/\Bw w w':=by
 have C:8/wd<=4:=by rcases O with rfl|rfl|rfl<;>decide
 have T:n<=136:=o_;have a4:2^h<=256:=as8 (Q5 d_ V) d_;have a5:=qQ O;refine eK (N:=106) lf38 UF λcs a d=>Rn.gr ?_;refine Rn.z d 8 0 26 rfl λa d=> ?_;show Rn _ _ _ _ (w.alloc (.cells cv 26));refine Rn.z d 9 1 29 rfl λa d=> ?_;rw[aJ]at d;show Rn _ _ _ _ ((w.alloc (.cells cv 26)).alloc (.cells (cp t c h wd n sh) 29));have f:Bw w ((w.alloc (.cells cv 26)).alloc (.cells (cp t c h wd n sh) 29)):=aD (aR w _) (by simp_all) (aR _ _);have M:=(cV (w.alloc (.cells cv 26)) (.cells (cp t c h wd n sh) 29) (b:=w.heap.size) (by simp_all)).trans (aY w _);have y:=aY (w.alloc (.cells cv 26)) (.cells (cp t c h wd n sh) 29);rw[aJ]at y;revert f M y;generalize (w.alloc (.cells cv 26)).alloc (.cells (cp t c h wd n sh) 29)=w1;intro f M y;refine Rn.uu d λa d=> ?_;refine Rn.p rfl (Rn.p rfl ?_);refine Q7 (Qb:=kH KS [id,ob q 4,ob 33153 2,salt,msg]) p l rfl O R U D o_ E (P.mono f) M y (d.only ⟨rfl,rfl,rfl,rfl,rfl,rfl,rfl,rfl,trivial⟩) λa w2 ⟨j,vg,u,d⟩=> ?_;have r:Bw w w2:=aD f f.size j;have x:=bk j M;have v:=bk j y;clear M y f j;obtain⟨gb,a6,rfl,G,H⟩:=u
 iterate 2 refine Rn.uu d λa d=> ?_
 refine Rn.p rfl (Rn.p rfl (Rn.p rfl ?_));have Y:∀c,dP (ll (kH KS [id,ob q 4,ob 33153 2,salt,msg]).data.toList wd sh) wd c<256:=λc=>by have:=sP (ll (kH KS [id,ob q 4,ob 33153 2,salt,msg]).data.toList wd sh) wd c;omega
 refine K4 (dg:=λc=>dP (ll (kH KS [id,ob q 4,ob 33153 2,salt,msg]).data.toList wd sh) wd c) p l (P.mono r) x v F o_ O o_ A Y G H (λa w3 g d=> ?_) n 0 a w2 rfl o_ (bR) (d.only ⟨rfl,rfl,rfl,rfl,rfl,rfl,rfl,rfl,rfl,trivial⟩);have L:=bk g x;have a2:=bk g v;have J:=(P.mono r).mono g;have s:Bw w w3:=aD r r.size g;clear x v g H G;have W:=xq KS id z q (dH wd) (λc=>dP (ll (kH KS [id,ob q 4,ob 33153 2,salt,msg]).data.toList wd sh) wd c) n A;obtain⟨en,X⟩:∃en,en=K7 KS id z q (dH wd) (λc=>dP (ll (kH KS [id,ob q 4,ob 33153 2,salt,msg]).data.toList wd sh) wd c) n:=s_;unfold xv;rw[←X]at d W⊢;refine Rn.vv d (λo S=>s7 P.two S (d.G 8) L) λa d=> ?_;refine Rn.uu d λa d=> ?_
 iterate 3 refine Rn.uu d λa d=> ?_
 refine Rn.cw d lf64 ((Me p l id en q h wd n sh t c V o_ o_ w3 J)) λw4 i a d=> ?_;have a3:=bk i L;have a1:=bk i a2;have Z:=J.mono i;have K:Bw w w4:=aD s s.size i;refine Rn.uu d λa d=> ?_;refine Rn.gr ?_;obtain⟨Q,I⟩:∃Q,Q=2^h:=s_;have B:(1:Int)*2^h=(Q:Int):=by simp_all
 rw[←I]at d a4⊢
 iterate 2 refine Rn.uu d λa d=> ?_
 refine Rn.vv d (λo S=>m8 (m:=1) (k:=h) S rfl (d.G 69) o_ (by rw[B];omega)) λa d=> ?_;rw[B]at d
 iterate 2 refine Rn.uu d λa d=> ?_
 rw[←Int.natCast_add]at d
 iterate 2 refine Rn.uu d λa d=> ?_
 refine Rn.p rfl (Rn.p rfl (Rn.p rfl ?_));refine O2 (lf:=Q+q) p l Z a3 a1 F (kG _ _) V o_ hp (λa w5 a0 d=> ?_) h 0 a w4 rfl o_ (bR) d.O
 iterate 2 refine Rn.uu d λa d=> ?_
 exact Rn.fi d ⟨rfl,aD K K.size a0⟩
end L1
section
open Go
def ku{tmps}{g d:Nat}{a}(b:o.guard=some (g,a))(c:(ops[g]?).bind (·.dst)=some d)(hv:tmps[d]?=some (.bool q)):ar3 o (yielded ops tmps)=(q==a):=by unfold ar3 yielded;simp_all
end
namespace L1
open Go.Conc Go.RowKit
section
variable{y:Operand}
def AE(a:o.op= .alloc 29):(execOp ev o).run lT w= .ok (.value (.pk w.heap.size 0)) (w.alloc (.cells (cp 0 0 0 0 0 0) 29)):=by
 have e:execOp ev o=(do pure (.value (←aA7 29 true (.tuple #[])))):=by simp[execOp,a]
 have b:(do pure (.value (←aA7 29 true (.tuple #[]))):Sem Next).run lT w= .ok (.value (.pk w.heap.size 0)) (w.alloc (.cells (cp 0 0 0 0 0 0) 29)):=by rfl
 rw[e,b]
def OD{t}(a:o.op= .build 29 #[(0,x),(1,y)])(d:ev x= .i t)(b:ev y= .i c):(execOp ev o).run lT w= .ok (.value (.agg (cp t c 0 0 0 0))) w:=by simp[execOp,a,d,b];kernel_rfl
end
def AK:(lT.info? 29).map (·.size)=some 6:=rfl
def jo{b:Frame}{k}{r}(s:Has F N ds a)(d x j)(c)(z:d<N)(u:j<6){b4}{g}(t:F.lookup x=some (.pk b4 0))
 (D:(ops[m]?).map (λo=>(o.dst,o.op,o.guard))=some (some d, .fieldAddr 29 (.tmp x) j,none)) (C:(ops[r]?).map (λo=>(o.dst,o.op,o.guard))=some (none, .store 3 (.tmp d) (.const (.i c)),none)) (f:w.heap[b4]?=some (.cells g 29)) {v0} (h:g[j]?=some v0)
 (next:∀a' w',Has F N ds a'->w'.heap[b4]?=some (.cells (g.setIfInBounds j (.i c)) 29)->(∀M,M<=b4->Below M w w')->Rn lT Goal (b.atR a' (.inRegion ops rest::k)) cs w') (B:F.lookup d=none):Rn lT Goal (b.atR a (.inRegion ops (m::r::rest)::k)) cs w:=by
 refine Rn.op s d (.fieldAddr 29 (.tmp x) j) z D s_ (λo l=>mJ j u l (s.get t)) λa i=> ?_;refine Rn.does0 i (.store 3 (.tmp d) (.const (.i c))) C s_ (λo l=>(ff (b:=b4) (k:=j) rfl rfl k_ l (i.get s_) rfl (by rw[aH f];exact h) (by simp[If,f])).1) λa p=> ?_;refine next a _ (p.sub λe v y=> ?_) (kI f) λM A=>eJ w _ _ A
 grind
def i7(T:TypeId)(fin:Array Value)(N:Nat)(w w':World):Prop:=Below N w w'/\w'.heap[N+1]?=w.heap[N+1]?/\((∃cur,w.heap[N]?=some (.cells cur T)/\cur.size=6)->∃cur,w'.heap[N]?=some (.cells cur T)/\cur.size=6)/\(w.heap[N]?=some (.cells fin T)->w'.heap[N]?=some (.cells fin T))
def i7.refl{T}{fin}(w):i7 T fin N w w:=⟨bR,rfl,λh=>h,λh=>h⟩
def i7.trans{T}{fin}(w w' a)(h:i7 T fin N w w')(b:i7 T fin N w' a):i7 T fin N w a:=⟨h.1.trans b.1,b.2.1.trans h.2.1,λx=>b.2.2.1 (h.2.2.1 x),λx=>b.2.2.2 (h.2.2.2 x)⟩
def Xq(t c:Int)(h wd n sh N:Nat)(c1 c2:Bool):Nat->Value->World->Prop
 |0,v,_=>v= .agg (cp t c h wd n sh)
 |1,v,_=>v= .pk (N+1) 2
 |2,v,_=>v= .int .i64 h
 |3,v,_=>v= .bool c1
 |4,v,_=>v= .bool c1
 |5,v,_=>c1=true->v= .pk (N+1) 3
 |6,v,_=>c1=true->v= .int .i64 wd
 |7,v,_=>c1=true->v= .bool c2
 |8,v,_=>v= .bool (c1&&c2)
 |9,_,w=>w.heap[N]?=some (.cells (cp t c h wd n sh) 29)
 |_,v,_=>v= .bool (c1&&c2)
def My{t}{h wd sh}{c1 c2}(m)(v)(w w')(b:Xq t c h wd n sh N c1 c2 m v w)(a:i7 29 (cp t c h wd n sh) N w w'):Xq t c h wd n sh N c1 c2 m v w':=by
 match m,b with
 |0,h|1,h|2,h|3,h|4,h|5,h|6,h|7,h|8,h=>exact h
 |9,h=>exact a.2.2.2 h
 |_+10,h=>exact h
section
variable{t:Int}{h sh:Nat}{c1 c2:Bool}
def Ty(hc1:c1=decide ((h:Int)>0))(hc2:c2=decide ((wd:Int)>0))(hkd:w.heap[N+1]?=some (.cells (cp t c h wd n sh) 29))(hz:w.heap[N]?=some (.cells (cp 0 0 0 0 0 0) 29))(hF:Has [(4, .pt N),(6, .pt (N+1))] 41 [] a)
 (next:∀a w',Below N w w'->w'.heap[N]?=some (.cells (cp t c h wd n sh) 29)->Has [(5, .bool (c1&&c2)),(4, .pt N)] 41 [] a->Rn lT Goal ((base 27).atR a K) cs w'):
 Rn lT Goal ((base 27).atR a (.code (rD f27 19)::K)) cs w:=by
 refine Rn.growsX (fx:=[(4, .pt N),(6, .pt (N+1))]) (ds:=[some 32,some 33,some 34,some 35,some 36,some 37,some 38,some 39,some 40,none,some 5]) (N:=41) (df:=[]) (G:=Xq t c h wd n sh N c1 c2) (Rel:=i7 29 (cp t c h wd n sh) N) k_ k_
  ⟨fS w,rfl,λh=>h,λh=>h⟩ i7.trans My (λm o a w' hm ho hb' hsz hfx hne=> ?_) (λa w' hG=> ?_) hF.defers hF.size (hF.all s_)
 .have f4:=aB (hfx _ (mG (i:=0) rfl));have f6:=aB (hfx _ (mG (i:=1) rfl));have hkd':=hb'.2.1.trans hkd;obtain⟨cur,hcur,hcur6⟩:=hb'.2.2.1 ⟨_,hz,rfl⟩;have get:∀{m d:Nat},[some 32,some 33,some 34,some 35,some 36,some 37,some 38,some 39,some 40,none,some 5][m]?=some (some d)->ii (bP f27 19) _ m=true->∃v,a.tmps[d]?=some v/\Xq t c h wd n sh N c1 c2 m v w':=λ{m d} h1 h2=>by obtain⟨v,hv,hg⟩:=hne m (some d) h1 h2;simp_all
  have first:∀{o:Oper} {R:Value->World->Prop},o.guard=some (4,true)->a.tmps[36]?=some (.bool c1)->(c1=true->sX lT a o w' R)->(c1=false->R undef w')->Io lT (bP f27 19) a o w' R:=λ{o R} h1 h3 h4 h5=>by
   have hw:=ku (ops:=bP f27 19) (tmps:=a.tmps) (d:=36) h1 k_ h3;cases c1 with
   |true=>exact .inl (.inl ⟨hw,h4 rfl⟩)
   |false=>exact .inl (.inr ⟨hw,h5 rfl⟩)
  have gop:∀{m:Nat} {o:Oper} {d:Option Tmp} {p:Op} {g:Nat×Bool},(bP f27 19)[m]?=some o->((bP f27 19)[m]?).map (λo=>(o.dst,o.op,o.guard))=some (d,p,some g)->o.op=p/\o.guard=some g:=λ{m o d p g} ho hmap=>by simp_all
  have hlt:m<11:=hm;rcases(o_:m=0\/m=1\/m=2\/m=3\/m=4\/m=5\/m=6\/m=7\/m=8\/m=9\/m=10)with rfl|rfl|rfl|rfl|rfl|rfl|rfl|rfl|rfl|rfl|rfl
  .obtain⟨e1,e2,e3⟩:=oQ ho;exact jg e3 (tl e2 f6 hkd') ⟨rfl,i7.refl _⟩
  .obtain⟨e1,e2,e3⟩:=oQ ho;exact jg e3 (mJ 2 d_ e2 f6) ⟨rfl,i7.refl _⟩
  .obtain⟨e1,e2,e3⟩:=oQ ho;obtain⟨u,hu,rfl⟩:=get (m:=1) (d:=33) rfl k_;exact jg e3 (aO (v:= .i h) bH e2 (aB hu) ((aH hkd' 2).trans rfl)).1 ⟨rfl,i7.refl _⟩
  .obtain⟨e1,e2,e3⟩:=oQ ho;obtain⟨u,hu,rfl⟩:=get (m:=2) (d:=34) rfl k_;exact jg e3 (Lp e2 (aB hu) rfl) ⟨by rw[hc1];rfl,i7.refl _⟩
  .obtain⟨e1,e2,e3⟩:=oQ ho;obtain⟨u,hu,rfl⟩:=get (m:=3) (d:=35) rfl k_;exact jg e3 (by rw[cy (.inl e2),aB hu]) ⟨rfl,i7.refl _⟩
  .obtain⟨e2,eg⟩:=gop (d:=some 37) (p:= .fieldAddr 29 (.tmp 6) 3) ho k_;obtain⟨u,hu,rfl⟩:=get (m:=4) (d:=36) rfl k_;exact first eg hu (λ_=>aF (mJ 3 d_ e2 f6) ⟨λ_=>rfl,i7.refl _⟩) λhq=>⟨λhf=>(by rw[hq]at hf;cases hf),i7.refl _⟩
  .obtain⟨e2,eg⟩:=gop (d:=some 38) (p:= .load 3 (.tmp 37)) ho k_;obtain⟨u,hu,rfl⟩:=get (m:=4) (d:=36) rfl k_;obtain⟨u1,hu1,h1⟩:=get (m:=5) (d:=37) rfl k_;exact first eg hu (λhq=>aF (aO (v:= .i wd) bH e2 ((aB hu1).trans (h1 hq)) ((aH hkd' 3).trans rfl)).1 ⟨λ_=>rfl,i7.refl _⟩) λhq=>⟨λhf=>(by rw[hq]at hf;cases hf),i7.refl _⟩
  .obtain⟨e2,eg⟩:=gop (d:=some 39) (p:= .binOp .gtr 3 (.tmp 38) (.const (.i 0)) 3) ho k_;obtain⟨u,hu,rfl⟩:=get (m:=4) (d:=36) rfl k_;obtain⟨u1,hu1,h1⟩:=get (m:=6) (d:=38) rfl k_;exact first eg hu (λhq=>aF (Lp e2 ((aB hu1).trans (h1 hq)) rfl) ⟨λ_=>by rw[hc2],i7.refl _⟩) λhq=>⟨λhf=>(by rw[hq]at hf;cases hf),i7.refl _⟩
  .obtain⟨e1,e2,e3⟩:=oQ ho;obtain⟨u,hu,rfl⟩:=get (m:=4) (d:=36) rfl k_;obtain⟨u1,hu1,h1⟩:=get (m:=7) (d:=39) rfl k_;refine jg e3 (mH e2 (aB hu)) ⟨?_,i7.refl _⟩;cases hq:c1 with
   |true=>exact(aB hu1).trans (h1 hq)
   |false=>rfl
  .obtain⟨e1,e2,e3⟩:=cL (d:=none) (p:= .store 29 (.tmp 4) (.tmp 32)) ho k_;obtain⟨u,hu,rfl⟩:=get (m:=0) (d:=32) rfl k_;have hset:=setRow_heap w' N cur (cp t c h wd n sh) _ _ hcur;refine .inr ⟨e3 _,_,cZ (cells:=cp t c h wd n sh) e2 f4 (aB hu) hcur AK hcur6 (by simp[cp,Ic]),hset,dD w' N _ (ar5 _),setRow_other w' N (N+1) _ o_,λ_=>⟨_,hset,rfl⟩,λ_=>hset⟩
  .obtain⟨e1,e2,e3⟩:=oQ ho;obtain⟨u,hu,rfl⟩:=get (m:=8) (d:=40) rfl k_;exact jg e3 (by rw[cy (.inr e2),aB hu]) ⟨rfl,i7.refl _⟩
 .obtain⟨v9,_,h9⟩:=hG.come 9 none rfl trivial;obtain⟨v,hv,hv2⟩:=hG.come 10 (some 5) rfl trivial;obtain rfl:=hv2;exact next a w' hG.old.1 h9 (((Has.mem hG.defers hG.size hG.fixed).more (hv 5 rfl)).only ⟨rfl,rfl,trivial⟩)
end
def Dd(f:Func):Code:= .seq (.seq (rG f 7) (.block 1 (.seq (rG f 8) (.cond (.tmp 18) (.seq (rG f 9) (.seq (rG f 10) (rG f 11))) (.seq (rG f 12) (.cond (.tmp 23) (.seq (rG f 13) (.seq (rG f 14) (rG f 15))) (.seq (rG f 16) (.cond (.tmp 28) (.seq (rG f 17) (rG f 18)) .skip)))))))) (.seq (rD f 19) .ret)
def UG:f27.body=some (.seq (rG f27 0) (.seq (rG f27 1) (.seq (.seq (rG f27 2) (.block 0 (.seq (rG f27 3) (.cond (.tmp 11) (rG f27 4) (.seq (rG f27 5) (.cond (.tmp 14) (rG f27 6) .skip)))))) (Dd f27)))):=rfl
def NI(t c:Int)(w0:World)(e:Ending)(w':World):Prop:=e= .returned (.tuple #[.agg (cp t c (eZ t) (ir c) (jQ c) (jM c)), .bool (decide (((eZ t:Nat):Int)>0)&&decide (((ir c:Nat):Int)>0))])/\Bw w0 w'
def G9(t c:Int)(w0:World)(cs:List Frame)(g:Goroutine)(w':World):Prop:=∃(a:Act) (k:List Item) (bk:Nat) (cells:Array Value) (tt:TypeId) (v:Value),g=cD {(base 27).atR a k with mode:= .returning} cs/\a.defers=[]/\a.tmps[4]?=some (.pk bk 0)/\w'.heap[bk]?=some (.cells cells tt)/\cells.size=6/\a.tmps[5]?=some v/\NI t c w0 (.returned (.tuple #[.agg cells,v])) w'
section
variable{t:Int}{k:List Item}
def Es(b:Has [(1, .i c),(4, .pt w0.heap.size),(6, .pt (w0.heap.size+1))] 41 [] a)(C:w.heap[w0.heap.size]?=some (.cells (cp 0 0 0 0 0 0) 29))(n:Bw w0 w)(f:w.heap[w0.heap.size+1]?=some (.cells (cp t c (eZ t) 0 0 0) 29)):
 Rn lT (G9 t c w0 cs) ((base 27).atR a (.code (Dd f27)::k)) cs w:=by
 have D:=(gA C).1;have g:∀a i,i.heap[w0.heap.size+1]?=some (.cells (cp t c (eZ t) (ir c) (jQ c) (jM c)) 29)->Below (w0.heap.size+1) w i->Has [(4, .pt w0.heap.size),(6, .pt (w0.heap.size+1))] 41 [] a->
  Rn lT (G9 t c w0 cs) ((base 27).atR a (.code (.seq (rD f27 19) .ret)::k)) cs i:=by intro a i m E b;refine Rn.p rfl (Ty rfl rfl m ((E.block _ o_).trans C) b λa o v l b=> ?_);exact Rn.ends rfl s_ (Rn.now ⟨a,_,w0.heap.size,_,29,_,rfl,b.defers,b.slot 4 _ rfl,l,rfl,b.slot 5 _ rfl,rfl,(n.trans (E.mono o_)).trans v⟩)
 have B:∀(x y:Int) (h:x=y),(x==y)=true:=s_;have A:∀(x y:Int) (h:x≠y),(x==y)=false:=s_
 iterate 3 refine Rn.uu b λa b=> ?_
 refine Rn.p rfl (Rn.cond _ (b.G 18) ?_);by_cases r:c=2
 .rw[B _ _ r];have b:Has [(4, .pt w0.heap.size),(6, .pt (w0.heap.size+1))] 41 [] a:=b.O;refine Rn.gr ?_;refine jo b 20 6 3 2 d_ d_ rfl k_ k_ f rfl (λa i b m e=> ?_) rfl;refine Rn.gr ?_;refine jo b 21 6 4 133 d_ d_ rfl k_ k_ m rfl (λa o b l d=> ?_) rfl;refine Rn.gr ?_;refine jo b 22 6 5 6 d_ d_ rfl k_ k_ l rfl (λa s b z j=> ?_) rfl;refine Rn.p rfl (Rn.p rfl (g a s ?_ (((e _ o_).trans (d _ o_)).trans (j _ o_)) b));subst r;exact z
 rw[A _ _ r]
 iterate 2 refine Rn.uu b λa b=> ?_
 refine Rn.p rfl (Rn.cond _ (b.G 23) ?_);by_cases q:c=3
 .rw[B _ _ q];have b:Has [(4, .pt w0.heap.size),(6, .pt (w0.heap.size+1))] 41 [] a:=b.O;refine Rn.gr ?_;refine jo b 25 6 3 4 d_ d_ rfl k_ k_ f rfl (λa i b m e=> ?_) rfl;refine Rn.gr ?_;refine jo b 26 6 4 67 d_ d_ rfl k_ k_ m rfl (λa o b l d=> ?_) rfl;refine Rn.gr ?_;refine jo b 27 6 5 4 d_ d_ rfl k_ k_ l rfl (λa s b z j=> ?_) rfl;refine Rn.p rfl (Rn.p rfl (g a s ?_ (((e _ o_).trans (d _ o_)).trans (j _ o_)) b));subst q;exact z
 rw[A _ _ q]
 iterate 2 refine Rn.uu b λa b=> ?_
 refine Rn.p rfl (Rn.cond _ (b.G 28) ?_);by_cases p:c=4
 .rw[B _ _ p];have b:Has [(4, .pt w0.heap.size),(6, .pt (w0.heap.size+1))] 41 [] a:=b.O;refine Rn.gr ?_;refine jo b 30 6 3 8 d_ d_ rfl k_ k_ f rfl (λa i b m e=> ?_) rfl;refine Rn.gr ?_;refine jo b 31 6 4 34 d_ d_ rfl k_ k_ m rfl (λa o b l d=> ?_) rfl;refine Rn.p rfl (Rn.p rfl (g a o ?_ ((e _ o_).trans (d _ o_)) b));subst p;exact l
 rw[A _ _ p];refine Rn.p rfl (Rn.p rfl (g a w ?_ (bR) b.O));have u:ir c=0/\jQ c=0/\jM c=0:=by simp[ir,jQ,jM,r,q,p]
 simp_all
end
def Fe(t c)(w):Calls lT 27 #[.i t, .i c] w (NI t c w):=by
 refine kj lf27 rfl lu29 rfl AK λB=> ?_;show Rn _ (G9 t c w B) _ B w;refine Rn.ent lf27 UG λa d=> ?_;have A:∀(x y:Int) (h:x=y),(x==y)=true:=s_;have z:∀(x y:Int) (h:x≠y),(x==y)=false:=s_;refine Rn.vv d (λo k=>AE k) λa d=> ?_
 iterate 3 refine Rn.uu d λa d=> ?_
 refine Rn.vv d (λo k=>OD k (d.G 7) (d.G 8)) λa d=> ?_;refine Rn.vv d (λo k=>AE k) λa d=> ?_;rw[aJ]at d;have m:=aY (w.alloc (.cells (cp 0 0 0 0 0 0) 29)) (.cells (cp 0 0 0 0 0 0) 29);rw[aJ]at m;have s:=(cV (w.alloc (.cells (cp 0 0 0 0 0 0) 29)) (.cells (cp 0 0 0 0 0 0) 29) (by simp_all)).trans (aY w _);have i:Bw w ((w.alloc (.cells (cp 0 0 0 0 0 0) 29)).alloc (.cells (cp 0 0 0 0 0 0) 29)):=aD (aR w _) (by simp_all) (aR _ _);revert m s i;generalize (w.alloc (.cells (cp 0 0 0 0 0 0) 29)).alloc (.cells (cp 0 0 0 0 0 0) 29)=p;intro m s i;refine Rn.nn d (λo k=>cZ (cells:=cp t c 0 0 0 0) k (d.G 6) (d.G 9) m AK rfl (by simp[cp,Ic])) λa d=> ?_;have f:=setRow_heap p _ _ (cp t c 0 0 0 0) _ _ m;have g:=(setRow_other p (w.heap.size+1) w.heap.size (cp t c 0 0 0 0) o_).trans s;have e:Bw w (p.setRow (w.heap.size+1) (cp t c 0 0 0 0)):=i.trans (dD _ _ _ o_);revert f g e;generalize p.setRow (w.heap.size+1) (cp t c 0 0 0 0)=F;intro f g e;have D:=(gA f).1;refine Rn.uu d λa d=> ?_
 iterate 2 refine Rn.uu d λa d=> ?_
 refine Rn.p rfl (Rn.cond _ (d.G 11) ?_);by_cases r:t=5
 .rw[A _ _ r];have d:Has [(1, .i c),(4, .pt w.heap.size),(6, .pt (w.heap.size+1))] 41 [] a:=d.O;refine Rn.gr ?_;refine jo d 13 6 2 5 d_ d_ rfl k_ k_ f rfl (λa C d v l=> ?_) rfl;have j:=l (w.heap.size+1) o_;refine Rn.p rfl (Rn.p rfl (Es d ((j.block _ o_).trans g) (e.trans (j.mono o_)) ?_));subst r;exact v
 rw[z _ _ r]
 iterate 2 refine Rn.uu d λa d=> ?_
 refine Rn.p rfl (Rn.cond _ (d.G 14) ?_);by_cases q:t=226
 .rw[A _ _ q];have d:Has [(1, .i c),(4, .pt w.heap.size),(6, .pt (w.heap.size+1))] 41 [] a:=d.O;refine Rn.gr ?_;refine jo d 16 6 2 2 d_ d_ rfl k_ k_ f rfl (λa C d v l=> ?_) rfl;have j:=l (w.heap.size+1) o_;refine Rn.p rfl (Rn.p rfl (Es d ((j.block _ o_).trans g) (e.trans (j.mono o_)) ?_));subst q;exact v
 rw[z _ _ q];refine Rn.p rfl (Rn.p rfl (Es d.O g e ?_));have E:eZ t=0:=by simp[eZ,r,q]
 simp_all
end L1
section
open Go
def gF(s:ByteArray)(a b):s.extract a b=⟨(cq s.data.toList a b).toArray⟩:=by have⟨⟨l⟩⟩:=s;apply aH4;simp[cq,aQ7,aS4]
def pn(s)(a b):dC (cq s.data.toList a b)=cd s a b:=by unfold cd;rw[gF]
def Cs:∀n l k,l.length=n->k.length=n->dC l=dC k->l=k
 |0,l,k,h1,h2,_=>by simp_all
 |n+1,l,k,h1,h2,h=>by
  obtain rfl|⟨a,x,rfl⟩:=aJ4 l
  .simp at h1
  obtain rfl|⟨b,y,rfl⟩:=aJ4 k
  .simp at h2
  simp only[aJ5,V7,List.length_singleton]at h1 h2⊢;simp[aJ5,pZ]at h;have f:=x.toNat_lt;have e:=y.toNat_lt;have d:dC a=dC b:=o_
  have c:x.toNat=y.toNat:=o_
  rw[Cs n a b o_ o_ d,UInt8.toNat_inj.1 c]
def GP{a b}{d c}(f:(a.extract i j).size=4)(e:(b.extract d c).size=4):cd a i j=cd b d c↔(a.extract i j).data.toList=(b.extract d c).data.toList:=by
 constructor
 .intro h;exact Cs 4 _ _ (au3▸f) (by exact au3▸e) h
 .intro h;unfold cd;rw[h]
end
namespace L1
open Go.Conc Go.RowKit
def YN(s:ByteArray)(a b):(s.extract a b).data.toList=cq s.data.toList a b:=by rw[gF]
def Dg{a b:ByteArray}(h:a.data.toList=b.data.toList):a=b:=by have⟨⟨l⟩⟩:=a;simp_all
def yV(p):∀c,(mK p c).data.toList=p.data.toList.drop (32*c)
 |0=>rfl
 |c+1=>by
  have a:=yV p c;rw[mK,YN,cq,a];have b:(mK p c).size=(p.data.toList.drop (32*c)).length:=by rw[←a];simp
  rw[b,List.take_length,List.drop_drop]
  congr 1
def J5(p)(c):(mK p c).extract 0 32=p.extract (32*c) (32*c+32):=by apply Dg;rw[YN,YN,yV,cq,cq,List.drop_zero,←List.take_drop]
def zi(KS)(id path)(lf)(x):∀c,wY KS id path lf x c=lQ KS id path lf x c
 |0=>rfl
 |c+1=>by rw[wY,lQ,J5,zi KS id path lf x c]
def Ho(KS)(id)(q i):∀m j y,(Z9 KS id q i m j y).data.toList=jR KS (id.data.toList++dm q 4++dm i 2) m j y.data.toList
 |0,_,_=>rfl
 |m+1,j,y=>by
  rw[Z9,Ho KS id q i m (j+1) _,jR]
  congr 1
def HJ(KS)(s:dQ)(q wd:Nat)(dg)(b:s.q=q)(a:s.width=wd):∀n,(K7 KS s.id s.links q (dH wd) dg n).data.toList=mZ KS s (λc=>(dg c:Nat)) n
 |0=>by simp[K7,mZ]
 |n+1=>by
  have f:(K7 KS s.id s.links q (dH wd) dg (n+1)).data.toList=(K7 KS s.id s.links q (dH wd) dg n).data.toList++(Z9 KS s.id q n (dH wd- dg n) (dg n) (s.links.extract (32*n) (32*n+32))).data.toList:=by simp[K7]
  have e:mZ KS s (λc=>(dg c:Nat)) (n+1)=mZ KS s (λc=>(dg c:Nat)) n++(lA KS s n ((dg n:Nat):Int) (s.links.extract (n*32) ((n+1)*32))).data.toList:=by simp[mZ,av2]
  rw[f,e,(HJ KS s q wd dg b a n),Ho]
  congr 1
  simp[lA,kU,b,a,Zt]
  grind
def J1(KS)(s:dQ)(h wd sh n q:Nat)(msg)(d:s.q=q)(a:s.width=wd):xv KS s.id s.salt msg s.links s.path h wd sh n q=C0 KS s h wd sh n q msg:=by
 unfold xv C0;rw[zi];have b:K7 KS s.id s.links q (dH wd) (λc=>dP (ll (kH KS [s.id,ob q 4,ob 33153 2,s.salt,msg]).data.toList wd sh) wd c) n=Xm KS s wd sh n q msg:=by apply Dg;rw[HJ KS s q wd _ d a n];rfl
 rw[b];rfl
def Q8{rt}{q T h sh:Nat}{t}(j:key.size=56)(u:T+4<=sig.size)(s:40<=T)(r:T<1000000)(i:∀w',Bw w w'->Calls lT 38 #[.agg cv, .agg (cp t c h wd n sh), .s (key.extract 8 24), .i q, .s (sig.extract 8 40), .s msg, .s (sig.extract 40 T), .s (sig.extract (T+4) sig.size)] w' λe f=>e= .returned (.s rt)/\Bw w' f)(v:sY KS cv w)(k:w.heap[b4]?=some (.cells cv 26))(l:w.heap[b9]?=some (.cells (cp t c h wd n sh) 29))
 (g:Has [(1, .s key),(2, .s msg),(3, .s sig),(4, .pt b4),(9, .pt b9),(11, .i q),(12, .i T)] 85 [] a)
 (next:∀a w',(Bw w w'/\Has [(13, .s rt),(1, .s key),(2, .s msg),(3, .s sig),(4, .pt b4),(9, .pt b9),(11, .i q),(12, .i T)] 85 [] a)->Rn lT Goal (fr.atR a K) cs w'):
 Rn lT Goal (fr.atR a (.code (rD f15 12)::K)) cs w:=by
 refine Rn.gt g ?_
 iterate 3 refine n_ ?_
 refine n_ ?_ (y:=λo a w d z=>(eC (m:=8) (n:=24) d gx rfl rfl o_ o_).1)
 iterate 2 refine n_ ?_
 refine n_ ?_ (y:=λo a w d z=>(eC (m:=8) (n:=40) d gx rfl rfl o_ o_).1)
 iterate 3 refine n_ ?_
 refine n_ ?_
 iterate 2 refine n_ ?_
 refine n_ ?_;refine n_ ?_;refine p_ lf38 (λw b _=>i w b) ?_;refine n_ ?_;exact q_ λa w' g p _=>next a w' ⟨p,g.O⟩
section
variable{W:World}{df:List Deferred}{Q:Act->WP}{M:List (Nat×WP)}{d:Tmp}{gd:Option (Nat×Bool)}{xs:Array Operand}{ats:Array TypeId}
def l_(i k)(c:s.size<=1125899906842624)(g:i+k<=s.size)(next:Gx lT ops W N n df Q (m+1) ((d, .i (cd s i (i+k)))::F) M)(h:Is ops m d (.call {callee:= .value (.func 37),args:=xs,argTypes:=ats}) gd:=by rfl)(b:gV ops F gd=some true:=by rfl)(a:A5 ops (Z8 ops n m) gd=true:=by kernel_rfl)(j:PU F xs.toList=some [.s s, .i i, .i k]:=by rfl)(f:xs.toList.all (GR (Z8 ops n m))=true:=by kernel_rfl)(e:k<=4:=by decide):Gx lT ops W N n df Q m F M:=
 p_ lf37 (λw _ _=>(ie s i k w e g c).mono λ_ _ h=>⟨by rw[←pn];exact h.1,h.2▸bR⟩) next h b a j f
end
def Q9{h sh H2 T:Nat}{q t}{c1 n1 n2}(p:H2=2^h)(u:h<=8)(A:H2<=256)(d:sig.size<=1125899906842624)(x:T+4<=sig.size)(g:8<=sig.size)(l:c1=decide (q≥(H2:Int)))(j:n1=(cd sig 4 8 !=c))(i:n2=(cd sig T (T+4) !=t))(s:w.heap[b9]?=some (.cells (cp t c h wd n sh) 29))
 (e:Has [(1, .s key),(2, .s msg),(3, .s sig),(4, .pt b4),(9, .pt b9),(11, .i q),(12, .i T)] 85 [] a)
 (next:∀a w',(Bw w w'/\Has [(64, .bool (c1||n1||n2)),(1, .s key),(2, .s msg),(3, .s sig),(4, .pt b4),(9, .pt b9),(11, .i q),(12, .i T)] 85 [] a)->Rn lT Goal (fr.atR a K) cs w'):
 Rn lT Goal (fr.atR a (.code (rD f15 10)::K)) cs w:=by
 have r:(1:Int)*2^h=(H2:Int):=by simp_all
 refine Rn.gt e ?_
 iterate 3 refine n_ ?_
 refine n_ ?_ (y:=λo a w b z=>(m8 (m:=1) (k:=h) b rfl gx o_ (by rw[r];omega)).trans (by rw[r]));refine n_ ?_ (y:=λo a w b z=>l▸Sg b gx gx);refine n_ ?_;cases c1 with
 |true=>
  iterate 5 refine r_ ?_
  refine n_ ?_ (y:=λo a w b z=>mH b gx);refine n_ ?_
  iterate 6 refine r_ ?_
  refine n_ ?_ (y:=λo a w b z=>mH b gx);exact q_ λa w' e f _=>next a w' ⟨f,e.O⟩
 |false=>
  refine n_ ?_;refine l_ 4 4 d g ?_
  iterate 2 refine n_ ?_
  refine n_ ?_ (v:= .bool n1) (y:=λo a w b z=>j▸As b gx gx)
  iterate 2 refine n_ ?_
  cases n1 with
  |true=>
   iterate 6 refine r_ ?_
   refine n_ ?_ (v:= .bool true) (y:=λo a w b z=>mH b gx);exact q_ λa w' e f _=>next a w' ⟨f,e.O⟩
  |false=>
   iterate 2 refine n_ ?_
   refine l_ T 4 d x ?_
   iterate 2 refine n_ ?_
   refine n_ ?_ (v:= .bool n2) (y:=λo a w b z=>i▸As b gx gx);refine n_ ?_;exact q_ λa w' e f _=>next a w' ⟨f,e.O⟩
def UH:f15.body=some (.seq (rG f15 0) (.seq (.seq (rG f15 1) (.cond (.tmp 16) (.seq (rG f15 2) .ret) .skip)) (.seq (rG f15 3) (.seq (.seq (rG f15 4) (.cond (.tmp 26) (.seq (rG f15 5) .ret) .skip))
 (.seq (.seq (rG f15 6) (.cond (.tmp 38) (.seq (rG f15 7) .ret) .skip)) (.seq (rG f15 8) (.seq (rG f15 9) (.seq (.seq (rD f15 10) (.cond (.tmp 64) (.seq (rG f15 11) .ret) .skip))
 (.seq (rD f15 12) (.seq (.seq (rG f15 13) (.cond (.tmp 84) (.seq (rG f15 14) .ret) .skip)) (.seq (rG f15 15) .ret))))))))))):=rfl
def He(a:key.size=56):(decide (((hK key:Nat):Int)>0)&&decide (((wK key:Nat):Int)>0))=true↔ik key:=by
 unfold ik hK wK
 grind
def BE(a5:KS.length=64)(a4:lB KS)(key msg sig:ByteArray)(hm:msg.size<=281474976706560)(hk:key.size<=1125899906842624)(hs:sig.size<=1125899906842624)(w:World)(hC:sY KS cv w):
 Calls lT 15 #[.agg cv, .s key, .s msg, .s sig] w λe w'=>∃c,e= .returned (.i c)/\vA KS key msg sig c/\Bw w w':=by
 refine eK (N:=85) lf15 UH λcs a b=>Rn.zz b λw1 a t h4 _ b=> ?_;have a6:=hC.mono t;refine Rn.uu b λa b=> ?_;have l:∀(id:Nat) (c:Int) (a:Act) (w':World) (F:List (Nat×Value)) (k:List Item),vA KS key msg sig c->Bw w w'->Has F 85 [] a->ar7 (bP f15 id).size=[0]->((bP f15 id)[0]?).map (λo=>(o.dst,o.op,o.guard))=some (some 8, .assign (.const (.i c)),none)->
  Rn lT (λg w'=>∃(a:Act) (k:List Item) (v:Value),g=cD {(base 15).atR a k with mode:= .returning} cs/\a.defers=[]/\a.tmps[8]?=some v/\∃c,Zo v=Zo (.i c)/\vA KS key msg sig c/\Bw w w') ((base 15).atR a (.code (.seq (rG f15 id) .ret)::k)) cs w':=by intro id c a w' F k L hB b hL a0;refine Rn.p rfl (Rn.r hL ?_);refine Rn.asc b 8 (.i c) d_ a0 λa b=> ?_;exact Rn.p rfl (Rn.ends rfl (.inr ⟨_,rfl⟩) (Rn.now ⟨a,_,_,rfl,b.defers,b.slot 8 _ (by simp_all),c,rfl,L,hB⟩))
 iterate 3 refine Rn.uu b λa b=> ?_
 refine Rn.p rfl (Rn.cond _ (b.G 16) ?_);by_cases z:key.size=56
 .rw[show((key.size:Int) !=56)=false from by simp;omega];refine Rn.uu b λa b=> ?_;refine Rn.cl b lf37 (R:=λv w'=>v= .i (cd key 0 4)/\w'=w1) ((ie key 0 4 w1 d_ o_ hk).mono λe w' h=>⟨_,h.1,by rw[pn],h.2⟩) λv w2 M a b=> ?_;obtain⟨rfl,rfl⟩:=M;refine Rn.uu b λa b=> ?_;refine Rn.cl b lf37 (R:=λv w'=>v= .i (cd key 4 8)/\w'=w2) ((ie key 4 4 w2 d_ o_ hk).mono λe w' h=>⟨_,h.1,by rw[pn],h.2⟩) λv w3 M a b=> ?_;obtain⟨rfl,rfl⟩:=M;refine Rn.cw b lf27 ((Fe (cd key 0 4) (cd key 4 8) w3)) λK m a b=> ?_
  iterate 3 refine Rn.uu b λa b=> ?_
  refine Rn.al b (λo D=>AE D) λJ a H h9 _ b=> ?_;refine Rn.nn b (λo D=>cZ (cells:=cp (cd key 0 4) (cd key 4 8) (hK key) (wK key) (nK key) (Gn key)) D (b.G 9) (b.G 23) h9 AK rfl (by simp[cp,Ic])) λa b=> ?_;have s:=setRow_heap J K.heap.size _ (cp (cd key 0 4) (cd key 4 8) (hK key) (wK key) (nK key) (Gn key)) _ _ h9;have S:=(gA h4).1;have aa:=m.size;have p:(J.setRow K.heap.size (cp (cd key 0 4) (cd key 4 8) (hK key) (wK key) (nK key) (Gn key))).heap[w.heap.size]?=some (.cells cv 26):=(setRow_other J _ _ _ o_).trans ((H.block _ o_).trans ((m.block _ S).trans h4));have y:Bw w3 (J.setRow K.heap.size (cp (cd key 0 4) (cd key 4 8) (hK key) (wK key) (nK key) (Gn key))):=(aD m m.size H).trans (dD _ _ _ m.size);revert s p y;generalize J.setRow K.heap.size (cp (cd key 0 4) (cd key 4 8) (hK key) (wK key) (nK key) (Gn key))=I;intro s p y;have r:Bw w I:=aD t t.size y;have ad:=hC.mono r;clear h9 H m h4 y a6;refine Rn.uu b λa b=> ?_;have b:Has [(10, .bool (decide (((hK key:Nat):Int)>0)&&decide (((wK key:Nat):Int)>0))),(9, .pt K.heap.size),(1, .s key),(2, .s msg),(3, .s sig),(4, .pt w.heap.size)] 85 [] a:=b.O
  iterate 2 refine Rn.uu b λa b=> ?_
  refine Rn.p rfl (Rn.cond _ (b.G 26) ?_);by_cases j:ik key
  .rw[(He z).2 j];obtain⟨hh,ab⟩:=kinds j;refine Rn.gr ?_
   iterate 12 refine Rn.uu b λa b=> ?_
   refine Rn.p rfl (Rn.cond _ (b.G 38) ?_);by_cases O:sig.size=44+32*nK key+32*hK key
   .rw[show((sig.size:Int) !=40+32*((nK key:Nat):Int)+4+32*((hK key:Nat):Int))=false from by simp;omega];refine Rn.uu b λa b=> ?_;refine Rn.cl b lf37 (R:=λv w'=>v= .i (cd sig 0 4)/\w'=I) ((ie sig 0 4 I d_ o_ hs).mono λe w' h=>⟨_,h.1,by rw[pn],h.2⟩) λv w7 M a b=> ?_;obtain⟨rfl,rfl⟩:=M
    iterate 5 refine Rn.uu b λa b=> ?_
    rw[show(40:Int)+32*((nK key:Nat):Int)=((40+32*nK key:Nat):Int)from o_]at b;refine Rn.uu b λa b=> ?_;refine Rn.p rfl (Rn.p rfl (Rn.p rfl ?_));have a7:2^hK key<=256:=as8 (Q5 d_ (show hK key<=8 by omega)) d_;refine Q9 (H2:=2^hK key) (T:=40+32*nK key) (q:=cd sig 0 4) rfl o_ a7 hs o_ o_ rfl rfl rfl s (b.only ⟨rfl,rfl,rfl,rfl,rfl,rfl,rfl,trivial⟩) λa w8 ⟨G,b⟩=> ?_;have u:Bw w w8:=aD r r.size G;have E:=bk G p;have U:=bk G s;have V:=hC.mono u;refine Rn.cond _ (b.G 64) ?_;have e4:∀(x:ByteArray) (i:Nat),i+4<=x.size->(x.extract i (i+4)).size=4:=λx i h=>by rw[as6];omega
    have B:cd sig 4 8=cd key 4 8↔(sig.extract 4 8).data.toList=(key.extract 4 8).data.toList:=GP (e4 sig 4 o_) (e4 key 4 o_);have A:cd sig (40+32*nK key) (40+32*nK key+4)=cd key 0 4↔(sig.extract (40+32*nK key) (40+32*nK key+4)).data.toList=(key.extract 0 4).data.toList:=GP (e4 sig _ o_) (e4 key 0 o_);by_cases d:lI (iS key) (hK key) (nK key) sig
    .have e:(decide (cd sig 0 4≥((2^hK key:Nat):Int))||(cd sig 4 8 !=cd key 4 8)||(cd sig (40+32*nK key) (40+32*nK key+4) !=cd key 0 4))=false:=by obtain⟨_,Z,h2,Y⟩:=d;rw[show 44+32*nK key=40+32*nK key+4 from o_]at Y;have a8:¬cd sig 0 4≥((2^hK key:Nat):Int):=(by grind);rw[decide_eq_false a8,B.2 h2,A.2 Y];simp
     rw[e];have f:=MC j d;have h0:0<=cd sig 0 4:=(jY (sig.extract 0 4).data.toList 4 (by simp;omega)).1;have P:((cd sig 0 4).toNat:Int)=cd sig 0 4:=Int.toNat_of_nonneg h0;have a1:=f.leaf;rw[←P]at b;refine Rn.p rfl (Rn.p rfl ?_);have ac:(key.extract 8 24).size<=16:=(by rw[as6];omega);have a9:(sig.extract 8 40).size<=32:=(by rw[as6];omega);have C:xv KS (key.extract 8 24) (sig.extract 8 40) msg (sig.extract 40 (40+32*nK key)) (sig.extract (40+32*nK key+4) sig.size) (hK key) (wK key) (Gn key) (nK key) (cd sig 0 4).toNat=oE KS key msg sig:=by have:=J1 KS (xW (iS key) (nK key) sig) (hK key) (wK key) (Gn key) (nK key) (cd sig 0 4).toNat msg P.symm rfl;rw[show 40+32*nK key+4=44+32*nK key from o_];exact this
     refine Q8 (KS:=KS) (rt:=oE KS key msg sig) z o_ o_ o_ (λw' a3=> ?_) V E U (b.only ⟨rfl,rfl,rfl,rfl,rfl,rfl,rfl,trivial⟩) λa w9 ⟨a2,b⟩=> ?_
     .have:=Kg a5 a4 (key.extract 8 24) (sig.extract 8 40) msg (sig.extract 40 (40+32*nK key)) (sig.extract (40+32*nK key+4) sig.size) (cd key 0 4) (cd key 4 8) (hK key) (wK key) (Gn key) (nK key) (cd sig 0 4).toNat f.wid f.shift8 f.one f.most o_ o_ o_ o_ (by rw[as6];omega) (by rw[as6];omega) w' (V.mono a3);exact C▸this
     have W:Bw w w9:=aD u u.size a2
     iterate 2 refine Rn.uu b λa b=> ?_
     refine Rn.vv b (λo D=>rX (n:=24) D (b.G 82) rfl o_) λa b=> ?_;refine Rn.vv b (λo D=>vG D (b.G 81) (b.G 83)) λa b=> ?_;refine Rn.p rfl (Rn.cond _ (b.G 84) ?_);by_cases X:(oE KS key msg sig).data.toList=(key.extract 24 key.size).data.toList
     .rw[show((oE KS key msg sig).data.toList !=(key.extract 24 key.size).data.toList)=false from by rw[bne_eq_false_iff_eq];exact X];refine Rn.p rfl ?_;exact l 15 0 a w9 _ _ (.inr (.inr (.inr ⟨j,d,X,rfl⟩))) W b rfl k_
     .rw[show((oE KS key msg sig).data.toList !=(key.extract 24 key.size).data.toList)=true from by rw[bne_iff_ne];exact X];exact l 14 10 a w9 _ _ (.inr (.inr (.inl ⟨j,d,X,rfl⟩))) W b rfl k_
    .have e:(decide (cd sig 0 4≥((2^hK key:Nat):Int))||(cd sig 4 8 !=cd key 4 8)||(cd sig (40+32*nK key) (40+32*nK key+4) !=cd key 0 4))=true:=by
      refine V8 λQ=>d ?_;rw[aH9,ay6,ay6,decide_eq_false_iff_not,bne_eq_false_iff_eq,bne_eq_false_iff_eq]at Q;obtain⟨⟨Z,h2⟩,Y⟩:=Q;refine⟨O, ?_,B.1 h2, ?_⟩
      .rw[Int.natCast_pow]at Z;exact Int.not_le.1 Z
      .rw[show 44+32*nK key=40+32*nK key+4 from o_];exact A.1 Y
     rw[e];exact l 11 10 a w8 _ _ (.inr (.inl ⟨j,d,rfl⟩)) u b rfl k_
   .rw[show((sig.size:Int) !=40+32*((nK key:Nat):Int)+4+32*((hK key:Nat):Int))=true from by simp;omega];exact l 7 10 a I _ _ (.inr (.inl ⟨j,λh=>O h.1,rfl⟩)) r b rfl k_
  .rw[show(decide (((hK key:Nat):Int)>0)&&decide (((wK key:Nat):Int)>0))=false from aH9 _▸λh=>j ((He z).1 h)];exact l 5 9 a I _ _ (.inl ⟨j,rfl⟩) r b rfl k_
 .rw[show((key.size:Int) !=56)=true from by simp;omega];exact l 2 9 a w1 _ _ (.inl ⟨λh=>z h.1,rfl⟩) t b rfl k_
def Ac{d:Int}(h:vA KS key msg sig c)(j:vA KS key msg sig d):c=d:=by rcases h with⟨i,rfl⟩|⟨i,b,rfl⟩|⟨i,b,g,rfl⟩|⟨i,b,g,rfl⟩<;>rcases j with⟨f,rfl⟩|⟨f,a,rfl⟩|⟨f,a,e,rfl⟩|⟨f,a,e,rfl⟩<;>first|rfl|exact absurd ‹ik key› ‹¬ik key›|exact absurd b a|exact absurd a b|exact absurd g e|exact absurd e g
section
variable{y:Operand}
def Xj{m n:Int}(a:o.op= .binOp .eql t x y u)(d:t=36)(c:ev x= .i m)(b:ev y= .i n):(execOp ev o).run lT w= .ok (.value (.bool (m==n))) w:=by subst d;simp[execOp,a,c,b,go_sem]
end
end L1
section
open Go.Conc Go.RowKit
structure Sc where
 t:Nat
 c:Nat
 h:Nat
 wd:Nat
 n:Nat
 sh:Nat
 id:ByteArray
 q:Nat
 seed:ByteArray
 path:ByteArray
 root:ByteArray
def Sc.cells(s:Sc):Array Value:=#[.int .i64 s.t, .int .i64 s.c, .int .i64 s.h, .int .i64 s.wd, .int .i64 s.n, .int .i64 s.sh, .string s.id, .int .i64 s.q, .string s.seed, .string s.path, .string s.root]
end
namespace L1
open Go.Conc Go.RowKit
section
variable{y z u:Operand}{s:Sc}
def YK(a:o.op= .fieldAddr 31 x 0)(c:ev x= .pk b 0):(execOp ev o).run lT w= .ok (.value (.pk b 0)) w:=by
 have e:execOp ev o=(do pure (.value (←V9 31 (.pk b 0) 0))):=by simp only[execOp,a,c]
 have d:(do pure (.value (←V9 31 (.pk b 0) 0)):Sem Next).run lT w= .ok (.value (.pk b 0)) w:=k_
 rw[e,d]
def YJ(a:o.op= .fieldAddr 31 x 1)(c:ev x= .pk b 0):(execOp ev o).run lT w= .ok (.value (.pk b 6)) w:=by
 have e:execOp ev o=(do pure (.value (←V9 31 (.pk b 0) 1))):=by simp only[execOp,a,c]
 have d:(do pure (.value (←V9 31 (.pk b 0) 1)):Sem Next).run lT w= .ok (.value (.pk b 6)) w:=k_
 rw[e,d]
def YI(a:o.op= .fieldAddr 31 x 2)(c:ev x= .pk b 0):(execOp ev o).run lT w= .ok (.value (.pk b 7)) w:=by
 have e:execOp ev o=(do pure (.value (←V9 31 (.pk b 0) 2))):=by simp only[execOp,a,c]
 have d:(do pure (.value (←V9 31 (.pk b 0) 2)):Sem Next).run lT w= .ok (.value (.pk b 7)) w:=k_
 rw[e,d]
def YH(a:o.op= .fieldAddr 31 x 4)(c:ev x= .pk b 0):(execOp ev o).run lT w= .ok (.value (.pk b 9)) w:=by
 have e:execOp ev o=(do pure (.value (←V9 31 (.pk b 0) 4))):=by simp only[execOp,a,c]
 have d:(do pure (.value (←V9 31 (.pk b 0) 4)):Sem Next).run lT w= .ok (.value (.pk b 9)) w:=k_
 rw[e,d]
def YG(a:o.op= .fieldAddr 31 x 5)(c:ev x= .pk b 0):(execOp ev o).run lT w= .ok (.value (.pk b 10)) w:=by
 have e:execOp ev o=(do pure (.value (←V9 31 (.pk b 0) 5))):=by simp only[execOp,a,c]
 have d:(do pure (.value (←V9 31 (.pk b 0) 5)):Sem Next).run lT w= .ok (.value (.pk b 10)) w:=k_
 rw[e,d]
def YF(a:o.op= .load 31 x)(c:ev x= .pk b 0)(h:w.heap[b]?=some (.cells s.cells 31)):(execOp ev o).run lT w= .ok (.value (.agg s.cells)) w:=by
 have e:(isAgg 31).run lT w= .ok true w:=k_
 have d:=aH h;simp[execOp,a,c,as_,loadVar,e,loadCells,loadCellsFrom,Y1,d,Sc.cells,go_sem]
end
def pB(KS:List Int)(seed:ByteArray)(n:Nat):ByteArray:=⟨(iu KS (ob n 4++seed).data.toList).toArray⟩
section
variable{b:Frame}{k:List Item}
def Rn.G(i:Has F N ds a)(d)(p)(g j)(q)(V:Value->Prop)(hq:F.lookup j=some (.bool q))(f:∀c,p≠ .defer c)(u:q=true->∀o,o.op=p->sX lT a o w λv w'=>V v/\w'=w)
 (next:∀v a',(q=true->V v)->Has ((d,v)::F) N ds a'->Rn lT Goal (b.atR a' (.inRegion ops rest::k)) cs w) (r:d<N:=by decide) (h:(ops[m]?).map (λo=>(o.dst,o.op,o.guard))=some (some d,p,some (g,true)):=by kernel_rfl) (y:(ops[g]?).bind (·.dst)=some j:=by kernel_rfl):Rn lT Goal (b.atR a (.inRegion ops (m::rest)::k)) cs w:=by
 have⟨o,n,t,s,z⟩:=ng h;have l:=ku z y (i.slot j _ hq);cases q with
 |false=>
  refine Rn.skips n l ?_;rw[t];exact next _ _ s_ (i.put r _)
 |true=>
  refine Rn.does n l (s▸f) (u rfl o s) λv w' ⟨x,e⟩=> ?_;rw[t,e];exact next v _ (λ_=>x) (i.put r v)
end
section
variable{y:Operand}
def rw_f(j:Nat)(f:j<4)(a:o.op= .fieldAddr 23 x j)(c:ev x= .pk b 0):(execOp ev o).run lT w= .ok (.value (.pk b j)) w:=by
 have e:execOp ev o=(do pure (.value (←V9 23 (.pk b 0) j))):=by simp only[execOp,a,c]
 have d:(do pure (.value (←V9 23 (.pk b 0) j)):Sem Next).run lT w= .ok (.value (.pk b j)) w:=by rcases(o_:j=0\/j=1\/j=2\/j=3)with rfl|rfl|rfl|rfl<;>kernel_rfl
 rw[e,d]
def Xg{g}{c t:Nat}(a:o.op= .call {callee:= .builtin .len,args:=#[.tmp t],argTypes:=#[83]})(b:ev (.tmp t)= .slice (some g) l c):(execOp ev o).run lT w= .ok (.value (.i l)) w:=by
 have d:lT.underlying 83=some (.slice 5):=k_
 simp[execOp,a,resolve,b,invoke,builtin,YQ,s_,goInt]
def Ef{g a}{l:List UInt8}(b:o.op= .convert 83 9 x)(d:ev x= .sk g l.length a)(f:∀j c,w.cell? ⟨g,j,none⟩=some (.int .u8 (l[j].toNat:Int))):(execOp ev o).run lT w= .ok (.value (.string ⟨l.toArray⟩)) w:=by have h:=run_convert_bytes_back (P:=lT) w 83 9 5 ⟨g,0,none⟩ a l k_ k_ k_ (λj c=>by rw[AS,as5];exact f j c);simp[execOp,b,d];simp[h]
def wF{m}(a:o.op= .convert 3 5 x)(b:ev x= .i m):(execOp ev o).run lT w= .ok (.value (.int .u8 (ZH.wrap m))) w:=by
 have d:lT.underlying 5=some (.int .u8):=k_
 have c:lT.underlying 3=some (.int .i64):=k_
 simp[execOp,a,b,go_sem,d,c]
end
def ED:Bn lT 5:=λw=>⟨k_,k_⟩
structure Tb (w0 w:World) (sz:Nat) (way:Array Value):Prop where
 old:Bw w0 w
 way:w.heap[w0.heap.size]?=some (.cells way 23)
 bytes:∃(C:Array Value) (fr:Nat×Nat),w.heap[(w0.heap.size+1)]?=some (.cells C 5 fr)/\sz<=fr.1/\∃B:List UInt8,B.length=sz/\∀j (hj:j<B.length),C[j]?=some (.int .u8 (B[j].toNat:Int))
section
variable{y:Operand}
def YE{wa ww wc:Int}{more:ByteArray}(a:o.op= .load 23 x)(c:ev x= .pk b 0)(h:w.heap[b]?=some (.cells #[.i wa, .i ww, .i wc, .s more] 23)):(execOp ev o).run lT w= .ok (.value (.agg #[.i wa, .i ww, .i wc, .s more])) w:=by
 have e:(isAgg 23).run lT w= .ok true w:=k_
 have d:=aH h;simp[execOp,a,c,as_,loadVar,e,loadCells,loadCellsFrom,Y1,d,go_sem]
def Xf{m n}(a:o.op= .binOp .neq t x y u)(d:t=36)(c:ev x= .i m)(b:ev y= .i n):(execOp ev o).run lT w= .ok (.value (.bool (m !=n))) w:=by subst d;simp[execOp,a,c,b,go_sem]
end
end L1
section
open Go.RowKit
def lf49:(aI q tP).funcs[49]?=some f49:=aM func49 d_ rfl rfl k_
def lf76:(aI q tP).funcs[76]?=some f76:=aM func76 d_ rfl rfl k_
def lf99:(aI q tP).funcs[99]?=some f99:=aM func99 d_ rfl rfl k_
def lf100:(aI q tP).funcs[100]?=some f100:=aM func100 d_ rfl rfl k_
def lf125:(aI q tP).funcs[125]?=some f125:=aM func125 d_ rfl rfl k_
def lf126:(aI q tP).funcs[126]?=some f126:=aM func126 d_ rfl rfl k_
def lf157:(aI q tP).funcs[157]?=some f157:=aM func157 d_ rfl rfl k_
def lf159:(aI q tP).funcs[159]?=some f159:=aM func159 d_ rfl rfl k_
def lf160:(aI q tP).funcs[160]?=some f160:=aM func160 d_ rfl rfl k_
def lf161:(aI q tP).funcs[161]?=some f161:=aM func161 d_ rfl rfl k_
def lf175:(aI q tP).funcs[175]?=some f175:=aM func175 d_ rfl rfl k_
def lf182:(aI q tP).funcs[182]?=some f182:=aM func182 d_ rfl rfl k_
def lf158:(aI q tP).funcs[158]?=some f158:=aM func158 d_ rfl rfl k_
def lf104:(aI q tP).funcs[104]?=some f104:=aM func104 d_ rfl rfl k_
def lf98:(aI q tP).funcs[98]?=some f98:=aM func98 d_ rfl rfl k_
def lf176:(aI q tP).funcs[176]?=some f176:=aM func176 d_ rfl rfl k_
def lf177:(aI q tP).funcs[177]?=some f177:=aM func177 d_ rfl rfl k_
def lf178:(aI q tP).funcs[178]?=some f178:=aM func178 d_ rfl rfl k_
def lf189:(aI q tP).funcs[189]?=some f189:=aM func189 d_ rfl rfl k_
def lf179:(aI q tP).funcs[179]?=some f179:=aM func179 d_ rfl rfl k_
def lf180:(aI q tP).funcs[180]?=some f180:=aM func180 d_ rfl rfl k_
def lf181:(aI q tP).funcs[181]?=some f181:=aM func181 d_ rfl rfl k_
def lf190:(aI q tP).funcs[190]?=some f190:=aM func190 d_ rfl rfl k_
def lf188:(aI q tP).funcs[188]?=some f188:=aM func188 d_ rfl rfl k_
def lf192:(aI q tP).funcs[192]?=some f192:=aM func192 d_ rfl rfl k_
end
section
open Go.RowKit Go.Lib Go.Shelf
@[simp] theorem lf72:l_R q 72 f72:=l_F func72
@[simp] theorem lf96:l_R q 96 f96:=l_F func96
@[simp] theorem lc96(args:Array Value)(w:World):(callFunc 96 args).run (aI q tP) w= .ok (.enter 96 args) w:=dM lf96 k_ rfl args w
@[simp] theorem lf123:l_R q 123 f123:=l_F func123
@[simp] theorem lc123(args:Array Value)(w:World):(callFunc 123 args).run (aI q tP) w= .ok (.enter 123 args) w:=dM lf123 k_ rfl args w
@[simp] theorem lf41:l_R q 41 f41:=l_F func41
@[simp] theorem lf40:l_R q 40 f40:=l_F func40
@[simp] theorem lf73:l_R q 73 f73:=l_F func73
@[simp] theorem lf97:l_R q 97 f97:=l_F func97
@[simp] theorem lf124:l_R q 124 f124:=l_F func124
@[simp] theorem lf42:l_R q 42 f42:=l_F func42
@[simp] theorem lf19:l_R q 19 f19:=l_F func19
def lu87:type_of%((bQ (q:=q) (P:=tP) 87).trans underlying87):=s_
def Lf.laysM316:Go.Proofs.LaysM.n316 (aI q tP) laysM316_ren:=by
 cases q<;>constructor
 all_goals first|(constructor<;>first|(rw[qc];kernel_rfl)|kernel_rfl|(intro w;kernel_rfl);done)|(rw[qc];kernel_rfl)|kernel_rfl|(intro w;kernel_rfl)
def Lf.stringslite_Clone(s)(w)(a:s.size<=281474976710656):
 Calls (aI q tP) 123 #[.s s] w λe w'=>e= .returned (.s s)/\Bw w w':=Any.stringslite_Clone Lf.laysM316 s w a
end
section
open Go.Conc Go.RowKit
def fm(w:World)(v:Value)(L:List Value):Prop:=∃p cap,v= .slice p L.length cap/\∀(i:Nat) (u:Value),L[i]?=some u->∃a:Addr,p=some a/\w.cell? (a.add i)=some u
def bM{a}{u}(c:Bw w w')(h:w.cell? a=some u):w'.cell? a=some u:=by
 have b:a.block<w.heap.size:=by
  unfold AT at h
  grind
 unfold AT at h⊢;exact c.block _ b▸h
def fm.below{L}(h:fm w v L)(d:Bw w w'):fm w' v L:=by have⟨p,b,g,f⟩:=h;exact⟨p,b,g,λi u c=>let ⟨a,e,hc⟩:=f i u c;⟨a,e,bM d hc⟩⟩
def eR(st le:Int)(u h:Value):Array Value:=#[.int .i64 st,u, .int .i64 le,h]
def eE:List Bool->List ByteArray->ByteArray->Bool
 |u::us,h::hs,x=>(u&&h.data.toList==x.data.toList)||eE us hs x
 |_,_,_=>false
structure Cv (tf tb ts:TypeId) (w0:World) (b3 b4 b5 l ld:Nat) (r:Loop) (fz:Array Value) (x:ByteArray) (q:Bool) (w:World):Prop where
 old:Bw w0 w
 fus:w.heap[b3]?=some (.cells fz tf)
 res:w.heap[b4]?=some (.cells #[.bool q] tb)
 hsh:w.heap[b5]?=some (.cells #[.string x] ts)
 list:w.heap[ld]?=some (.deferred (some []))
 loop:w.heap[l]?=some (.loop r)
section
variable{tf tb ts:TypeId}{b5 ld:Nat}{r:Loop}{fz:Array Value}{x:ByteArray}
def Cv.turn(h:Cv tf tb ts w0 b3 b4 b5 l ld r fz x q w)(f:w0.heap.size<=l)(a):Cv tf tb ts w0 b3 b4 b5 l ld a fz x q (bU w l a):=by
 have n:∀{b:Nat} {o:Obj},w.heap[b]?=some o->(∀r,o≠ .loop r)->b≠l:=λc d e=>by rw[e,h.loop]at c;grind
 exact⟨h.old.trans (fa w _ _ f),(bD w _ (n h.fus (by simp_all))).trans h.fus,(bD w _ (n h.res (by simp_all))).trans h.res,(bD w _ (n h.hsh (by simp_all))).trans h.hsh,(bD w _ (n h.list (by simp_all))).trans h.list,iA h.loop⟩
def Cv.put(h:Cv tf tb ts w0 b3 b4 b5 l ld r fz x q w)(i:tf≠tb)(g:ts≠tb)(f:w0.heap.size<=b4)(p):Cv tf tb ts w0 b3 b4 b5 l ld r fz x p (w.setCell ⟨b4,0,none⟩ (.bool p)):=by
 have d:b3≠b4:=λe=>by have:=h.fus;rw[e,h.res]at this;simp_all
 have c:b5≠b4:=λe=>by have:=h.hsh;rw[e,h.res]at this;simp_all
 have b:l≠b4:=λe=>by have:=h.res;rw[←e,h.loop]at this;cases this
 have a:ld≠b4:=λe=>by have:=h.res;rw[←e,h.list]at this;cases this
 exact⟨h.old.trans (eJ w _ _ f),(cP w _ d).trans h.fus,kJ h.res,(cP w _ c).trans h.hsh,(cP w _ a).trans h.list,(cP w _ b).trans h.loop⟩
end
end
namespace L1
open Go.Conc Go.RowKit
section
variable{y z:Operand}
def Xi{a b}(c:o.op= .binOp .eql 9 x y t)(e:ev x= .s a)(d:ev y= .s b):(execOp ev o).run lT w= .ok (.value (.bool (a.data.toList==b.data.toList))) w:=by simp[execOp,c,e,d,go_sem,(az3 a),(az3 b)]
def jV{p}{c}{ty e}(d:lT.underlying ty=some (.slice e))(a:o.op= .call {callee:= .builtin .len,args:=#[.tmp k],argTypes:=#[ty]})(b:ev (.tmp k)= .slice p l c):(execOp ev o).run lT w= .ok (.value (.i l)) w:=by simp[execOp,a,resolve,b,invoke,builtin,YQ,run_underlying d,goInt]
def Eh(a:o.op= .call {callee:= .builtin .min,args:=#[.tmp k, .tmp j],argTypes:=#[3,3]})(c:ev (.tmp k)= .i m)(b:ev (.tmp j)= .i n):(execOp ev o).run lT w= .ok (.value (.i (min m n:Nat))) w:=by
 have h:(if (n:Int)<m then(n:Int)else m)=((min m n:Nat):Int):=by split<;>omega
 have e:(Builtin.min2 (.i m) (.i n):Sem Value)=pure (.i (min m n:Nat)):=by rw[←h];rfl
 simp[execOp,a,resolve,c,b,invoke,builtin,Builtin.min_,e]
def yT(j)(f:j<4)(a:o.op= .fieldAddr 45 x j)(c:ev x= .pk b 0):(execOp ev o).run lT w= .ok (.value (.pk b j)) w:=by simp[execOp,a,c];rcases(o_:j=0\/j=1\/j=2\/j=3)with rfl|rfl|rfl|rfl<;>kernel_rfl
def oZ{st le}{u h}(a:o.op= .load 45 x)(d:ev x= .pk b 0)(c:w.heap[b]?=some (.cells (eR st le u h) 45)):(execOp ev o).run lT w= .ok (.value (.agg (eR st le u h))) w:=by
 have e:(isAgg 45).run lT w= .ok true w:=k_
 simp[execOp,a,d,as_,loadVar,e,loadCells,loadCellsFrom,Y1,(aH c),eR,go_sem]
def pi:Bn lT 4:=λw=>⟨k_,k_⟩
def jc:Bn lT 42:=λw=>⟨k_,k_⟩
def jb:Bn lT 43:=λw=>⟨k_,k_⟩
end
end L1
section
open Go.Conc Go.RowKit
structure Ex (X:Nat->Prop) (w w':World):Prop where
 os:w'.os=w.os
 output:w'.output=w.output
 tape:w'.tape=w.tape
 size:w.heap.size<=w'.heap.size
 block:∀b,b<w.heap.size->¬X b->w'.heap[b]?=w.heap[b]?
section
variable{X Y:Nat->Prop}{w'':World}
def Ex.refl:Ex X w w:=⟨rfl,rfl,rfl,o_,s_⟩
def Ex.trans(h:Ex X w w')(a:Ex Y w' w'')(f:∀b,b<w.heap.size->Y b->X b):Ex X w w'':=
 ⟨a.os.trans h.os,a.output.trans h.output,a.tape.trans h.tape,as8 h.size a.size,λb c d=>(a.block b (ar4 c h.size) λe=>d (f b c e)).trans (h.block b c d)⟩
def Ex.of_below(h:Bw w w'):Ex X w w':=⟨h.os,h.output,h.tape,h.size,λb a _=>h.block b a⟩
def Ex.at(h:Ex X w w'){o}(c:¬X b)(a:w.heap[b]?=some o):w'.heap[b]?=some o:=(h.block b (aK a) c).trans a
def gK(w:World)(b:Nat)(cs:Array Value)(t:TypeId):World:={w with heap:=w.heap.setIfInBounds b (.cells cs t)}
def bZ{o}{cs}(h:w.heap[b]?=some o):(gK w b cs t).heap[b]?=some (.cells cs t):=by simp[gK,aK h]
def cR{c}{cs}(h:c≠b):(gK w b cs t).heap[c]?=w.heap[c]?:=by simp[gK];grind
def dE{cs}:(gK w b cs t).heap.size=w.heap.size:=by simp[gK]
def dn(b)(cs)(t):Ex (· =b) w (gK w b cs t):=⟨rfl,rfl,rfl,ay9 dE.symm,λ_ _ h=>cR h⟩
def GF{cs cs'}{a}:gK (gK w b cs t) b cs' a=gK w b cs' a:=by simp[gK]
def jB{cs}(v)(h:w.heap[b]?=some (.cells cs t)):w.setCell ⟨b,k,none⟩ v=gK w b (cs.setIfInBounds k v) t:=by
 unfold World.setCell gK
 congr 1
 grind
def lR{cs old}(h:w.heap[b]?=some (.cells old t)):w.setRow b cs=gK w b cs t:=by
 unfold World.setRow gK
 congr 1
 grind
end
def qj(fl:Value)(W K:List Int)(on:Bool)(sl:Int):Array Value:=(fl::(W.map (Value.int .i64)++(K.map (Value.int .u8)++[.bool on, .int .i64 sl]))).toArray
section
variable{fl:Value}{W K:List Int}{on:Bool}{sl:Int}
def XV(i)(h:i<W.length):(qj fl W K on sl)[1+i]?=some (.i W[i]):=by simp[qj,Nat.add_comm 1 i,as9,h]
def WL(a:W.length=85)(i)(h:i<K.length):(qj fl W K on sl)[86+i]?=some (.int .u8 K[i]):=by rw[show 86+i=(85+i)+1 by omega];simp[qj,List.getElem?_append_right,as9,a,h]
def vK(a:W.length=85)(b:K.length=16):(qj fl W K on sl).size=104:=by simp[qj,a,b]
def HY(a:W.length=85)(i)(h:i<K.length)(v):(qj fl W K on sl).setIfInBounds (86+i) (.int .u8 v)=qj fl W (K.set i v) on sl:=by simp only[qj,ZR];rw[show 86+i=(85+i)+1 by omega,List.set_cons_succ,List.set_append_right _ _ (by simp[a]),List.set_append_left _ _ (by simp[a];omega),aE6];simp[a]
def I0(c:W.length=85)(d:K.length=16)(b)(a):((qj fl W K on sl).setIfInBounds 102 (.bool b)).setIfInBounds 103 (.i a)=qj fl W K b a:=by simp[qj,ZR];simp_all
end
section
def gW{R}(c:P.funcs[f]?=some fn)(b:fn.results=#[])
 (h:∀cs,Rn P (λg w'=>∃a k,g=cD {(base f).atR a k with mode:= .returning} cs/\a.defers=[]/\R (.returned (.tuple #[])) w') (as7 P f args .normal) cs w):Calls P f args w R:=λcs=>by obtain⟨j,w',i,a,k,rfl,e,d⟩:=h cs;refine⟨.returned (.tuple #[]),w',{(base f).atR a k with mode:= .returning},d,ZN i,rfl,rfl,e,rfl,fn,c, ?_⟩;show(results fn a.tmps).run P w'=_;simp[results,b]
variable{k:List Item}
def Rn.g0{R:World->Prop}(c:Has F N [] a)(b:R w)(d:fV 6 ((base f).atR a k)=[]:=by rfl):
 Rn P (λg w'=>∃a k,g=cD {(base f).atR a k with mode:= .returning} cs/\a.defers=[]/\R w') ((base f).atR a k) cs w:=
 Rn.runs 6 k (by rw[d];exact Rn.ends rfl s_ (Rn.now ⟨a,_,rfl,c.defers,b⟩))
end
end
namespace L1
open Go.Conc Go.RowKit
section
variable{y z:Operand}
def Eg{g}(a:o.op= .nilCheck x)(b:ev x= .pointer (some g)):(execOp ev o).run lT w= .ok (.value (.pointer (some g))) w:=by simp[execOp,a,b]
def OW(a:o.op= .fieldAddr 149 x 0)(c:ev x= .pk b 0):(execOp ev o).run lT w= .ok (.value (.pk b 0)) w:=by simp[execOp,a,c];kernel_rfl
def OV(a:o.op= .fieldAddr 149 x 1)(c:ev x= .pk b 0):(execOp ev o).run lT w= .ok (.value (.pk b 1)) w:=by simp[execOp,a,c];kernel_rfl
def OU(a:o.op= .fieldAddr 149 x 2)(c:ev x= .pk b 0):(execOp ev o).run lT w= .ok (.value (.pk b 86)) w:=by simp[execOp,a,c];kernel_rfl
def OT(a:o.op= .fieldAddr 149 x 3)(c:ev x= .pk b 0):(execOp ev o).run lT w= .ok (.value (.pk b 102)) w:=by simp[execOp,a,c];kernel_rfl
def Gs(j)(f:j<3)(a:o.op= .fieldAddr 151 x j)(c:ev x= .pk b 0):(execOp ev o).run lT w= .ok (.value (.pk b j)) w:=by simp[execOp,a,c];rcases(o_:j=0\/j=1\/j=2)with rfl|rfl|rfl<;>kernel_rfl
def OQ(j)(f:j<5)(a:o.op= .fieldAddr 100 x j)(c:ev x= .pk b 0):(execOp ev o).run lT w= .ok (.value (.pk b j)) w:=by simp[execOp,a,c];rcases(o_:j=0\/j=1\/j=2\/j=3\/j=4)with rfl|rfl|rfl|rfl|rfl<;>kernel_rfl
def OS(a:o.op= .fieldAddr 127 x 0)(c:ev x= .pk b 0):(execOp ev o).run lT w= .ok (.value (.pk b 0)) w:=by simp[execOp,a,c];kernel_rfl
def GJ:Bn lT 123:=λw=>⟨k_,k_⟩
def tv:Bn lT 83:=λw=>⟨k_,k_⟩
def VX(a:o.op= .indexAddr 145 x (.const (.i 0)))(c:ev x= .pk b 86)(d:ev (.const (.i 0))= .i 0):(execOp ev o).run lT w= .ok (.value (.pk b 86)) w:=by simp[execOp,a,c,d];kernel_rfl
def VW(j:n<16)(a:o.op= .indexAddr 145 x y)(e:ev x= .pk b 86)(d:ev y= .int .u8 n):(execOp ev o).run lT w= .ok (.value (.pk b (86+n))) w:=by
 have f:lT.underlying 145=some (.array 16 5):=k_
 have g:(sizeOf 5).run lT w= .ok 1 w:=k_
 have c:(n:Int)<16:=o_
 have i:(if n=0 then(⟨b,86,none⟩:Addr)else⟨b,86+n,none⟩)=⟨b,86+n,none⟩:=by simp_all
 simp[execOp,a,e,d,go_sem,f,g,c,Y1,i]
def fe{cs}{d}(hv:v.cells=#[v])(a:v.oneCell'=true)(g:(sizeOf t).run lT w= .ok 1 w)(c:o.op= .store t x y)(f:ev x= .pk b k)(e:ev y=v)(h:w.heap[b]?=some (.cells cs d))(i:k<cs.size):
 (execOp ev o).run lT w= .ok .skip (gK w b (cs.setIfInBounds k v) d):=by rw[←jB v h];exact(ff (v0:=cs[k]) hv a g c f e (by rw[aH h];simp[i]) (by simp[If,h])).1
def Sf{m n}(a:o.op= .binOp .leq 3 x y u)(c:ev x= .i m)(b:ev y= .i n):(execOp ev o).run lT w= .ok (.value (.bool (decide (m<=n)))) w:=by simp[execOp,a,c,b,go_sem]
def OA(a:o.op= .binOp .rem 5 x y u)(d:ev x= .int .u8 m)(c:ev y= .int .u8 n)(f:0<n):(execOp ev o).run lT w= .ok (.value (.int .u8 ((m%n:Nat):Int))) w:=by
 have e:(m:Int).tmod (n:Int)=((m%n:Nat):Int):=by grind
 have b:¬n=0:=o_
 simp[execOp,a,d,c,go_sem,e,b]
def GB{m n}(a:o.op= .binOp .add 5 x y u)(c:ev x= .int .u8 m)(b:ev y= .int .u8 n):(execOp ev o).run lT w= .ok (.value (.int .u8 (ZH.wrap (m+n)))) w:=by simp[execOp,a,c,b,go_sem]
def Gk{on}{sl}{cs}{a}(c:o.op= .store 147 x y)(l:ev x= .pk b 102)(j:ev y= .agg #[.bool on, .i sl])(h:w.heap[b]?=some (.cells cs a))(g:cs.size=104):
 (execOp ev o).run lT w= .ok .skip (gK w b ((cs.setIfInBounds 102 (.bool on)).setIfInBounds 103 (.i sl)) a):=by
 have m:(sizeOf 147).run lT w= .ok 2 w:=k_
 have p:w.cell? ⟨b,102,none⟩=some cs[102]:=by rw[aH h];simp[g]
 have r:w.frozen? ⟨b,102,none⟩=false:=by simp[If,h]
 have f:=jB (k:=102) (.bool on) h;have d:=bZ (cs:=cs.setIfInBounds 102 (.bool on)) (t:=a) h;have n:(w.setCell ⟨b,102,none⟩ (.bool on)).cell? ⟨b,103,none⟩=some cs[103]:=by rw[f,aH d];simp[g]
 have q:(w.setCell ⟨b,102,none⟩ (.bool on)).frozen? ⟨b,103,none⟩=false:=by rw[f];simp[If,d]
 have i:=jB (k:=103) (.i sl) d;rw[GF,←f]at i;simp[execOp,c,l,j];rw[←i];simp[Instr.storeAt,storeVar,Value.cells,m,storeCells,Y1,p,r,n,q,go_sem]
def Se(a:o.op= .build 147 #[]):(execOp ev o).run lT w= .ok (.value (.agg #[.bool false, .i 0])) w:=by simp[execOp,a];kernel_rfl
def Sd{sl}(a:o.op= .build 147 #[(0,x),(1,y)])(c:ev x= .bool true)(b:ev y= .i sl):(execOp ev o).run lT w= .ok (.value (.agg #[.bool true, .i sl])) w:=by simp[execOp,a,c,b];kernel_rfl
end
def oc{p:Prop}(h:p:=by
 first
 |exact oq
 |exact Eg ho gx
 |exact OW ho gx
 |exact OV ho gx
 |exact OU ho gx
 |exact OT ho gx
 |exact Gs _ d_ ho gx
 |exact OQ _ d_ ho gx
 |exact OS ho gx
 |exact Sf ho gx gx
 |exact Se ho
 |exact Sd ho gx gx
 |exact VX ho gx gx
 |exact(aO (by first|exact GJ|exact ED|exact tv) ho gx ((aH (by assumption) _).trans rfl)).1):p:=h
section
variable{b:Frame}{k:List Item}
def Rn.uc{k':List Item}{d:Tmp}{p:Op}{v:Value}{gd:Option (Nat×Bool)}(hF:Has F N ds a)(next:∀a',Has ((d,v)::F) N ds a'->Rn P Goal (b.atR a' (.inRegion ops rest::k')) cs w)(h0:fV 6 (b.atR a k)= .inRegion ops (m::rest)::k':=by rfl)
 (h:(ops[m]?).map (λo=>(o.dst,o.op,o.guard))=some (some d,p,gd):=by rfl) (hw:gV ops F gd=some true:=by rfl) (hy:∀o:Oper,o.op=p->(execOp a.eval o).run P w= .ok (.value v) w:=by intro o ho;exact oc) (hd:d<N:=by decide) (hnd:nd p=true:=by rfl):Rn P Goal (b.atR a k) cs w:=Rn.gr (Rn.qq hF next h hw hy hd hnd) h0
end
def NM(w:World)(cb:Nat)(fl:Value)(W:List Int)(on:Bool)(sl:Int):Prop:=W.length=85/\∃K:List Int,K.length=16/\(∀i (h:i<K.length),0<=K[i]/\K[i]<256)/\w.heap[cb]?=some (.cells (qj fl W K on sl) 149)
def pU(cb:Nat)(room:Int)(cut:Bool):Array Value:=#[.pk cb 0, .int .i64 room, .bool cut]
section
variable{cb:Nat}{fl:Value}{W:List Int}{on:Bool}{sl:Int}
def TK:f99.body=some (rG f99 0):=k_
def U1:f182.body=some (rG f182 0):=k_
def U8:f175.body=some (.seq (rG f175 0) (.seq (rG f175 1) (rG f175 2))):=k_
def MU:f157.body=some (.seq (.seq (rG f157 0) (.cond (.tmp 8) (.seq (rG f157 1) (rG f157 2)) .skip)) (.seq (rG f157 3) (rG f157 4))):=k_
end
end L1
section
open Go.RowKit
def bJ{p q}{ty}(h:fn.results=#[.cell p ty, .tmp q])(tmps)(w)(b o)(cs)(d)(v)
 (f:tmps.getD p undef= .pk b o) (j:w.rangeAt b o cs) (hv:tmps.getD q undef=v)
 (e:P.underlying ty=some d) (i:d.isRow=true) (g:(P.info? ty).map (·.size)=some cs.length):
 (results fn tmps).run P w= .ok (.tuple #[.agg cs.toArray,v]) w:=by
 have c:tmps[p]?.getD undef= .pk b o:=by simpa using f
 have a:tmps[q]?.getD undef=v:=by simp_all
 simp[results,h,c,a,asAddr,run_loadVar_mid w b o ty cs d j e i g]
def Yo(s:ByteArray)(a b:Nat):s.extract a b=⟨(cq s.data.toList a b).toArray⟩:=by obtain⟨⟨l⟩⟩:=s;apply aH4;simp[cq,aQ7,aS4]
def rm(v s e a l:Int)(k:List UInt8):List Value:=[.int .i64 v, .int .i64 s, .int .i64 e, .int .i64 a, .int .i64 l, .string ⟨k.toArray⟩]
def fp:List Value:=rm 0 0 0 0 0 []
def mY(v sg en a l:Int)(k:List UInt8):List Value×Int:=
 if sg<78\/8192<sg\/a<sg\/8192<a+l then(fp,5)else
 if en%4≠0\/en<78\/sg<=en then(fp,6)else
 (rm v sg en a l k,0)
def lz(L:List UInt8):List Value×Int:=
 if L.length<8192 then(fp,3)else
 if L.take 4≠[76,78,84,76]then(fp,4)else
 mY (dC (cq L 4 6)) (dC (cq L 6 10)) (dC (cq L 10 14)) (dC (cq L 14 18)) (dC (cq L 18 22)) (cq L 22 78)
def zq(L):(lz L).1=fp\/∃v b en a l k,(lz L).1=rm v b en a l k:=by
 unfold lz;split
 .simp_all
 .split
  .simp_all
  .unfold mY
   grind
def Hh(L):(lz L).1.length=6:=by rcases zq L with h|⟨v,b,c,a,l,k,h⟩<;>rw[h]<;>rfl
def Hg(L):∀v∈(lz L).1,v.oneCell'=true:=by
 obtain h|⟨v,c,d,a,l,k,h⟩:=zq L
 .rw[h];intro v b;simp[fp,rm]at b;rcases b with rfl|rfl<;>rfl
 .rw[h];intro v b;simp[rm]at b;rcases b with rfl|rfl|rfl|rfl|rfl|rfl<;>rfl
end
namespace L1
open Go.RowKit
def Kh(s)(w)(a:s.size<=281474976710656):Calls lT 96 #[.s s] w λe w'=>e= .returned (.s s)/\Bw w w':=by
 go_enter lf96,ntmps96
 go_wp2_with (go_at_call 123;refine(Lf.stringslite_Clone s _ a).mono ?_;rintro e w' ⟨rfl,b⟩)
 go_ret
 simp_all
def Mo(s:ByteArray)(w:World)(hs:s.size<=281474976000000):
 Calls lT 72 #[.s s] w λe w'=>e= .returned (.tuple #[.agg (lz s.data.toList).1.toArray, .i (lz s.data.toList).2])/\Bw w w':=by
 have i:s.data.toList.length=s.size:=by simp_all
 by_cases H:s.size<8192
 .have E:lz s.data.toList=(fp,3):=by rw[lz,if_pos (by rw[i];exact H)]
  rw[E];have G:(s.size:Int)<8192:=o_
  go_enter lf72,ntmps72
  go_wp2_with fail
  exact bodyPost_ret (v:= .tuple #[.agg fp.toArray, .i 3]) (bJ (p:=2) (q:=3) (ty:=87) k_ _ _ w.heap.size 0 fp _ _ rfl (dG _ fp _ _ rfl) rfl lu87 rfl k_) rfl ⟨rfl,(bR).alloc o_ _⟩
 .have G:¬(s.size:Int)<8192:=o_
  have a0:(8192:Int)<=(s.size:Int):=o_
  have g:=λa b (h:b<=8192)=>jH s.data.toList a b (by rw[i];omega);have Z:s.extract 0 4=⟨(s.data.toList.take 4).toArray⟩:=by rw[Yo];rfl
  by_cases y:s.data.toList.take 4≠[76,78,84,76]
  .have E:lz s.data.toList=(fp,4):=(by rw[lz,if_neg (by rw[i];exact H),if_pos y]);rw[E];have F:(s.data.toList.take 4==[76,78,84,76])=false:=by simp_all
   go_enter lf72,ntmps72
   go_wp2_with fail
   exact bodyPost_ret (v:= .tuple #[.agg fp.toArray, .i 4]) (bJ (p:=2) (q:=3) (ty:=87) k_ _ _ w.heap.size 0 fp _ _ rfl (dG _ fp _ _ rfl) rfl lu87 rfl k_) rfl ⟨rfl,(bR).alloc o_ _⟩
  .have x:s.data.toList.take 4=[76,78,84,76]:=Classical.not_not.1 y;have F:(s.data.toList.take 4==[76,78,84,76])=true:=(by simp_all);rw[show lz s.data.toList=mY (dC (cq s.data.toList 4 6)) (dC (cq s.data.toList 6 10)) (dC (cq s.data.toList 10 14)) (dC (cq s.data.toList 14 18)) (dC (cq s.data.toList 18 22)) (cq s.data.toList 22 78)from by rw[lz,if_neg (by rw[i];exact H),if_neg y]];have t:Hid (∀a b,b<=8192->(cq s.data.toList a b).length=b- a):=g;have r:∀a b,b<=8192->b- a<=4->0<=dC (cq s.data.toList a b)/\dC (cq s.data.toList a b)<4294967296:=λa b h h'=>jY _ 4 (by simp_all);have O:=r 4 6 o_ o_;have N:=r 6 10 o_ o_;have M:=r 10 14 o_ o_;have L:=r 14 18 o_ o_;have K:=r 18 22 o_ o_;clear r g y x
   go_enter lf72,ntmps72
   go_wp2_with fail
   rw[Yo];refine(fN _ _ (by show(cq s.data.toList 4 6).toArray.size<=8;rw[JR,t.out _ _ o_];omega)).mono ?_;rintro e m xQ
   go_wp2_with fail
   rw[Yo];refine(fN _ _ (by show(cq s.data.toList 6 10).toArray.size<=8;rw[JR,t.out _ _ o_];omega)).mono ?_;rintro e m xQ
   go_wp2_with fail
   rw[Yo];refine(fN _ _ (by show(cq s.data.toList 10 14).toArray.size<=8;rw[JR,t.out _ _ o_];omega)).mono ?_;rintro e m xQ
   go_wp2_with fail
   rw[Yo];refine(fN _ _ (by show(cq s.data.toList 14 18).toArray.size<=8;rw[JR,t.out _ _ o_];omega)).mono ?_;rintro e m xQ
   go_wp2_with fail
   rw[Yo];refine(fN _ _ (by show(cq s.data.toList 18 22).toArray.size<=8;rw[JR,t.out _ _ o_];omega)).mono ?_;rintro e m ⟨rfl,rfl⟩;rw[show(ByteArray.mk (cq s.data.toList 18 22).toArray).data.toList=cq s.data.toList 18 22 from rfl];obtain⟨v,A⟩:∃v,dC (cq s.data.toList 4 6)=v:=s_;obtain⟨c,j⟩:∃v,dC (cq s.data.toList 6 10)=v:=s_;obtain⟨d,k⟩:∃v,dC (cq s.data.toList 10 14)=v:=s_;obtain⟨a,C⟩:∃v,dC (cq s.data.toList 14 18)=v:=s_;obtain⟨l,B⟩:∃v,dC (cq s.data.toList 18 22)=v:=s_;have n:Hid (mY (dC (cq s.data.toList 4 6)) (dC (cq s.data.toList 6 10)) (dC (cq s.data.toList 10 14)) (dC (cq s.data.toList 14 18)) (dC (cq s.data.toList 18 22)) (cq s.data.toList 22 78)=mY v c d a l (cq s.data.toList 22 78)):=by show mY _ _ _ _ _ _=_;rw[A,j,k,C,B]
   rw[A,j,k,C,B];rw[A]at O;rw[j]at N;rw[k]at M;rw[C]at L;rw[B]at K;clear A j k C B;obtain xQ:=O;obtain xQ:=N;obtain xQ:=M;obtain xQ:=L;obtain xQ:=K;have hw:Tu.wrap (a+l)=a+l:=(by rw[XZ,Int.emod_eq_of_lt o_ o_]);by_cases c1:c<78
   .have f:mY v c d a l (cq s.data.toList 22 78)=(fp,5):=by rw[mY,if_pos o_]
    go_wp2_with fail
    exact bodyPost_ret (v:= .tuple #[.agg fp.toArray, .i 5]) (bJ (p:=2) (q:=3) (ty:=87) k_ _ _ w.heap.size 0 fp _ _ rfl (dG _ fp _ _ rfl) rfl lu87 rfl k_) rfl ⟨by rw[n.out,f],(bR).alloc (ar5 _) _⟩
   .have a6:¬c<78:=c1;by_cases c2:8192<c
    .have f:mY v c d a l (cq s.data.toList 22 78)=(fp,5):=by rw[mY,if_pos o_]
     go_wp2_with fail
     exact bodyPost_ret (v:= .tuple #[.agg fp.toArray, .i 5]) (bJ (p:=2) (q:=3) (ty:=87) k_ _ _ w.heap.size 0 fp _ _ rfl (dG _ fp _ _ rfl) rfl lu87 rfl k_) rfl ⟨by rw[n.out,f],(bR).alloc (ar5 _) _⟩
    .have a5:¬8192<c:=c2;by_cases c3:a<c
     .have f:mY v c d a l (cq s.data.toList 22 78)=(fp,5):=by rw[mY,if_pos o_]
      go_wp2_with fail
      exact bodyPost_ret (v:= .tuple #[.agg fp.toArray, .i 5]) (bJ (p:=2) (q:=3) (ty:=87) k_ _ _ w.heap.size 0 fp _ _ rfl (dG _ fp _ _ rfl) rfl lu87 rfl k_) rfl ⟨by rw[n.out,f],(bR).alloc (ar5 _) _⟩
     .have a4:¬a<c:=c3;by_cases c4:8192<a+l
      .have f:mY v c d a l (cq s.data.toList 22 78)=(fp,5):=by rw[mY,if_pos o_]
       go_wp2_with fail
       exact bodyPost_ret (v:= .tuple #[.agg fp.toArray, .i 5]) (bJ (p:=2) (q:=3) (ty:=87) k_ _ _ w.heap.size 0 fp _ _ rfl (dG _ fp _ _ rfl) rfl lu87 rfl k_) rfl ⟨by rw[n.out,f],(bR).alloc (ar5 _) _⟩
      .have a3:¬8192<a+l:=c4;have D:¬(c<78\/8192<c\/a<c\/8192<a+l):=o_;by_cases d1:d%4≠0
       .have f:mY v c d a l (cq s.data.toList 22 78)=(fp,6):=(by rw[mY,if_neg D,if_pos o_]);have I:(d%4==0)=false:=by simp_all
        go_wp2_with fail
        exact bodyPost_ret (v:= .tuple #[.agg fp.toArray, .i 6]) (bJ (p:=2) (q:=3) (ty:=87) k_ _ _ w.heap.size 0 fp _ _ rfl (dG _ fp _ _ rfl) rfl lu87 rfl k_) rfl ⟨by rw[n.out,f],(bR).alloc (ar5 _) _⟩
       .have I:(d%4==0)=true:=(by simp_all);by_cases d2:d<78
        .have f:mY v c d a l (cq s.data.toList 22 78)=(fp,6):=by rw[mY,if_neg D,if_pos o_]
         go_wp2_with fail
         exact bodyPost_ret (v:= .tuple #[.agg fp.toArray, .i 6]) (bJ (p:=2) (q:=3) (ty:=87) k_ _ _ w.heap.size 0 fp _ _ rfl (dG _ fp _ _ rfl) rfl lu87 rfl k_) rfl ⟨by rw[n.out,f],(bR).alloc (ar5 _) _⟩
        .have a2:¬d<78:=d2;by_cases d3:c<=d
         .have f:mY v c d a l (cq s.data.toList 22 78)=(fp,6):=by rw[mY,if_neg D,if_pos o_]
          go_wp2_with fail
          exact bodyPost_ret (v:= .tuple #[.agg fp.toArray, .i 6]) (bJ (p:=2) (q:=3) (ty:=87) k_ _ _ w.heap.size 0 fp _ _ rfl (dG _ fp _ _ rfl) rfl lu87 rfl k_) rfl ⟨by rw[n.out,f],(bR).alloc (ar5 _) _⟩
         .have a1:¬c<=d:=d3;have f:mY v c d a l (cq s.data.toList 22 78)=(rm v c d a l (cq s.data.toList 22 78),0):=by rw[mY,if_neg D,if_neg o_]
          go_wp2_with fail
          rw[Yo];refine(Kh _ _ (by show(cq s.data.toList 22 78).toArray.size<=_;rw[JR,t.out _ _ o_];omega)).mono ?_;rintro e m ⟨rfl,o⟩;have u:m.there w.heap.size 0 6:=fF o s_ (dB _ _ _ _ _ rfl rfl);have J:Hid (Bw w m):=((bR).alloc (ar5 _) _).trans (o.mono s_);have y1:DN.wrap v=v:=(by rw[as3];omega);have y2:DN.wrap c=c:=(by rw[as3];omega);have y3:DN.wrap d=d:=(by rw[as3];omega);have y4:DN.wrap a=a:=(by rw[as3];omega);have y5:DN.wrap l=l:=(by rw[as3];omega);have z:Hid (m.there w.heap.size 0 (rm v c d a l (cq s.data.toList 22 78)).toArray.size):=u;clear o u
          go_wp2_with (refine wpList_store_mid rfl 87 (.tmp 2) (.tmp 76) rfl w.heap.size 0 (rm v c d a l (cq s.data.toList 22 78)).toArray rfl rfl z.out k_ k_ ?_)
          exact bodyPost_ret (v:= .tuple #[.agg (rm v c d a l (cq s.data.toList 22 78)).toArray, .i 0]) (bJ (p:=2) (q:=3) (ty:=87) k_ _ _ w.heap.size 0 (rm v c d a l (cq s.data.toList 22 78)) _ _ rfl (World.rangeAt_setCells_same _ _ _ _ z.out) rfl lu87 rfl k_) rfl ⟨by rw[n.out,f],bV (ar5 _) _ _ _ _ J.out⟩
end L1
namespace L1
open Go.Conc Go.RowKit
def d8(r:Int)(j:Bool)(s e c:Int):Array Value:=#[.int .i64 r, .bool j, .int .i64 s, .int .i64 e, .int .i64 c]
def XR(cb rb:Nat):Nat->Prop:=λb=>b=cb\/b=rb
def mo(w:World)(fl:Value)(L:ByteArray):Prop:=L.size=16384/\∃fb cap cells fr,fl= .sk fb 16384 cap/\16384<=cap/\w.heap[fb]?=some (.cells cells 5 fr)/\16384<=fr.1/\∀j (h:j<L.data.toList.length),cells[j]?=some (.int .u8 (L.data.toList[j].toNat:Int))
def rf{e d}{fl}{W}{on}{sl}{c}(h:NM w e fl W on sl)(f:w.heap[d]?=some (.cells c 151))(b)(cs)(fr)(a:w.heap[b]?=some (.cells cs 5 fr)):¬XR e d b:=by
 rintro(rfl|rfl)
 .have⟨_,K,_,_,h⟩:=h;simp_all
 simp_all
def FK{d b}{fl}{W}{on}{sl}{c}(h:NM w d fl W on sl)(f:w.heap[b]?=some (.cells c 151)):d≠b:=λe=>by have⟨i,K,j,g,a⟩:=h;simp_all
def Ex.wide{X Y}(h:Ex X w w')(c:∀b,b<w.heap.size->X b->Y b):Ex Y w w':=⟨h.os,h.output,h.tape,h.size,λb a d=>h.block b a λe=>d (c b a e)⟩
section
variable{y z:Operand}
def jN(a:o.op= .alloc 100):(execOp ev o).run lT w= .ok (.value (.pk w.heap.size 0)) (w.alloc (.cells (d8 0 false 0 0 0) 100)):=by simp[execOp,a];kernel_rfl
def vF(a:o.op= .build 100 #[(4,x)])(b:ev x= .i c):(execOp ev o).run lT w= .ok (.value (.agg (d8 0 false 0 0 c))) w:=by simp[execOp,a,b];kernel_rfl
def Gr{s n}(a:o.op= .build 100 #[(1,x),(2,y),(3,z)])(d:ev x= .bool true)(c:ev y= .i s)(b:ev z= .i n):(execOp ev o).run lT w= .ok (.value (.agg (d8 0 true s n 0))) w:=by simp[execOp,a,d,c,b];kernel_rfl
def ka:(lT.info? 100).map (·.size)=some 5:=k_
def gn{r s e}{j}{old}{d}(a:o.op= .store 100 x y)(g:ev x= .pk b 0)(f:ev y= .agg (d8 r j s e c))(h:w.heap[b]?=some (.cells old d))(i:old.size=5):
 (execOp ev o).run lT w= .ok .skip (gK w b (d8 r j s e c) d):=by rw[←lR h];exact cZ a g f h ka i (by simp[d8,Ic])
def N3{g a cap}(c:o.op= .slice 83 x (some y) (some z) none)(f:ev x= .sk g a cap)(e:ev y= .i m)(d:ev z= .i n)(h:n<=cap)(p:m<n):(execOp ev o).run lT w= .ok (.value (.slice (some ⟨g,m,none⟩) (n- m) (cap- m))) w:=by
 have i:lT.underlying 83=some (.slice 5):=k_
 have b:(sizeOf 5).run lT w= .ok 1 w:=k_
 have k:m<=n:=o_
 have j:¬cap=m:=o_
 have l:(⟨g,0,none⟩:Addr).add m=⟨g,m,none⟩:=by rw[AS,as5]
 simp[execOp,c,f,e,d,Mv,YT,Ng,run_underlying i,Tv,asIntOf,h,b,k,j,l]
def rW{g off cap}{l:List UInt8}(a:o.op= .convert 83 9 x)(c:ev x= .slice (some ⟨g,off,none⟩) l.length cap)(d:∀j b,w.cell? ⟨g,off+j,none⟩=some (.int .u8 (l[j].toNat:Int))):(execOp ev o).run lT w= .ok (.value (.string ⟨l.toArray⟩)) w:=by have h:=run_convert_bytes_back (P:=lT) w 83 9 5 ⟨g,off,none⟩ cap l k_ k_ k_ (λj b=>by rw[AS];exact d j b);simp[execOp,a,c];simp[h]
end
section
variable{cb rb:Nat}{fl:Value}{W:List Int}{on:Bool}{sl room:Int}
def MR:f159.body=some (.seq (rG f159 0) (.seq (rG f159 1) (.seq (rG f159 2) .ret))):=k_
def MW:f161.body=some (.seq (rG f161 0) (.seq (rG f161 1) (.seq (rG f161 2) (.seq (rG f161 3) .ret)))):=k_
def Uf:f160.body=some (.seq (rG f160 0) (.seq (rG f160 1) (.seq (rG f160 2) (.seq (rG f160 3) .ret)))):=k_
end
end L1
section
open Go.RowKit
def uG(x:Int):Int:=
 let a:=Tu.wrap (bits .and .u64 (x/2^1) 6148914691236517205+bits .and .u64 x 6148914691236517205)
 let b:=Tu.wrap (bits .and .u64 (a/2^2) 3689348814741910323+bits .and .u64 a 3689348814741910323)
 let c:=bits .and .u64 (Tu.wrap (b/2^4+b)) 1085102592571150095
 let d:=Tu.wrap (c+c/2^8)
 let e:=Tu.wrap (d+d/2^16)
 let f:=Tu.wrap (e+e/2^32)
 bits .and .i64 (DN.wrap f) 127
def xe(a b c:Nat):Nat:=((a&&&b)|||(a&&&c))|||(b&&&c)
def DT(W:List Int):Bool:=(W.getD 0 0==255||W.getD 0 0==3855||W.getD 0 0==13107||W.getD 0 0==21845)&&W.getD 0 0==W.getD 1 0
def sZ(W:List Int):Nat:=xe (W.getD 2 0).toNat (W.getD 3 0).toNat (W.getD 4 0).toNat
def M4(W:List Int):Bool:=sZ W&&&(sZ W+1)==0
def jq(W:List Int)(k:Nat):List Int:=(W.drop (5+20*k)).take 20
def u7(x y:Int):Bool:=(x==y)&&(x==4080||x==61455)
def iM(L:List Int):Bool:=u7 (L.getD 0 0) (L.getD 1 0)&&u7 (L.getD 2 0) (L.getD 3 0)
def io(L:List Int):Bool:=(L.getD 0 0==4080)&&(L.getD 2 0==61455)
def ey(L:List Int):List UInt8:=L.flatMap λx=>dm x.toNat 2
def r9(W:List Int):Bool:=DT W&&M4 W&&(ar7 4).all λk=>iM (jq W k)
def E3(W:List Int):List Bool:=(ar7 4).map λk=>io (jq W k)
def Mn(W:List Int):List ByteArray:=(ar7 4).map λk=>⟨(ey ((jq W k).drop 4)).toArray⟩
def g6(W:List Int):Prop:=W.length=85/\∀i,i<85->0<=W.getD i 0/\W.getD i 0<65536
def UW(W:List Int)(st le c:Int)(us:List Bool)(hs:List ByteArray):Prop:=(r9 W=true/\c=0/\st=W.getD 0 0/\le=uG (sZ W)/\us=E3 W/\hs=Mn W)\/(r9 W=false/\c=1)
end
namespace L1
open Go.Conc Go.RowKit
def UV(W:List Int)(w:World)(v:Value)(w':World):Prop:=∃st le c pu lu qu ph lh qh us hs,v= .tuple #[.agg (eR st le (.slice pu lu qu) (.slice ph lh qh)), .int .i64 c]/\UW W st le c us hs/\Bw w w'/\
 (c=0->∃bu bh,pu=some ⟨bu,0,none⟩/\lu=4/\qu=4/\ph=some ⟨bh,0,none⟩/\lh=4/\qh=4/\w'.heap[bu]?=some (.cells (us.map Value.bool).toArray 4)/\w'.heap[bh]?=some (.cells (hs.map Value.string).toArray 9))
def pL:Prop:=∀(W:List Int) (w:World) (cb off q:Nat),85<=q->g6 W->w.rangeAt cb off (W.map (Value.int .i64))->cb<w.heap.size->
 Calls (aI true prog) 158 #[.slice (some ⟨cb,off,none⟩) 85 q] w λe w'=>∃v,e= .returned v/\UV W w v w'
def I5(f:Func):Code:= .block 1 (.seq (rG f 4) (.cond (.tmp 15) (.seq (rG f 5) .ret) .skip))
def Gh(f:Func)(T:Array Value)(ld:Nat)(st:LoopState)(pd:Option Code):Loop:={state:=st,pending:=pd,fn:=73,tmps:=T,params:=#[12],assign:= .region 3 (bP f 3) false,body:=I5 f,defers:=ld}
section
variable{b5 ld:Nat}{fz:Array Value}{x:ByteArray}{T:Array Value}{cf:Frame}
def S3(hT:Has [(4, .pt b4),(5, .pt b5)] 16 [] ⟨T,[]⟩)(hl:w0.heap.size<=l)(hb:w0.heap.size<=b4){h}
 (hC:Cv 45 4 9 w0 b3 b4 b5 l ld (Gh f73 T ld .ready none) fz x false w)
 (nt:(h.data.toList==x.data.toList)=false->∀w',Cv 45 4 9 w0 b3 b4 b5 l ld (Gh f73 T ld .ready none) fz x false w'->Rn lT Goal (cf.finish (.bool true)) cs w')
 (nq:(h.data.toList==x.data.toList)=true->∀w',Cv 45 4 9 w0 b3 b4 b5 l ld (Gh f73 T ld .done (some .ret)) fz x true w'->Rn lT Goal (cf.finish (.bool false)) cs w'):
 Rn lT Goal (YU l 73 (((#[12]:Array Tmp).zip #[.s h]).foldl (λtmps (t,a)=>tmps.setIfInBounds t a) T) (rG f73 3) (I5 f73) .normal) (cf::cs) w:=by
 have hF:=hT.put (d:=12) d_ (.s h);have ez:((#[12]:Array Tmp).zip #[.s h]).foldl (λ tmps x=>match x with|(t,a)=>tmps.setIfInBounds t a) T=T.setIfInBounds 12 (.s h):=s_
 rw[ez];show Rn _ Goal ((rb 73 l).atR (ZM ⟨T,[]⟩ (some 12) (.s h)) [.code (rG f73 3), .beginRound, .code (I5 f73)]) (cf::cs) w;revert hF;generalize ZM ⟨T,[]⟩ (some 12) (.s h)=a;intro hF;refine Rn.r rfl (Rn.S hF 6 12 rfl λa hF=> ?_);refine Rn.p rfl (Rn.rounds rfl hC.loop rfl ?_);have hC1:=hC.turn hl (Gh f73 T ld .busy none);refine Rn.uu hF λa hF=> ?_;refine Rn.vv hF (λo ho=>(aO cC ho (hF.G 5) ((aH hC1.hsh 0).trans rfl)).1) λa hF=> ?_;refine Rn.uu hF λa hF=> ?_;refine Rn.p rfl (Rn.cond _ (hF.G 15) ?_);cases he:(h.data.toList==x.data.toList)with
 |true=>
  refine Rn.nn hF (λo ho=>(ff rfl rfl k_ ho (hF.G 4) rfl ((aH hC1.res 0).trans rfl) (by simp[If,hC1.res])).1) λa hF=> ?_;have hC2:=hC1.put d_ d_ hb true;exact Rn.p rfl (Rn.quits rfl rfl hC2.loop (nq he _ (hC2.turn hl _)))
 |false=>
  exact Rn.p rfl (Rn.p rfl (Rn.through rfl rfl hC1.loop (nt he _ (hC1.turn hl _))))
end
def M9(f:Func):Code:= .seq (rG f 1) (.seq (.cond (.tmp 12) .skip (.exit 0)) (.seq (.block 1 (.seq (rG f 2) (.seq (rG f 3) (.cond (.tmp 28) .ret .skip)))) (rG f 4)))
def Qy:f124.body=some (.seq (rG f124 0) (.block 0 (.loop (M9 f124)))):=k_
def vS(us:List Bool)(hs:List ByteArray)(x)(i)(u)(h)(b:us[i]?=some u)(a:hs[i]?=some h):eE (us.drop i) (hs.drop i) x=((u&&h.data.toList==x.data.toList)||eE (us.drop (i+1)) (hs.drop (i+1)) x):=by obtain⟨d,rfl⟩:=as4.1 b;obtain⟨c,rfl⟩:=as4.1 a;rw[ZW d,ZW c];rfl
def yD(us:List Bool)(hs:List ByteArray)(x)(i)(h:min us.length hs.length<=i):eE (us.drop i) (hs.drop i) x=false:=by
 rcases(o_:us.length<=i\/hs.length<=i)with h|h
 .rw[aI7 h];rfl
 .rw[aI7 h];cases us.drop i<;>rfl
section
variable{b5 ld:Nat}{st le:Int}{vu vh:Value}{x:ByteArray}{us:List Bool}{hs:List ByteArray}{T:Array Value}{cf:Frame}
def JA(hT:Has [(4, .pt b4),(5, .pt b5)] 16 [] ⟨T,[]⟩)(hl:w0.heap.size<=l)(hb:w0.heap.size<=b4)(hU:fm w0 vu (us.map .bool))(hH:fm w0 vh (hs.map .string))(hlu:us.length<4611686018427387904)
 (nf:eE us hs x=false->∀w',Cv 45 4 9 w0 b3 b4 b5 l ld (Gh f73 T ld .ready none) (eR st le vu vh) x false w'->Rn lT Goal (cf.finish (.tuple #[])) cs w')
 (nq:eE us hs x=true->∀w',Cv 45 4 9 w0 b3 b4 b5 l ld (Gh f73 T ld .done (some .ret)) (eR st le vu vh) x true w'->Rn lT Goal (cf.finish (.tuple #[])) cs w'):
 ∀(m i:Nat) (a:Act) (w:World),min us.length hs.length- i=m->i<=min us.length hs.length->eE us hs x=eE (us.drop i) (hs.drop i) x->Has [(0, .func (.yield l) #[] #[]),(1, .pt b3),(10, .i (min us.length hs.length:Nat)),(11, .i i)] 30 [] a->
  Cv 45 4 9 w0 b3 b4 b5 l ld (Gh f73 T ld .ready none) (eR st le vu vh) x false w->
  Rn lT Goal ((base 124).atR a [.code (M9 f124), .inLoop (M9 f124), .inBlock 0]) (cf::cs) w:=by
 intro m;induction m with
 |zero=>
  intro i a w hm hi hv hF hC;refine Rn.uu hF λa hF=> ?_;refine Rn.p rfl (Rn.p rfl (Rn.cond _ (hF.G 12) ?_));rw[decide_eq_false o_];refine Rn.p rfl (Rn.ends rfl s_ (Rn.leave (.tuple #[]) rfl hF.defers lf124 k_ k_ (nf ?_ _ hC)));rw[hv];exact yD us hs x i o_
 |succ m ih=>
  intro i a w hm hi hv hF hC;have hiu:i<us.length:=o_
  have hih:i<hs.length:=o_
  obtain⟨pu,cu,eu,hcu⟩:=hU.below hC.old;obtain⟨ph,ch,eh,hch⟩:=hH.below hC.old;obtain⟨au,rfl,hcu2⟩:=hcu i (.bool us[i]) (by simp[hiu]);obtain⟨ah,rfl,hch2⟩:=hch i (.s hs[i]) (by simp[hih]);have hvd:=vS us hs x i us[i] hs[i] (by simp[hiu]) (by simp[hih]);refine Rn.uu hF λa hF=> ?_;refine Rn.p rfl (Rn.p rfl (Rn.cond _ (hF.G 12) ?_));rw[decide_eq_true o_]
  iterate 3 refine Rn.uu hF λa hF=> ?_
  refine Rn.vv hF (λo ho=>(aO (v:= .slice (some au) (us.map Value.bool).length cu) jc ho (hF.G 14) ((aH hC.fus 1).trans (by rw[←eu];rfl))).1) λa hF=> ?_;refine Rn.uu hF λa hF=> ?_;refine Rn.uu hF λa hF=> ?_;refine Rn.vv hF (λo ho=>(aO (v:= .bool us[i]) pi ho (hF.G 17) hcu2).1) λa hF=> ?_;refine Rn.uu hF λa hF=> ?_;obtain⟨q,hq⟩:∃q,us[i]=q:=s_;rw[hq]at hF hvd;cases q with
  |false=>
   refine Rn.G hF 20 (.move (.tmp 0)) 5 19 false (λ_=>True) rfl s_ s_ λv20 a _ hF=> ?_;refine Rn.G hF 21 (.fieldAddr 45 (.tmp 1) 3) 5 19 false (λ_=>True) rfl s_ s_ λv21 a _ hF=> ?_;refine Rn.G hF 22 (.load 43 (.tmp 21)) 5 19 false (λ_=>True) rfl s_ s_ λv22 a _ hF=> ?_;refine Rn.G hF 23 (.move (.tmp 3)) 5 19 false (λ_=>True) rfl s_ (λh=>by cases h) λv23 a _ hF=> ?_;refine Rn.G hF 24 (.indexAddr 43 (.tmp 22) (.tmp 23)) 5 19 false (λ_=>True) rfl s_ (λh=>by cases h) λv24 a _ hF=> ?_;refine Rn.G hF 25 (.load 9 (.tmp 24)) 5 19 false (λ_=>True) rfl s_ (λh=>by cases h) λv25 a _ hF=> ?_;refine Rn.G hF 26 (.call {callee:= .value (.tmp 20),args:=#[.tmp 25],argTypes:=#[9]}) 5 19 false (λ_=>True) rfl s_ (λh=>by cases h) λv26 a _ hF=> ?_;refine Rn.G hF 27 (.unOp .not 4 (.tmp 26)) 5 19 false (λ_=>True) rfl s_ (λh=>by cases h) λv27 a _ hF=> ?_;refine Rn.vv hF (λo ho=>Ar (q:=false) (r:=false) ho (hF.G 19) (λh=>by cases h) rfl) λa hF=> ?_;refine Rn.p rfl (Rn.cond false (hF.G 28) ?_)
   iterate 2 refine Rn.uu hF λa hF=> ?_
   refine Rn.p rfl (Rn.p rfl (ih (i+1) a _ o_ o_ (hv.trans (hvd.trans s_)) hF.O hC))
  |true=>
   iterate 2 refine Rn.uu hF λa hF=> ?_
   refine Rn.G hF 22 (.load 43 (.tmp 21)) 5 19 true (λv=>v= .slice (some ah) (hs.map Value.string).length ch) rfl s_ (λ_ o ho=>aF (aO (v:= .slice (some ah) (hs.map Value.string).length ch) jb ho (hF.G 21) ((aH hC.fus 3).trans (by rw[←eh];rfl))).1 ⟨rfl,rfl⟩) λv a hv1 hF=> ?_;obtain rfl:=hv1 rfl;refine Rn.uu hF λa hF=> ?_;refine Rn.uu hF λa hF=> ?_;refine Rn.G hF 25 (.load 9 (.tmp 24)) 5 19 true (λv=>v= .s hs[i]) rfl s_ (λ_ o ho=>aF (aO (v:= .s hs[i]) cC ho (hF.G 24) hch2).1 ⟨rfl,rfl⟩) λv a hv1 hF=> ?_;obtain rfl:=hv1 rfl;have h26:((bP f124 3)[12]?).map (λo=>(o.dst,o.op,o.guard))=some (some 26, .call {callee:= .value (.tmp 20),args:=#[.tmp 25],argTypes:=#[9]},some (5,true)):=k_;cases ho:(bP f124 3)[12]? with
   |none=>simp_all
   |some o=>
   rw[ho]at h26;simp only[Option.map_some,Option.some.injEq,Prod.mk.injEq]at h26;obtain⟨e1,e2,e3⟩:=h26;have hw:=ku (ops:=bP f124 3) (tmps:=a.tmps) (d:=19) e3 k_ (hF.slot 19 _ rfl);refine Rn.yields (args:=#[.s hs[i]]) ho (hw.trans rfl) (by rw[e2];simp) hC.loop rfl (λw=>kM e2 (hF.G 20) (by simp[hF.G 25]) w) ?_;refine S3 hT hl hb hC (λhne w2 hC2=> ?_) (λheq w2 hC2=> ?_)
   .rw[Df,ho,IS,e1];have hF:=hF.put (d:=26) d_ (.bool true);revert hF;generalize a.put (some 26) (.bool true)=a;intro hF;clear e1 e2 e3 ho;refine Rn.uu hF λa hF=> ?_;refine Rn.uu hF λa hF=> ?_;refine Rn.p rfl (Rn.cond false (hF.G 28) ?_)
    iterate 2 refine Rn.uu hF λa hF=> ?_
    refine Rn.p rfl (Rn.p rfl (ih (i+1) a _ o_ o_ (hv.trans (hvd.trans (by simp[hne]))) hF.O hC2))
   .rw[Df,ho,IS,e1];have hF:=hF.put (d:=26) d_ (.bool false);revert hF;generalize a.put (some 26) (.bool false)=a;intro hF;clear e1 e2 e3 ho;refine Rn.uu hF λa hF=> ?_;refine Rn.uu hF λa hF=> ?_;refine Rn.p rfl (Rn.cond true (hF.G 28) ?_);refine Rn.ends rfl (.inr ⟨_,rfl⟩) (Rn.leave (.tuple #[]) rfl hF.defers lf124 k_ k_ (nq ?_ _ hC2));simp_all
end
def Ps(a:o.op= .alloc 4):(execOp ev o).run lT w= .ok (.value (.pk w.heap.size 0)) (w.alloc (.cells #[.bool false] 4)):=by simp[execOp,a];kernel_rfl
def OB{a}(b:o.op= .buildSlice 43 1 #[(0,x)])(d:ev x= .s a):
 (execOp ev o).run lT w= .ok (.value (.sk w.heap.size 1 1)) (w.alloc (.cells #[.s a] 9)):=by simp[execOp,b,d];kernel_rfl
def Uh:f97.body=some (.seq (rG f97 0) (.seq (rG f97 1) .ret)):=k_
def E4(c)(w):Calls lT 97 #[.agg c] w λe w'=>e= .returned (.func (.func 124) #[] #[.pk w.heap.size 0])/\w'=w.alloc (.cells c 45):=by
 refine eK lf97 Uh λf a b=> ?_;refine Rn.gr ?_;refine Rn.z b 1 0 45 rfl λa b=> ?_;show Rn _ _ _ _ (w.alloc (.cells c 45));refine Rn.uu b λa b=> ?_;refine Rn.gr ?_;refine Rn.O b 3 (.makeFunc (.func 124) #[] #[.tmp 1]) (v:= .func (.func 124) #[] #[.pk w.heap.size 0]) (w':=w.alloc (.cells c 45)) (λo d=> ?_) λa b=> ?_
 .have:=(gw (ev:=a.eval) (w:=w.alloc (.cells c 45)) lT d).1
  rwa [show(#[at6 1]:Array Operand).map a.eval=#[.pk w.heap.size 0]from by simp[b.G 1]]at this
 refine Rn.uu b λa b=> ?_;exact Rn.fi b ⟨rfl,rfl⟩
def Ur:f73.body=some (.seq (rG f73 0) (.seq (rG f73 1) (.seq (.seq (rG f73 2) (.block 0 (.rangeFunc (.tmp 11) #[12] (rG f73 3) (I5 f73)))) (.seq (rG f73 6) .ret)))):=k_
def BD(KS:List Int)(P:KS.length=64)(c:ByteArray)(st le:Int)(C D:Value)(F:List Bool)(L:List ByteArray)(w:World)(hU:fm w C (F.map .bool))(hH:fm w D (L.map .string))(M:F.length<4611686018427387904)(a0:c.size<=281474976710656)(hK:w.rangeAt 0 0 (aQ KS))(h0:0<w.heap.size):
 Calls lT 73 #[.s c, .agg (eR st le C D)] w λe w'=>e= .returned (.bool (eE F L (kH KS [c])))/\Bw w w':=by
 refine B1 (t:=4) (ty:=4) lf73 rfl s_ λcs=>Rn.ent (N:=16) lf73 Ur λa d=> ?_;refine Rn.zz d λw1 a Y u z1 d=> ?_;refine Rn.al d (λo i=>Ps i) λw2 a X x z2 d=> ?_;rw[z1]at d x z2;have u:=(X.block _ o_).trans u;have B2:Bw w w2:=aD Y Y.size X;clear Y X z1;refine Rn.uu d λa d=> ?_;refine Rn.al d (λo i=>OB i (d.G 7)) λw3 a W c8 z3 d=> ?_;have B3:Bw w w3:=aD B2 B2.size W;have u:=(W.block _ o_).trans u;have x:=(W.block _ o_).trans x;refine Rn.cw (v:= .s (kH KS [c])) d lf91 (sD KS [c] _ w3 _ 1 rfl rfl c8 (Yc h0 B3 hK) P (by simp;omega) s_) λk H a d=> ?_;have Z:Bw w k:=aD B3 B3.size H;have z4:=H.size;have u:=(H.block _ o_).trans u;have x:=(H.block _ o_).trans x;refine Rn.al d (λo i=>(tz i).1) λy a V S z5 d=> ?_;have B5:Bw w y:=aD Z Z.size V;have u:=(V.block _ o_).trans u;have x:=(V.block _ o_).trans x;refine Rn.nn d (λo i=>(ff (v:= .s (kH KS [c])) (v0:= .string ⟨#[]⟩) rfl rfl k_ i (d.G 5) (d.G 9) ((aH S 0).trans rfl) (by simp[If,S])).1) λa d=> ?_;have J:Bw w (y.setCell ⟨k.heap.size,0,none⟩ (.s (kH KS [c]))):=B5.trans (eJ y _ _ (by grind));have A:(y.setCell ⟨k.heap.size,0,none⟩ (.s (kH KS [c]))).heap[k.heap.size]?=some (.cells #[.s (kH KS [c])] 9):=kJ S;have d3:=(cP y (a:=⟨k.heap.size,0,none⟩) (.s (kH KS [c])) (show w.heap.size≠k.heap.size by omega)).trans u;have B:=(cP y (a:=⟨k.heap.size,0,none⟩) (.s (kH KS [c])) (show w.heap.size+1≠k.heap.size by omega)).trans x;revert J A d3 B;generalize y.setCell ⟨k.heap.size,0,none⟩ (.s (kH KS [c]))=r;intro J A d3 B;refine Rn.uu d λa d=> ?_;refine Rn.cw d lf97 ((E4 (eR st le C D) r)) λb s a d=> ?_;have U:Bw r b:=by rw[s];exact aR _ _
 have c7:b.heap[r.heap.size]?=some (.cells (eR st le C D) 45):=by rw[s];exact aY _ _
 have z7:b.heap.size=r.heap.size+1:=by simp_all
 clear s;have B7:Bw w b:=aD J J.size U;have l5:=(gA A).1;have A:=(U.block _ l5).trans A;have l4:=(gA B).1;have B:=(U.block _ l4).trans B;refine Rn.p rfl (Rn.p rfl ?_);refine Rn.rangeAs (Gh f73 a.tmps b.heap.size .ready none) (args:=[.func (.yield (b.heap.size+1)) #[] #[], .pk r.heap.size 0].toArray) rfl rfl lf124 k_ k_ (d.G 11) rfl ?_;have z:Cv 45 4 9 w r.heap.size (w.heap.size+1) k.heap.size (b.heap.size+1) b.heap.size (Gh f73 a.tmps b.heap.size .ready none) (eR st le C D) (kH KS [c]) false (du b (Gh f73 a.tmps b.heap.size .ready none)):=
  ⟨aD B7 B7.size (m5 b _),(bK b _ o_).trans c7,(bK b _ o_).trans B,(bK b _ o_).trans A,fJ b _,fI b _⟩
 revert z;generalize du b (Gh f73 a.tmps b.heap.size .ready none)=w8;intro z;rw[aT (N:=30) _ lf124 Qy rfl];have Q:=aN [.func (.yield (b.heap.size+1)) #[] #[], .pk r.heap.size 0] 30 s_;revert Q;generalize (Act.mk (([.func (.yield (b.heap.size+1)) #[] #[], .pk r.heap.size 0]:List Value).toArray++ar6 (30-([.func (.yield (b.heap.size+1)) #[] #[], .pk r.heap.size 0]:List Value).toArray.size) undef) [])=g;intro f;have O:=hU;have R:=hH;obtain⟨pu,cu,eu,_⟩:=hU;obtain⟨ph,ch,eh,_⟩:=hH;have z8:=z.old.size;refine Rn.gr ?_;refine Rn.O f 4 (.fieldAddr 45 (.tmp 1) 1) (λo i=>yT 1 d_ i (f.G 1)) λg f=> ?_;refine Rn.O f 5 (.load 42 (.tmp 4)) (λo i=>(aO (v:= .slice pu (F.map Value.bool).length cu) jc i (f.G 4) ((aH z.fus 1).trans (by rw[←eu];rfl))).1) λg f=> ?_;refine Rn.O f 6 (.call {callee:= .builtin .len,args:=#[.tmp 5],argTypes:=#[42]}) (λo i=>jV (e:=4) k_ i (f.G 5)) λg f=> ?_;refine Rn.O f 7 (.fieldAddr 45 (.tmp 1) 3) (λo i=>yT 3 d_ i (f.G 1)) λg f=> ?_;refine Rn.O f 8 (.load 43 (.tmp 7)) (λo i=>(aO (v:= .slice ph (L.map Value.string).length ch) jb i (f.G 7) ((aH z.fus 3).trans (by rw[←eh];rfl))).1) λg f=> ?_;refine Rn.O f 9 (.call {callee:= .builtin .len,args:=#[.tmp 8],argTypes:=#[43]}) (λo i=>jV (e:=9) k_ i (f.G 8)) λg f=> ?_;refine Rn.O f 10 (.call {callee:= .builtin .min,args:=#[.tmp 6, .tmp 9],argTypes:=#[3,3]}) (λo i=>Eh i (f.G 6) (f.G 9)) λg f=> ?_;refine Rn.O f 11 (.move (.const (.i 0))) (λo i=>cy (.inl i)) λg f=> ?_;rw[aD8,aD8]at f;refine Rn.p rfl (Rn.p rfl (Rn.p rfl ?_));have hT:Has [(4, .pt (w.heap.size+1)),(5, .pt k.heap.size)] 16 [] a:=d.O;have l:Has [(4, .pt (w.heap.size+1))] 16 [{target:= .collected b.heap.size,args:=#[]}] ⟨a.tmps,{target:= .collected b.heap.size,args:=#[]}::a.defers⟩:=⟨by rw[d.defers],d.size,(d.only (G:=[(4, .pt (w.heap.size+1))]) ⟨rfl,trivial⟩).slot⟩;have E:∀(p:World) (q:Bool),p.heap[w.heap.size+1]?=some (.cells #[.bool q] 4)->AT {p with heap:=p.heap.setIfInBounds b.heap.size (.deferred none)} ⟨w.heap.size+1,0,none⟩=some (.bool q):=λp q h=>
  (aH (w:={p with heap:=p.heap.setIfInBounds b.heap.size (.deferred none)}) ((sN o_).trans h) 0).trans rfl
 refine JA (T:=a.tmps) (w0:=w) ⟨rfl,hT.size,hT.slot⟩ o_ o_ O R M (λK p m=> ?_) (λK p m=> ?_) _ 0 g w8 rfl (aB0 _) rfl f.O z
 .show Rn lT _ ((base 73).atR ⟨a.tmps,{target:= .collected b.heap.size,args:=#[]}::a.defers⟩ (.endRangeFunc (b.heap.size+1)::_)) cs p;revert l;generalize (Act.mk a.tmps ({target:= .collected b.heap.size,args:=#[]}::a.defers))=I;intro l;refine Rn.rangeOver m.loop rfl rfl ?_;have j:=m.turn o_ (Gh f73 a.tmps b.heap.size .exhausted none);refine Rn.gr ?_;refine Rn.does0 l (.store 4 (.tmp 4) (.const (.bool false))) k_ s_ (λo i=>(ff (v:= .bool false) (v0:= .bool false) rfl rfl k_ i (l.G 4) rfl ((aH j.res 0).trans rfl) (by simp[If,j.res])).1) λI l=> ?_;have n:=j.put d_ d_ o_ false;refine Rn.p rfl (Rn.ends rfl (.inr ⟨_,rfl⟩) (Rn.take (ds:=[]) l.defers n.list (Rn.now ⟨⟨I.tmps,[]⟩,_,⟨w.heap.size+1,0,none⟩, .bool false,rfl,rfl,l.slot 4 _ rfl,E _ _ n.res, ?_,n.old.trans (gJ _ _ o_)⟩)));rw[K]
 .show Rn lT _ ((base 73).atR ⟨a.tmps,{target:= .collected b.heap.size,args:=#[]}::a.defers⟩ (.endRangeFunc (b.heap.size+1)::_)) cs p;revert l;generalize (Act.mk a.tmps ({target:= .collected b.heap.size,args:=#[]}::a.defers))=I;intro l;refine Rn.rangeQuit m.loop rfl rfl ?_;have j:=m.turn o_ (Gh f73 a.tmps b.heap.size .exhausted (some .ret));refine Rn.ends rfl (.inr ⟨_,rfl⟩) (Rn.take (ds:=[]) l.defers j.list (Rn.now ⟨⟨I.tmps,[]⟩,_,⟨w.heap.size+1,0,none⟩, .bool true,rfl,rfl,l.slot 4 _ rfl,E _ _ j.res, ?_,j.old.trans (gJ _ _ o_)⟩));rw[K]
end L1
section
open Go.Conc Go.RowKit
def ki{R}{t u}(d:P.funcs[f]?=some fn)(b:fn.results=#[.tmp t, .tmp u])
 (h:∀cs,Rn P (λg w'=>∃a k v v',g=cD {(base f).atR a k with mode:= .returning} cs/\a.defers=[]/\a.tmps[t]?=some v/\a.tmps[u]?=some v'/\R (.returned (.tuple #[v,v'])) w') (as7 P f args .normal) cs w):Calls P f args w R:=λcs=>by obtain⟨m,w',l,a,k,v,v',rfl,j,i,c,e⟩:=h cs;refine⟨.returned (.tuple #[v,v']),w',{(base f).atR a k with mode:= .returning},e,ZN l,rfl,rfl,j,rfl,fn,d, ?_⟩;show(results fn a.tmps).run P w'=_;simp[results,b,i,c]
def pm(L)(h:L.length<=4):∃n:Nat,dC L=n/\n<4294967296:=by have xQ:=jY L 4 h;exact⟨(dC L).toNat,o_,o_⟩
def Fo(s:ByteArray)(h:(lz s.data.toList).2=0):∃(v en:Int) (d a l:Nat) (k:List UInt8),lz s.data.toList=(rm v d en a l k,0)/\8192<=s.size/\78<=d/\d<=a/\a+l<=8192/\k.length<=56:=by
 have e:s.data.toList.length=s.size:=by simp_all
 unfold lz at h⊢;split at h
 .cases h
 .rename_i j;rw[if_neg j];split at h
  .cases h
  .rename_i i;rw[if_neg i];have c:=λa b (h:b<=8192)=>jH s.data.toList a b o_;have⟨d,o,r⟩:=pm (cq s.data.toList 6 10) (by simp_all);have⟨a,n,q⟩:=pm (cq s.data.toList 14 18) (by simp_all);have⟨l,m,p⟩:=pm (cq s.data.toList 18 22) (by simp_all);rw[o,n,m]at h⊢;unfold mY at h⊢
   grind
end
namespace L1
open Go.Conc Go.RowKit
def pP(KS:List Int)(s:ByteArray)(le:Int)(us:List Bool)(hs:List ByteArray)(n c:Int):Prop:=
 ((lz s.data.toList).2≠0/\n=0/\c=(lz s.data.toList).2)\/∃(v en:Int) (sg a l:Nat) (k:List UInt8),lz s.data.toList=(rm v sg en a l k,0)/\
   ((v<le/\n=0/\c=7)\/(le<=v/\eE us hs (kH KS [⟨k.toArray⟩])=false/\n=0/\c=8)\/
     (le<=v/\eE us hs (kH KS [⟨k.toArray⟩])=true/\∃d,vA KS ⟨k.toArray⟩ (s.extract 0 sg) (s.extract a (a+l)) d/\((d≠0/\n=0/\c=d)\/(d=0/\n=en/\c=0))))
def vT(KS)(key msg sig):∃c,vA KS key msg sig c:=by
 unfold vA
 grind
def Oe(KS)(a:KS.length=64)(key msg sig)(f:msg.size<=281474976706560)(hs:sig.size<=1125899906842624):∃c,vA KS key msg sig c/\∀w,w.rangeAt 0 0 (aQ KS)->0<w.heap.size->Calls lT 36 #[.s key, .s msg, .s sig] w λe w'=>e= .returned (.i c)/\Bw w w':=by have⟨c,b⟩:=vT KS key msg sig;exact⟨c,b,λw h g=>(xV KS a key msg sig f hs w h g).mono λe w' ⟨d,k,j,i⟩=>⟨by rw[k,Ac j b],i⟩⟩
def GW(a:o.op= .alloc 87):(execOp ev o).run lT w= .ok (.value (.pk w.heap.size 0)) (w.alloc (.cells fp.toArray 87)):=by simp[execOp,a];kernel_rfl
def VZ(j)(f:j<6)(a:o.op= .fieldAddr 87 x j)(c:ev x= .pk b 0):(execOp ev o).run lT w= .ok (.value (.pk b j)) w:=by simp[execOp,a,c];rcases(o_:j=0\/j=1\/j=2\/j=3\/j=4\/j=5)with rfl|rfl|rfl|rfl|rfl|rfl<;>kernel_rfl
def Mm:(lT.info? 87).map (·.size)=some 6:=k_
def Uy:f40.body=some (.seq (rG f40 0) (.seq (rG f40 1) (.seq (.seq (rG f40 2) (.cond (.tmp 14) (.seq (rG f40 3) .ret) .skip)) (.seq (.seq (rG f40 4) (.cond (.tmp 20) (.seq (rG f40 5) .ret) .skip)) (.seq (.seq (rG f40 6) (.cond (.tmp 25) (.seq (rG f40 7) .ret) .skip)) (.seq (rD f40 8) (.seq (.seq (rG f40 9) (.cond (.tmp 43) (.seq (rG f40 10) .ret) .skip)) (.seq (rG f40 11) .ret)))))))):=k_
def Ki(KS)(G:KS.length=64)(s)(st le)(i j)(A)(K)(w)(hU:fm w i (A.map .bool))(hH:fm w j (K.map .string))(S:A.length<4611686018427387904)(R:s.size<=281474976000000)(Y:w.rangeAt 0 0 (aQ KS))(O:0<w.heap.size):
 Calls lT 40 #[.s s, .agg (eR st le i j)] w λe w'=>∃n c,e= .returned (.tuple #[.i n, .i c])/\pP KS s le A K n c/\Bw w w':=by
 refine ki lf40 rfl λcs=>Rn.ent lf40 Uy λa b=> ?_;refine Rn.gr ?_;refine Rn.z b 3 1 45 rfl λa b=> ?_;show Rn _ _ _ _ (w.alloc (.cells (eR st le i j) 45));have J:=aR w (.cells (eR st le i j) 45);have p:=aY w (.cells (eR st le i j) 45);have U:=aJ w (.cells (eR st le i j) 45);revert J p U;generalize w.alloc (.cells (eR st le i j) 45)=w1;intro J p U
 iterate 3 refine Rn.uu b λa b=> ?_
 refine Rn.cw b lf72 ((Mo s w1 R)) λg P a b=> ?_;have B2:=aD J J.size P;have z2:=P.size;have p:=(P.block _ o_).trans p
 iterate 3 refine Rn.uu b λa b=> ?_
 refine Rn.vv b (λo q=>GW q) λa b=> ?_;have x:=aR g (.cells fp.toArray 87);have I:=aY g (.cells fp.toArray 87);revert x I;generalize g.alloc (.cells fp.toArray 87)=Q;intro x I;have p:=(x.block _ o_).trans p;have m:=Hh s.data.toList;have E:=Hg s.data.toList;refine Rn.nn b (λo q=>cZ q (b.G 6) (b.G 11) I (by rw[Mm,JR,m]) (by rw[JR,JR,m];rfl) (by simp_all)) λa b=> ?_;have h:=setRow_heap Q g.heap.size _ (lz s.data.toList).1.toArray _ _ I;have f:Bw g (Q.setRow g.heap.size (lz s.data.toList).1.toArray):=x.trans (dD _ _ _ o_);have Z:=(f.block _ (o_:w.heap.size<g.heap.size)).trans o_;revert h f Z;generalize Q.setRow g.heap.size (lz s.data.toList).1.toArray=V;intro h f Z;have f:=aD B2 B2.size f;refine Rn.uu b λa b=> ?_;clear J P x p I
 iterate 2 refine Rn.uu b λa b=> ?_
 refine Rn.p rfl (Rn.cond _ (b.G 14) ?_);by_cases M:(lz s.data.toList).2=0
 .rw[show((lz s.data.toList).2 !=0)=false from by simpa using M];obtain⟨v,H,B,d,l,k,F,g1,g2,g3,g4,g5⟩:=Fo s M;rw[F]at h;have e3:((d+l:Nat):Int)=(d:Int)+l:=o_
  iterate 5 refine Rn.uu b λa b=> ?_
  refine Rn.p rfl (Rn.cond _ (b.G 20) ?_);by_cases T:v<le
  .rw[decide_eq_true T]
   iterate 2 refine Rn.uu b λa b=> ?_
   exact Rn.fj b ⟨0,7,rfl, .inr ⟨v,H,B,d,l,k,F, o_⟩,f⟩
  rw[decide_eq_false T];refine Rn.vv b (λo q=>VZ 5 d_ q (b.G 6)) λa b=> ?_
  iterate 2 refine Rn.uu b λa b=> ?_
  refine Rn.cw b lf73 ((BD KS G ⟨k.toArray⟩ st le i j A K V (hU.below f) (hH.below f) S (by show k.toArray.size<=_;grind) (Yc O f Y) (ar4 O f.size))) λw5 b5 a b=> ?_;have r:Bw w w5:=aD f f.size b5;have h:=(b5.block _ (gA h).1).trans h;refine Rn.uu b λa b=> ?_;refine Rn.p rfl (Rn.cond _ (b.G 25) ?_);cases C:eE A K (kH KS [⟨k.toArray⟩])with
  |false=>
   iterate 2 refine Rn.uu b λa b=> ?_
   exact Rn.fj b ⟨0,8,rfl, .inr ⟨v,H,B,d,l,k,F, .inr (.inl ⟨o_,C,rfl,rfl⟩)⟩,r⟩
  |true=>
   obtain⟨c,W,D⟩:=Oe KS G ⟨k.toArray⟩ (s.extract 0 B) (s.extract d (d+l)) (by rw[as6];omega) (by rw[as6];omega);have b:Has [(6, .pt g.heap.size),(0, .s s)] 47 [] a:=b.O;refine Rn.p rfl (Rn.p rfl ?_);refine Rn.gt b ?_
   iterate 13 refine n_ ?_
   refine n_ ?_ (y:=λo a w q z=>cJ q gx gx o_);refine n_ ?_;refine p_ lf36 (λw X _=>D w (Yc O (aD r r.size X) Y) (ar4 O (aD r r.size X).size)) ?_;refine n_ ?_;refine q_ λa w6 b b6 _=> ?_;have B6:Bw w w6:=aD r r.size b6;have h:=(b6.block _ (gA h).1).trans h
   iterate 2 refine Rn.uu b λa b=> ?_
   refine Rn.p rfl (Rn.cond _ (b.G 43) ?_);by_cases L:c=0
   .rw[show(c !=0)=false from by simpa using L]
    iterate 4 refine Rn.uu b λa b=> ?_
    exact Rn.fj b ⟨H,0,rfl, .inr ⟨v,H,B,d,l,k,F, .inr (.inr ⟨o_,C,c,W, o_⟩)⟩,B6⟩
   .rw[show(c !=0)=true from by simpa using L]
    iterate 3 refine Rn.uu b λa b=> ?_
    exact Rn.fj b ⟨0,c,rfl, .inr ⟨v,H,B,d,l,k,F, .inr (.inr ⟨o_,C,c,W, o_⟩)⟩,B6⟩
 .rw[show((lz s.data.toList).2 !=0)=true from by simpa using M]
  iterate 3 refine Rn.uu b λa b=> ?_
  exact Rn.fj b ⟨0,_,rfl, .inl ⟨M,rfl,rfl⟩,f⟩
def ju{u}{us}{hs}{n t c'}(h:pP KS s u us hs n c)(g:pP KS s u us hs t c'):n=t/\c=c':=by
 obtain⟨G,rfl,rfl⟩|⟨v,K,C,a,l,k,z,h⟩:=h
 .obtain⟨_,rfl,rfl⟩|⟨B,q,i,A,w,x,r,_⟩:=g
  .omega
  .simp_all
 .obtain⟨F,_,_⟩|⟨B,q,i,A,w,x,r,g⟩:=g
  .simp_all
  .have e:=z.symm.trans r;simp[rm,Prod.mk.injEq,List.cons.injEq,Value.int.injEq,Value.string.injEq,true_and,and_true]at e;obtain⟨rfl,J,rfl,I,H,D⟩:=e;obtain rfl:C=i:=o_
   obtain rfl:a=A:=o_
   obtain rfl:l=w:=o_
   obtain rfl:k=x:=by simpa using D
   rcases h with⟨y,rfl,rfl⟩|⟨y,p,rfl,rfl⟩|⟨y,p,d,E,h⟩<;>obtain⟨j,rfl,rfl⟩|⟨j,b,rfl,rfl⟩|⟨j,b,L,m,g⟩:=g
   .omega
   .omega
   .omega
   .omega
   .omega
   .simp_all
   .omega
   .simp_all
   .obtain rfl:=Ac E m;omega
def H4(f:Func):Code:= .seq (.seq (rG f 2) (.cond (.tmp 17) .skip (.exit 0))) (.seq (.block 1 (.seq (rG f 4) (.cond (.tmp 33) (.seq (rG f 5) .ret) .skip))) (rG f 3))
def Qv:f42.body=some (.seq (rG f42 0) (.seq (.seq (rG f42 1) (.block 0 (.loop (H4 f42)))) (.seq (rG f42 6) .ret))):=k_
section
variable{st le:Int}{vu vh:Value}{x:ByteArray}{us:List Bool}{hs:List ByteArray}{k:List Item}
def JB(hU:fm w vu (us.map .bool))(hH:fm w vh (hs.map .string))(a0:us.length<4611686018427387904)(t:w.heap[b]?=some (.cells (eR st le vu vh) 45))
 (Y:eE us hs x=false->∀a,Has [] 34 [] a->Rn lT Goal ((base 42).atR a k) cs w)
 (X:eE us hs x=true->∀a Z,Has [(4, .bool true)] 34 [] a->Rn lT Goal ((base 42).atR a (.code .ret::Z)) cs w):
 ∀m i a,min us.length hs.length- i=m->i<=min us.length hs.length->eE us hs x=eE (us.drop i) (hs.drop i) x->Has [(1, .s x),(2, .pt b),(5, .i i)] 34 [] a->
  Rn lT Goal ((base 42).atR a (.code (H4 f42):: .inLoop (H4 f42):: .inBlock 0::k)) cs w:=by
 have⟨W,G,E,C⟩:=hU;have⟨H,u,F,D⟩:=hH;intro m;induction m with
 |zero=>
  intro i a hm hi y c;refine Rn.uu c λa c=> ?_;refine Rn.vv c (λo d=>yT 1 d_ d (c.G 2)) λa c=> ?_;refine Rn.vv c (λo d=>(aO (v:= .slice W (us.map Value.bool).length G) jc d (c.G 7) ((aH t 1).trans (by rw[←E];rfl))).1) λa c=> ?_;refine Rn.vv c (λo d=>jV (e:=4) k_ d (c.G 8)) λa c=> ?_
  iterate 2 refine Rn.uu c λa c=> ?_
  have l:=Y (y▸yD us hs x i o_);by_cases h1:i<us.length
  .rw[decide_eq_true (by simp_all)]at c;refine Rn.uu c λa c=> ?_;refine Rn.G c 13 (.fieldAddr 45 (.tmp 2) 3) 5 11 true (λv=>v= .pk b 3) rfl s_ (λ_ o d=>aF (yT 3 d_ d (c.G 2)) s_) λv a f c=> ?_;obtain rfl:=f rfl;refine Rn.G c 14 (.load 43 (.tmp 13)) 5 11 true (λv=>v= .slice H (hs.map Value.string).length u) rfl s_ (λ_ o d=>aF (aO (v:= .slice H (hs.map Value.string).length u) jb d (c.G 13) ((aH t 3).trans (by rw[←F];rfl))).1 s_) λv a f c=> ?_;obtain rfl:=f rfl;refine Rn.G c 15 (.call {callee:= .builtin .len,args:=#[.tmp 14],argTypes:=#[43]}) 5 11 true (λv=>v= .i (hs.map Value.string).length) rfl s_ (λ_ o d=>aF (jV (e:=9) k_ d (c.G 14)) s_) λv a f c=> ?_;obtain rfl:=f rfl;refine Rn.uu c λa c=> ?_;rw[decide_eq_false (by grind)]at c;refine Rn.uu c λa c=> ?_;refine Rn.p rfl (Rn.cond false (c.G 17) ?_);exact Rn.p rfl (l a (c.only trivial))
  .rw[decide_eq_false (by simp_all)]at c;refine Rn.G c 12 (.move (.tmp 5)) 5 11 false (λ_=>True) rfl s_ s_ λV a _ c=> ?_;refine Rn.G c 13 (.fieldAddr 45 (.tmp 2) 3) 5 11 false (λ_=>True) rfl s_ s_ λU a _ c=> ?_;refine Rn.G c 14 (.load 43 (.tmp 13)) 5 11 false (λ_=>True) rfl s_ s_ λT a _ c=> ?_;refine Rn.G c 15 (.call {callee:= .builtin .len,args:=#[.tmp 14],argTypes:=#[43]}) 5 11 false (λ_=>True) rfl s_ s_ λS a _ c=> ?_;refine Rn.G c 16 (.binOp .lss 3 (.tmp 12) (.tmp 15) 3) 5 11 false (λ_=>True) rfl s_ s_ λR a _ c=> ?_;refine Rn.vv c (λo d=>Ar (q:=false) d (c.G 11) s_ rfl) λa c=> ?_;refine Rn.p rfl (Rn.cond false (c.G 17) ?_);exact Rn.p rfl (l a (c.only trivial))
 |succ m ih=>
  intro i a hm hi y c;have p:i<us.length:=o_
  have s:i<hs.length:=o_
  obtain⟨J,rfl,z⟩:=C i (.bool us[i]) (by simp[p]);obtain⟨B,rfl,A⟩:=D i (.s hs[i]) (by simp[s]);have g:=vS us hs x i us[i] hs[i] (by simp[p]) (by simp[s]);refine Rn.uu c λa c=> ?_;refine Rn.vv c (λo d=>yT 1 d_ d (c.G 2)) λa c=> ?_;refine Rn.vv c (λo d=>(aO (v:= .slice (some J) (us.map Value.bool).length G) jc d (c.G 7) ((aH t 1).trans (by rw[←E];rfl))).1) λa c=> ?_;refine Rn.vv c (λo d=>jV (e:=4) k_ d (c.G 8)) λa c=> ?_
  iterate 2 refine Rn.uu c λa c=> ?_
  rw[decide_eq_true (by simp_all)]at c;refine Rn.uu c λa c=> ?_;refine Rn.G c 13 (.fieldAddr 45 (.tmp 2) 3) 5 11 true (λv=>v= .pk b 3) rfl s_ (λ_ o d=>aF (yT 3 d_ d (c.G 2)) s_) λv a f c=> ?_;obtain rfl:=f rfl;refine Rn.G c 14 (.load 43 (.tmp 13)) 5 11 true (λv=>v= .slice (some B) (hs.map Value.string).length u) rfl s_ (λ_ o d=>aF (aO (v:= .slice (some B) (hs.map Value.string).length u) jb d (c.G 13) ((aH t 3).trans (by rw[←F];rfl))).1 s_) λv a f c=> ?_;obtain rfl:=f rfl;refine Rn.G c 15 (.call {callee:= .builtin .len,args:=#[.tmp 14],argTypes:=#[43]}) 5 11 true (λv=>v= .i (hs.map Value.string).length) rfl s_ (λ_ o d=>aF (jV (e:=9) k_ d (c.G 14)) s_) λv a f c=> ?_;obtain rfl:=f rfl;refine Rn.uu c λa c=> ?_;rw[decide_eq_true (by simp_all)]at c;refine Rn.uu c λa c=> ?_;refine Rn.p rfl (Rn.cond true (c.G 17) ?_);refine Rn.uu c λa c=> ?_;refine Rn.vv c (λo d=>(aO (v:= .slice (some J) (us.map Value.bool).length G) jc d (c.G 20) ((aH t 1).trans (by rw[←E];rfl))).1) λa c=> ?_;refine Rn.y c 22 5 rfl λa c=> ?_;refine Rn.vv c (λo d=>(dI (e:=4) k_ s_ d (c.G 21) (c.G 22) (by simpa using p)).1) λa c=> ?_;refine Rn.vv c (λo d=>(aO pi d (c.G 23) z).1) λa c=> ?_;refine Rn.uu c λa c=> ?_;obtain⟨q,hq⟩:∃q,us[i]=q:=s_;rw[hq]at c g;have j:∀a,eE us hs x=eE (us.drop (i+1)) (hs.drop (i+1)) x->Has [(1, .s x),(2, .pt b),(5, .i i)] 34 [] a->Rn lT Goal ((base 42).atR a (.code (rG f42 3):: .inLoop (H4 f42):: .inBlock 0::k)) cs w:=λa hn c=>by
   iterate 3 refine Rn.uu c λa c=> ?_
   exact Rn.p rfl (Rn.p rfl (ih (i+1) a o_ o_ hn c.O))
  cases q with
  |false=>
   refine Rn.G c 26 (.fieldAddr 45 (.tmp 2) 3) 5 25 false (λ_=>True) rfl s_ s_ λQ a _ c=> ?_;refine Rn.G c 27 (.load 43 (.tmp 26)) 5 25 false (λ_=>True) rfl s_ s_ λP a _ c=> ?_;refine Rn.G c 28 (.move (.tmp 5)) 5 25 false (λ_=>True) rfl s_ s_ λO a _ c=> ?_;refine Rn.G c 29 (.indexAddr 43 (.tmp 27) (.tmp 28)) 5 25 false (λ_=>True) rfl s_ s_ λN a _ c=> ?_;refine Rn.G c 30 (.load 9 (.tmp 29)) 5 25 false (λ_=>True) rfl s_ s_ λM a _ c=> ?_;refine Rn.G c 31 (.move (.tmp 1)) 5 25 false (λ_=>True) rfl s_ s_ λL a _ c=> ?_;refine Rn.G c 32 (.binOp .eql 9 (.tmp 30) (.tmp 31) 9) 5 25 false (λ_=>True) rfl s_ s_ λK a _ c=> ?_;refine Rn.vv c (λo d=>Ar (q:=false) d (c.G 25) s_ rfl) λa c=> ?_;refine Rn.p rfl (Rn.cond false (c.G 33) ?_);exact Rn.p rfl (Rn.p rfl (j a (y.trans (g.trans s_)) c.O))
  |true=>
   refine Rn.uu c λa c=> ?_;refine Rn.G c 27 (.load 43 (.tmp 26)) 5 25 true (λv=>v= .slice (some B) (hs.map Value.string).length u) rfl s_ (λ_ o d=>aF (aO (v:= .slice (some B) (hs.map Value.string).length u) jb d (c.G 26) ((aH t 3).trans (by rw[←F];rfl))).1 s_) λv a f c=> ?_;obtain rfl:=f rfl;refine Rn.G c 28 (.move (.tmp 5)) 5 25 true (λv=>v= .i i) rfl s_ (λ_ o d=>aF (by rw[cy (.inl d),c.G 5]) s_) λv a f c=> ?_;obtain rfl:=f rfl;refine Rn.G c 29 (.indexAddr 43 (.tmp 27) (.tmp 28)) 5 25 true (λv=>v= .pointer (some (B.add i))) rfl s_ (λ_ o d=>aF (dI (e:=9) k_ s_ d (c.G 27) (c.G 28) (by simpa using s)).1 s_) λv a f c=> ?_;obtain rfl:=f rfl;refine Rn.G c 30 (.load 9 (.tmp 29)) 5 25 true (λv=>v= .s hs[i]) rfl s_ (λ_ o d=>aF (aO cC d (c.G 29) A).1 s_) λv a f c=> ?_;obtain rfl:=f rfl
   iterate 2 refine Rn.uu c λa c=> ?_
   refine Rn.uu c λa c=> ?_;refine Rn.p rfl (Rn.cond (hs[i].data.toList==x.data.toList) (c.G 33) ?_);cases I:(hs[i].data.toList==x.data.toList)with
   |false=>exact Rn.p rfl (Rn.p rfl (j a (y.trans (g.trans (by simp[I]))) c.O))
   |true=>
    refine Rn.uu c λa c=> ?_;exact Rn.p rfl (X (by rw[y,g,I];rfl) a _ c.O)
end
def A8(x)(st le)(h i)(d)(j)(w)(k:fm w h (d.map .bool))(l:fm w i (j.map .string))(g:d.length<4611686018427387904):
 Calls lT 42 #[.agg (eR st le h i), .s x] w λe w'=>e= .returned (.bool (eE d j x))/\Bw w w':=by
 refine eK lf42 Qv λp a b=> ?_;refine Rn.zz b λn a c m _ b=> ?_
 iterate 2 refine Rn.uu b λa b=> ?_
 refine Rn.p rfl (Rn.p rfl (Rn.p rfl ?_));refine JB (k.below c) (l.below c) g m (λf a b=> ?_) (λf a o b=> ?_) _ 0 a rfl o_ rfl b.O
 .refine Rn.uu b λa b=> ?_;exact Rn.fi b ⟨by rw[f],c⟩
 .exact Rn.fi b ⟨by rw[f],c⟩
end L1
section
open Go.Conc Go.RowKit
section
variable{b:Frame}{k:List Item}
def Rn.us{c}{d:Tmp}{p}{f}(e:Has F N ds a)(next:∀a',Has ((d,undef)::F) N ds a'->Rn P Goal (b.atR a' (.inRegion ops rest::c)) cs w)(l:fV 6 (b.atR a k)= .inRegion ops (m::rest)::c:=by rfl)
 (h:(ops[m]?).map (λo=>(o.dst,o.op,o.guard))=some (some d,p,f):=by rfl) (g:gV ops F f=some false:=by rfl) (j:d<N:=by decide):Rn P Goal (b.atR a k) cs w:=by refine Rn.gr ?_ l;have⟨o,i,q,r,n⟩:=ng h;refine Rn.skips i (iD e n g) ?_;rw[q];exact next _ (e.put j _)
end
end
namespace L1
open Go.Conc Go.RowKit
def pD(KS)(s)(le)(h)(i):∃n c,pP KS s le h i n c:=by
 by_cases o:(lz s.data.toList).2=0
 .have⟨v,e,b,a,l,k,f,_⟩:=Fo s o;by_cases p:v<le
  .exact⟨0,7, .inr ⟨v,e,b,a,l,k,f, o_⟩⟩
  .cases g:eE h i (kH KS [⟨k.toArray⟩])with
   |false=>exact⟨0,8, .inr ⟨v,e,b,a,l,k,f, .inr (.inl ⟨o_,g,rfl,rfl⟩)⟩⟩
   |true=>
    have⟨d,j⟩:=vT KS ⟨k.toArray⟩ (s.extract 0 b) (s.extract a (a+l));by_cases m:d=0
    .exact⟨e,0, .inr ⟨v,e,b,a,l,k,f, .inr (.inr ⟨o_,g,d,j, o_⟩)⟩⟩
    .exact⟨0,d, .inr ⟨v,e,b,a,l,k,f, .inr (.inr ⟨o_,g,d,j, o_⟩)⟩⟩
 .exact⟨0,_, .inl ⟨o,rfl,rfl⟩⟩
def RL(h:vA KS key msg sig c):0<=c/\c<=10:=by rcases h with⟨_,rfl⟩|⟨_,_,rfl⟩|⟨_,_,_,rfl⟩|⟨_,_,_,rfl⟩<;>decide
def Tf(L):0<=(lz L).2/\(lz L).2<=10:=by
 unfold lz mY
 grind
def tM{le}{b}{e}{n}(h:pP KS s le b e n c):0<=c/\c<=10:=by
 obtain⟨_,_,rfl⟩|⟨v,i,g,a,l,k,_,⟨_,_,rfl⟩|⟨_,_,_,rfl⟩|⟨_,_,d,f,⟨_,_,rfl⟩|⟨_,_,rfl⟩⟩⟩:=h
 .exact Tf _
 .decide
 .decide
 .exact RL f
 .decide
def Qi(KS)(j:KS.length=64)(s)(st le)(d f)(a)(b)(i:a.length<4611686018427387904)(g:s.size<=281474976000000):∃n c,pP KS s le a b n c/\∀w,fm w d (a.map .bool)->fm w f (b.map .string)->w.rangeAt 0 0 (aQ KS)->0<w.heap.size->
 Calls lT 40 #[.s s, .agg (eR st le d f)] w λe w'=>e= .returned (.tuple #[.i n, .i c])/\Bw w w':=by have⟨n,c,h⟩:=pD KS s le a b;exact⟨n,c,h,λw o m l k=>(Ki KS j s st le d f a b w o m i g l k).mono λe w' ⟨t,u,r,q,p⟩=>⟨by obtain⟨rfl,rfl⟩:=ju q h;exact r,p⟩⟩
def Gm{L}(h:w.heap[b]?=some (.cells L.toArray t))(c:L.length=n):fm w (.sk b n n) L:=⟨_,n,by rw[c],λi u a=>⟨_,rfl,by rw[AS,as5,aH h];simpa using a⟩⟩
def nZ{e d}{fl}{W}{on}{sl}{c}(h:NM w e fl W on sl)(f:w.heap[d]?=some (.cells c 151)){cs}{fr}(a:w.heap[b]?=some (.cells cs t fr))(i:t≠149)(g:t≠151):¬XR e d b:=by
 rintro(rfl|rfl)
 .have⟨_,K,_,_,h⟩:=h;simp_all
 simp_all
def fy{X}{L}(a:Ex X w w')(d:¬X 0)(c:0<w.heap.size)(h:w.rangeAt 0 0 L):w'.rangeAt 0 0 L:=λj v b=>by have:=h j v b;unfold AT at this⊢;rwa [a.block 0 c d]
section
variable{y z:Operand}
def N2(a:o.op= .slice 144 x none none none)(c:ev x= .pk b 1):(execOp ev o).run lT w= .ok (.value (.slice (some ⟨b,1,none⟩) 85 85)) w:=by
 have e:execOp ev o=(do pure (.value (←Mv 144 (.pk b 1) none none none))):=by simp only[execOp,a,c];rfl
 have d:(do pure (.value (←Mv 144 (.pk b 1) none none none)):Sem Next).run lT w= .ok (.value (.slice (some ⟨b,1,none⟩) 85 85)) w:=k_
 rw[e,d]
def zk(a:o.op= .alloc 45):(execOp ev o).run lT w= .ok (.value (.pk w.heap.size 0)) (w.alloc (.cells (eR 0 0 (.slice none 0 0) (.slice none 0 0)) 45)):=by simp[execOp,a];kernel_rfl
def Fh:(lT.info? 45).map (·.size)=some 4:=k_
def qx{st le}{f g}{i d j e}{old}{c}(a:o.op= .store 45 x y)(l:ev x= .pk b 0)(k:ev y= .agg (eR st le (.slice f i d) (.slice g j e)))(h:w.heap[b]?=some (.cells old c))(m:old.size=4):
 (execOp ev o).run lT w= .ok .skip (gK w b (eR st le (.slice f i d) (.slice g j e)) c):=by rw[←lR h];exact cZ a l k h Fh m (by simp[eR,Ic])
def oJ(a:o.op= .pick x y z)(c:ev x= .bool true)(b:ev y=v):(execOp ev o).run lT w= .ok (.value v) w:=by simp[execOp,a,c,b,asBool]
def mO(a:o.op= .pick x y z)(c:ev x= .bool false)(b:ev z=v):(execOp ev o).run lT w= .ok (.value v) w:=by simp[execOp,a,c,b,asBool]
def S9(d:t=212)(a:o.op= .build t #[(0,x),(1,y)])(c:ev x= .i 16)(b:ev y= .i 32):(execOp ev o).run lT w= .ok (.value (.agg #[.i 16, .i 32])) w:=by subst d;simp[execOp,a,c,b];kernel_rfl
def VY(f:k<2)(a:o.op= .index 212 x y)(c:ev x= .agg #[.i 16, .i 32])(b:ev y= .i k):(execOp ev o).run lT w= .ok (.value (.i ((16+16*k:Nat):Int))) w:=by simp[execOp,a,c,b];rcases(o_:k=0\/k=1)with rfl|rfl<;>kernel_rfl
def OC{m n}(a:o.op= .call {callee:= .builtin .max,args:=#[.tmp k, .tmp j],argTypes:=#[t,t]})(c:ev (.tmp k)= .i m)(b:ev (.tmp j)= .i n):(execOp ev o).run lT w= .ok (.value (.i (max m n))) w:=by
 have h:(if n>m then n else m)=max m n:=by split<;>omega
 have e:(Builtin.max2 (.i m) (.i n):Sem Value)=pure (.i (max m n)):=by rw[←h];rfl
 simp[execOp,a,resolve,c,b,invoke,builtin,Builtin.max_,e]
end
def hY(KS W:List Int)(L:ByteArray)(j:Bool)(s n c:Int):Prop:=∃st le cr us hs,UW W st le cr us hs/\
 ((cr≠0/\j=false/\s=0/\n=0/\c=1)\/(cr=0/\st≠255/\st≠3855/\j=false/\s=0/\n=0/\c=2)\/
  (cr=0/\(st=255\/st=3855)/\∃n0 c0,pP KS (L.extract 0 8192) le us hs n0 c0/\((c0=0/\j=true/\s=0/\n=n0/\c=0)\/
    (c0≠0/\∃n1 c1,pP KS (L.extract 8192 16384) le us hs n1 c1/\((c1=0/\j=true/\s=1/\n=n1/\c=0)\/(c1≠0/\j=false/\s=0/\n=0/\c=max c0 c1))))))
def Wp(f:Func):Code:= .seq (rG f 9) (.seq (.cond (.tmp 39) .skip (.exit 0)) (.seq (.block 1 (.seq (rG f 10) (.seq (rD f 11) (.seq (rG f 12) (.seq (.seq (rG f 13) (.cond (.tmp 59) (.seq (rG f 14) .ret) .skip)) (rG f 15)))))) (rG f 16)))
def Mg(f:Func):Code:= .seq (rG f 17) .ret
def Lw(f:Func):Code:= .seq (rG f 7) (.seq (.seq (rG f 8) (.block 0 (.loop (Wp f)))) (Mg f))
section
variable{y z:Operand}
def GA(hv:v.cells=#[v])(a:o.op= .box t x)(b:ev x=v):(execOp ev o).run lT w= .ok (.value (.pk w.heap.size 0)) (w.alloc (.cells #[v] t)):=by have:=(mg lT (w:=w) (ev:=ev) a).1;simp_all
def sA:Bn lT 188:=λw=>⟨k_,k_⟩
def Sb{a}{room}(b:o.op= .build 151 #[(0,x),(1,y)])(d:ev x= .pk a 0)(c:ev y= .i room):(execOp ev o).run lT w= .ok (.value (.agg (pU a room false))) w:=by simp[execOp,b,d,c];kernel_rfl
def SN(a:o.op= .alloc 151):(execOp ev o).run lT w= .ok (.value (.pk w.heap.size 0)) (w.alloc (.cells #[.pointer none, .i 0, .bool false] 151)):=by simp[execOp,a];kernel_rfl
def Te:(lT.info? 151).map (·.size)=some 3:=k_
def VM{d}{room}{old}{c}(a:o.op= .store 151 x y)(f:ev x= .pk b 0)(e:ev y= .agg (pU d room false))(h:w.heap[b]?=some (.cells old c))(g:old.size=3):
 (execOp ev o).run lT w= .ok .skip (gK w b (pU d room false) c):=by rw[←lR h];exact cZ a f e h Te g (by simp[pU,Ic])
def rZ{r s e}{j}{f}(a:o.op= .load 100 x)(g:ev x= .pk b 0)(d:w.heap[b]?=some (.cells (d8 r j s e c) f)):(execOp ev o).run lT w= .ok (.value (.agg (d8 r j s e c))) w:=by
 have h:(isAgg 100).run lT w= .ok true w:=k_
 simp[execOp,a,g,as_,loadVar,h,loadCells,loadCellsFrom,Y1,(aH d),d8,go_sem]
end
def Kn:f126.body=some (.seq (rG f126 0) (.seq (rG f126 1) (.seq (rG f126 2) (.seq (.seq (rG f126 3) (.cond (.tmp 24) (.seq (rG f126 4) .ret) .skip)) (.seq (.seq (rG f126 5) (.cond (.tmp 34) (.seq (rG f126 6) .ret) .skip)) (Lw f126)))))):=k_
section
variable{cb rb:Nat}{fl:Value}{W:List Int}{L:ByteArray}{room:Int}
def De{on}{sl}(h:NM w cb fl W on sl):w.rangeAt cb 1 (W.map (Value.int .i64)):=λj v a=>by
 have⟨e,K,f,_,d⟩:=h;rw[YR]at a;cases c:W[j]? with
 |none=>simp_all
 |some x=>
  rw[c]at a;cases a;obtain⟨b,rfl⟩:=as4.1 c;rw[aH d];exact XV j b
end
def Ub:f100.body=some (.seq (rG f100 0) (.seq (rG f100 1) (.seq (rG f100 2) .ret))):=k_
def MY:f125.body=some (.seq (rG f125 0) (.cond (.tmp 4) (.seq (rG f125 1) (rG f125 2)) .skip)):=k_
section
variable{cb rb:Nat}{fl:Value}{W:List Int}{L:ByteArray}{room:Int}
structure jz (KS W:List Int) (L:ByteArray) (fl:Value) (cb:Nat) (j:Bool) (s n c:Int) (w':World):Prop where
 step:hY KS W L j s n c
 ch:NM w' cb fl W j s
 fls:mo w' fl L
end
def lK{p}{c}(a:o.op= .call {callee:= .builtin .len,args:=#[.tmp k],argTypes:=#[24]})(b:ev (.tmp k)= .slice p l c):eX ev o w (.i l):=jV (e:=3) k_ a b
def Ud:f76.body=some (.seq (rG f76 0) (.seq (rG f76 1) (.seq (.seq (rG f76 2) (.block 0 (.loop (.seq (rG f76 3) (.seq (.cond (.tmp 16) .skip (.exit 0)) (.seq (.block 1 (.seq (rG f76 4) (.seq (rG f76 5) (.seq (rG f76 6) (.seq (rG f76 7) (.cond (.tmp 26) (.seq (rG f76 8) (.seq (rG f76 9) .ret)) .skip)))))) (rG f76 10))))))) (.seq (rG f76 11) (.seq (rG f76 12) (.seq (rG f76 13) (.seq (rG f76 14) .ret))))))):=k_
def U5:f49.body=some (.seq (rG f49 0) (.seq (rG f49 1) .ret)):=k_
section
variable{cb:Nat}{fl:Value}{W:List Int}{L:ByteArray}{on:Bool}{sl:Int}
def tI{w:World}{c}(h:w.heap[b]?=some (.cells c t))(f:t≠5)(d)(cs)(fr)(a:w.heap[d]?=some (.cells cs 5 fr)):¬d=b:=λe=>by simp_all
end
section
variable{W:World}{df:List Deferred}{Q:Act->WP}{M:List (Nat×WP)}{d:Tmp}{p:Op}{gd:Option (Nat×Bool)}
def u_(next:Gx P ops W N n df Q (m+1) ((d,v)::F) M)(h:Is ops m d p gd:=by rfl)(hw:gV ops F gd=some true:=by rfl)(hk0:A5 ops (Z8 ops n m) gd=true:=by kernel_rfl)(y:∀(o:Oper) (a:Act) (w:World),o.op=p->At ops W n m F M a w->(execOp a.eval o).run P w= .ok (.value v) w:=by intro o a w ho z;have hC:=z.b;exact oc):Gx P ops W N n df Q m F M:=n_ next h hw hk0 y
end
end L1
section
open Go.RowKit
def GZ{a c}(e:a<65536)(d:b<65536):xe a b c<65536:=by have h:a&&&b<2^16:=au7 _ d;have g:a&&&c<2^16:=ZG aP5 e;have f:b&&&c<2^16:=ZG aP5 d;exact ay_ (ay_ h g) f
def Pt{a c:Nat}(h:a<65536)(e:b<65536)(d:c<65536):
 bits .or .i64 (bits .or .i64 (bits .and .i64 (a:Int) (b:Int)) (bits .and .i64 (a:Int) (c:Int))) (bits .and .i64 (b:Int) (c:Int))=((xe a b c:Nat):Int):=by have g:a&&&b<2^16:=au7 _ e;have f:a&&&c<2^16:=au7 _ d;have j:b&&&c<2^16:=au7 _ d;have i:=ay_ g f;rw[Yk _ _ o_ o_,Yk _ _ o_ o_,Yk _ _ o_ o_,jf _ _ o_ o_,jf _ _ o_ o_];rfl
def QV{g off}{W:List Int}(h:w.rangeAt g off (W.map (Value.int .i64)))(n)(a:n<W.length):w.cell? ⟨g,off+n,none⟩=some (.i (W.getD n 0)):=by refine h n _ ?_;simp_all
end
namespace L1
open Go.Conc Go.RowKit
section
variable{y z:Operand}
def g7{g off a cap}(n:Nat)(e:lT.underlying t=some (.slice 3))(b:o.op= .indexAddr t x y)(d:ev x= .slice (some ⟨g,off,none⟩) a cap)(c:ev y= .i n)(f:n<a):eX ev o w (.pk g (off+n)):=by
 have:=(dI (w:=w) e s_ b d c f).1
 rwa [AS]at this
def wD{g off}{W:List Int}(n)(h:w.rangeAt g off (W.map (Value.int .i64)))(c:n<W.length)(a:o.op= .load 3 x)(b:ev x= .pk g (off+n)):eX ev o w (.i (W.getD n 0)):=(aO bH a b (QV h n c)).1
def QU{m n}(a:o.op= .binOp .or 3 x y u)(c:ev x= .i m)(b:ev y= .i n):(execOp ev o).run lT w= .ok (.value (.i (bits .or .i64 m n))) w:=by simp[execOp,a,c,b,go_sem]
def wx{m n}(a:o.op= .binOp .and 132 x y u)(c:ev x= .int .u64 m)(b:ev y= .int .u64 n):(execOp ev o).run lT w= .ok (.value (.int .u64 (bits .and .u64 m n))) w:=by simp[execOp,a,c,b,go_sem]
def te{m n}(a:o.op= .binOp .add 132 x y u)(c:ev x= .int .u64 m)(b:ev y= .int .u64 n):(execOp ev o).run lT w= .ok (.value (.int .u64 (Tu.wrap (m+n)))) w:=by simp[execOp,a,c,b,go_sem]
def td{m}(d:k<=32)(a:o.op= .binOp .shr 132 x y u)(c:ev x= .int .u64 m)(b:ev y= .int .u64 k):(execOp ev o).run lT w= .ok (.value (.int .u64 (m/2^k))) w:=by simp[execOp,a,c,b,go_sem]
def Oi{m}(a:o.op= .convert 132 3 x)(b:ev x= .int .u64 m):(execOp ev o).run lT w= .ok (.value (.i (DN.wrap m))) w:=by
 have d:lT.underlying 132=some (.int .u64):=k_
 have c:lT.underlying 3=some (.int .i64):=k_
 simp[execOp,a,b,go_sem,d,c]
def Ox{m}(a:o.op= .convert 3 112 x)(b:ev x= .i m):(execOp ev o).run lT w= .ok (.value (.int .u64 (Tu.wrap m))) w:=by
 have d:lT.underlying 112=some (.int .u64):=k_
 have c:lT.underlying 3=some (.int .i64):=k_
 simp[execOp,a,b,go_sem,d,c]
end
def MX:f104.body=some (.seq (rG f104 0) (.seq (rG f104 1) .ret)):=k_
def CL(x)(c:0<=x/\x<65536)(w):Calls lT 104 #[.i x] w λe w'=>e= .returned (.bool true)/\w'=w:=by
 refine eK lf104 MX λf a b=> ?_
 iterate 4 refine Rn.uc b λa b=> ?_
 rw[decide_eq_true c.1]at b
 iterate 2 refine Rn.uc b λa b=> ?_
 refine Rn.vv b (λo d=>oJ d (b.G 5) (b.G 7)) λa b=> ?_;rw[decide_eq_true o_]at b;refine Rn.uc b λa b=> ?_;exact Rn.fi b ⟨rfl,rfl⟩
def Wo(f:Func):Code:= .seq (rG f 4) (.seq (.cond (.tmp 11) .skip (.exit 0)) (.seq (.block 1 (.seq (rG f 5) (.seq (rG f 6) (.cond (.tmp 16) (.seq (rG f 7) .ret) .skip)))) (rG f 8)))
def Mf(f:Func):Code:= .seq (rG f 9) .ret
def MZ:f98.body=some (.seq (rG f98 0) (.seq (.seq (rG f98 1) (.cond (.tmp 7) (.seq (rG f98 2) .ret) .skip)) (.seq (.seq (rG f98 3) (.block 0 (.loop (Wo f98)))) (Mf f98)))):=k_
def Kv{W}(d:g6 W){g off cap}(j:w.rangeAt g off (W.map (Value.int .i64)))(e:∀a,Has [(2, .bool true)] 18 [] a->Rn lT Goal ((base 98).atR a [.code .ret]) cs w):
 ∀(m i:Nat) a,85- i=m->i<=85->Has [(8, .slice (some ⟨g,off,none⟩) 85 cap),(9, .i 85),(10, .i i)] 18 [] a->Rn lT Goal ((base 98).atR a [.code (Wo f98), .inLoop (Wo f98), .inBlock 0, .code (Mf f98)]) cs w:=by
 intro m;induction m with
 |zero=>
  intro i a k l b;refine Rn.uc b λa b=> ?_;refine Rn.p rfl (Rn.p rfl (Rn.cond _ (b.G 11) ?_));rw[decide_eq_false o_];refine Rn.uc b λa b=> ?_;exact Rn.p rfl (e _ b.O)
 |succ m f=>
  intro i a k l b;refine Rn.uc b λa b=> ?_;refine Rn.p rfl (Rn.p rfl (Rn.cond _ (b.G 11) ?_));rw[decide_eq_true o_];refine Rn.vv b (λo c=>g7 i k_ c (b.G 8) (b.G 10) o_) λa b=> ?_;refine Rn.vv b (λo c=>wD i j (by rw[d.1];omega) c (b.G 12)) λa b=> ?_
  iterate 2 refine Rn.uc b λa b=> ?_
  refine Rn.cw b lf104 (CL _ (d.2 i o_) w) λp h a b=> ?_;rw[h];refine Rn.uc b λa b=> ?_;refine Rn.p rfl (Rn.cond _ (b.G 16) ?_);refine Rn.vv b (λo c=>cJ (n:=1) c (b.G 10) rfl o_) λa b=> ?_;refine Rn.uc b λa b=> ?_;exact Rn.p rfl (Rn.p rfl (f (i+1) _ o_ o_ b.O))
def Nf{W}(f:g6 W)(g off cap)(w)(d:w.rangeAt g off (W.map (Value.int .i64))):Calls lT 98 #[.slice (some ⟨g,off,none⟩) 85 cap] w λe w'=>e= .returned (.bool true)/\w'=w:=by
 refine eK lf98 MZ λh a b=> ?_
 iterate 2 refine Rn.uc b λa b=> ?_
 refine Rn.vv b (λo c=>lK c (b.G 5)) λa b=> ?_;refine Rn.uc b λa b=> ?_;refine Rn.p rfl (Rn.cond _ (b.G 7) ?_);refine Rn.uc b λa b=> ?_;refine Rn.vv b (λo c=>lK c (b.G 8)) λa b=> ?_;refine Rn.uc b λa b=> ?_;refine Rn.p rfl (Rn.p rfl (Rn.p rfl (Kv f d (λa b=>Rn.fi b ⟨rfl,rfl⟩) 85 0 _ rfl o_ b.O)))
def Qp:f192.body=some (.seq (rG f192 0) (.seq (rG f192 1) (.seq (rG f192 2) (.seq (rG f192 3) (.seq (rG f192 4) (.seq (rG f192 5) (.seq (rG f192 6) (.seq (rG f192 7) .ret)))))))):=k_
def Cl(x:Int)(w:World):Calls lT 192 #[.int .u64 x] w λe w'=>e= .returned (.i (uG x))/\w'=w:=by
 refine eK (N:=35) lf192 Qp λd a b=> ?_
 iterate 2 refine Rn.uc b λa b=> ?_
 refine Rn.vv b (λo c=>td (k:=1) o_ c (b.G 3) rfl) λa b=> ?_;refine Rn.vv b (λo c=>wx c (b.G 4) rfl) λa b=> ?_;refine Rn.uc b λa b=> ?_;refine Rn.vv b (λo c=>wx c (b.G 6) rfl) λa b=> ?_;refine Rn.vv b (λo c=>te c (b.G 5) (b.G 7)) λa b=> ?_;refine Rn.uc b λa b=> ?_;refine Rn.uc b λa b=> ?_;refine Rn.vv b (λo c=>td (k:=2) o_ c (b.G 9) rfl) λa b=> ?_;refine Rn.vv b (λo c=>wx c (b.G 10) rfl) λa b=> ?_;refine Rn.uc b λa b=> ?_;refine Rn.vv b (λo c=>wx c (b.G 12) rfl) λa b=> ?_;refine Rn.vv b (λo c=>te c (b.G 11) (b.G 13)) λa b=> ?_;refine Rn.uc b λa b=> ?_;refine Rn.uc b λa b=> ?_;refine Rn.vv b (λo c=>td (k:=4) o_ c (b.G 15) rfl) λa b=> ?_;refine Rn.uc b λa b=> ?_;refine Rn.vv b (λo c=>te c (b.G 16) (b.G 17)) λa b=> ?_;refine Rn.vv b (λo c=>wx c (b.G 18) rfl) λa b=> ?_;refine Rn.uc b λa b=> ?_;refine Rn.uc b λa b=> ?_;refine Rn.uc b λa b=> ?_;refine Rn.vv b (λo c=>td (k:=8) o_ c (b.G 21) rfl) λa b=> ?_;refine Rn.vv b (λo c=>te c (b.G 20) (b.G 22)) λa b=> ?_;refine Rn.uc b λa b=> ?_;refine Rn.uc b λa b=> ?_;refine Rn.uc b λa b=> ?_;refine Rn.vv b (λo c=>td (k:=16) o_ c (b.G 25) rfl) λa b=> ?_;refine Rn.vv b (λo c=>te c (b.G 24) (b.G 26)) λa b=> ?_;refine Rn.uc b λa b=> ?_;refine Rn.uc b λa b=> ?_;refine Rn.uc b λa b=> ?_;refine Rn.vv b (λo c=>td (k:=32) o_ c (b.G 29) rfl) λa b=> ?_;refine Rn.vv b (λo c=>te c (b.G 28) (b.G 30)) λa b=> ?_;refine Rn.uc b λa b=> ?_;refine Rn.uc b λa b=> ?_;refine Rn.vv b (λo c=>Oi c (b.G 32)) λa b=> ?_;refine Rn.vv b (λo c=>ma c (b.G 33) rfl) λa b=> ?_;refine Rn.uc b λa b=> ?_;exact Rn.fi b ⟨rfl,rfl⟩
def TY:f188.body=some (.seq (rG f188 0) (.seq (.cond (.const (.bool false)) (.seq (rG f188 1) .ret) .skip) (.seq (rG f188 2) .ret))):=k_
def Ji(x)(w):Calls lT 188 #[.int .u64 x] w λe w'=>e= .returned (.i (uG x))/\w'=w:=by refine eK lf188 TY λd a b=> ?_;refine Rn.uc b λa b=> ?_;refine Rn.p rfl (Rn.p rfl (Rn.cond false rfl ?_));refine Rn.uc b λa b=> ?_;refine Rn.cw b lf192 (Cl x w) λw' c a b=> ?_;rw[c];refine Rn.uc b λa b=> ?_;exact Rn.fi b ⟨rfl,rfl⟩
def TP:f176.body=some (.seq (rG f176 0) (.seq (rD f176 1) (.seq (.seq (rG f176 2) (.block 0 (.seq (.seq (rG f176 3) (.cond (.tmp 13) .skip (.seq (rG f176 4) (.cond (.tmp 13) .skip (.seq (rG f176 5) (.cond (.tmp 13) .skip (rG f176 6))))))) (.cond (.tmp 13) (.seq (rG f176 7) .ret) .skip)))) (.seq (rG f176 8) .ret)))):=k_
def IP{W:List Int}(L:g6 W)(i off cap:Nat)(w:World)(I:w.rangeAt i off (W.map (Value.int .i64))):Calls lT 176 #[.slice (some ⟨i,off,none⟩) 85 cap] w λe w'=>∃v,e= .returned v/\∃s,v= .tuple #[.i s, .bool (DT W)]/\(DT W=true->s=W.getD 0 0)/\Bw w w':=by
 refine ki (t:=2) (u:=3) lf176 rfl λF=>Rn.ent (N:=22) lf176 TP λa b=> ?_
 iterate 2 refine Rn.uc b λa b=> ?_
 have b:Has [(0, .slice (some ⟨i,off,none⟩) 85 cap)] 22 [] a:=b.O;have O:=L.1;have A:∀{w':World},Bw w w'->∀n,n<85->w'.cell? ⟨i,off+n,none⟩=some (.i (W.getD n 0)):=λJ n M=>bM J (QV I n o_);refine Rn.p rfl (Rn.p rfl ?_);refine Rn.gt b ?_;refine u_ ?_;refine n_ ?_ (y:=λo a w d z=>g7 0 k_ d gx rfl o_);refine n_ ?_ (y:=λo a w d z=>(aO bH d gx (A z.b 0 o_)).1);refine u_ ?_;refine n_ ?_ (y:=λo a w d z=>g7 1 k_ d gx rfl o_);refine n_ ?_ (y:=λo a w d z=>(aO bH d gx (A z.b 1 o_)).1)
 iterate 2 refine u_ ?_
 refine q_ λa H b G _=> ?_;have c:∀{a:Act} {K:List Item},(W.getD 0 0==255||W.getD 0 0==3855||W.getD 0 0==13107||W.getD 0 0==21845)=true->Has [(4, .i (W.getD 0 0)),(5, .i (W.getD 1 0)),(13, .bool true)] 22 [] a->Rn lT (λg w'=>∃(a:Act) (k:List Item) (v x:Value),g=cD {(base 176).atR a k with mode:= .returning} F/\a.defers=[]/\a.tmps[2]?=some v/\a.tmps[3]?=some x/\∃j,Zo (.tuple #[v,x])= .returned j/\∃s,j= .tuple #[.i s, .bool (DT W)]/\(DT W=true->s=W.getD 0 0)/\Bw w w') ((base 176).atR a (.code (.cond (.tmp 13) (.seq (rG f176 7) .ret) .skip)::K)) F H:=λ{a K} h b=>by
  refine Rn.cond _ (b.G 13) ?_
  iterate 6 refine Rn.uc b λa b=> ?_
  refine Rn.fj b ⟨_,rfl,W.getD 0 0, ?_,λ_=>rfl,G⟩;rw[DT,h,az5]
 iterate 3 refine Rn.uc b λa b=> ?_
 refine Rn.p rfl (Rn.cond _ (b.G 13) ?_);by_cases E:W.getD 0 0=255
 .have q:(W.getD 0 0==255)=true:=by simpa using E
  rw[q]at b⊢;exact Rn.p rfl (c (by simp_all) b.O)
 have r:(W.getD 0 0==255)=false:=by simpa using E
 rw[r]
 iterate 2 refine Rn.uc b λa b=> ?_
 refine Rn.p rfl (Rn.cond _ (b.G 13) ?_);by_cases D:W.getD 0 0=3855
 .have q:(W.getD 0 0==3855)=true:=by simpa using D
  rw[q]at b⊢;exact Rn.p rfl (c (by simp_all) b.O)
 have p:(W.getD 0 0==3855)=false:=by simpa using D
 rw[p]
 iterate 2 refine Rn.uc b λa b=> ?_
 refine Rn.p rfl (Rn.cond _ (b.G 13) ?_);by_cases C:W.getD 0 0=13107
 .have q:(W.getD 0 0==13107)=true:=by simpa using C
  rw[q]at b⊢;exact Rn.p rfl (c (by simp_all) b.O)
 have m:(W.getD 0 0==13107)=false:=by simpa using C
 rw[m]
 iterate 2 refine Rn.uc b λa b=> ?_
 by_cases B:W.getD 0 0=21845
 .have q:(W.getD 0 0==21845)=true:=by simpa using B
  rw[q]at b;exact Rn.p rfl (c (by simp_all) b.O)
 have l:(W.getD 0 0==21845)=false:=by simpa using B
 refine Rn.p rfl (Rn.cond _ (b.G 13) ?_);rw[l]
 iterate 2 refine Rn.uc b λa b=> ?_
 have f:DT W=false:=by simp only[DT,r,p,m,l,Bool.or_self,aF7]
 exact Rn.fj b ⟨_,rfl,0,by rw[f],λe=>(by simp_all),G⟩
def U3:f177.body=some (.seq (rG f177 0) (.seq (rD f177 1) (.seq (rG f177 2) (.seq (.seq (rG f177 3) (.cond (.tmp 32) (.seq (rG f177 4) .ret) .skip)) (.seq (rG f177 5) .ret))))):=k_
def Fb{W}(g:g6 W)(j off cap)(w)(I:w.rangeAt j off (W.map (Value.int .i64))):Calls lT 177 #[.slice (some ⟨j,off,none⟩) 85 cap] w λe w'=>∃v,e= .returned v/\∃s,v= .tuple #[.i s, .bool (M4 W)]/\(M4 W=true->s=uG (sZ W))/\Bw w w':=by
 refine ki lf177 rfl λM=>Rn.ent lf177 U3 λa b=> ?_
 iterate 2 refine Rn.uc b λa b=> ?_
 have b:Has [(0, .slice (some ⟨j,off,none⟩) 85 cap)] 36 [] a:=b.O;have L:=g.1;have k:∀{w':World},Bw w w'->∀n,n<85->w'.cell? ⟨j,off+n,none⟩=some (.i (W.getD n 0)):=λJ n K=>bM J (QV I n o_);obtain⟨A,E,i⟩:∃A:Nat,W.getD 2 0=(A:Int)/\A<65536:=⟨(W.getD 2 0).toNat,by have:=g.2 2 o_;omega,by have:=g.2 2 o_;omega⟩;obtain⟨B,D,h⟩:∃A:Nat,W.getD 3 0=(A:Int)/\A<65536:=⟨(W.getD 3 0).toNat,by have:=g.2 3 o_;omega,by have:=g.2 3 o_;omega⟩;obtain⟨C,x,q⟩:∃A:Nat,W.getD 4 0=(A:Int)/\A<65536:=⟨(W.getD 4 0).toNat,by have:=g.2 4 o_;omega,by have:=g.2 4 o_;omega⟩;have r:sZ W=xe A B C:=by simp only[sZ,E,D,x,Zt]
 have p:=GZ (c:=C) i h;refine Rn.p rfl (Rn.p rfl ?_);refine Rn.gt b ?_;refine u_ ?_;refine n_ ?_ (y:=λo a w d z=>g7 2 k_ d gx rfl o_);refine n_ ?_ (y:=λo a w d z=>(aO bH d gx (E▸k z.b 2 o_)).1);refine u_ ?_;refine n_ ?_ (y:=λo a w d z=>g7 3 k_ d gx rfl o_);refine n_ ?_ (y:=λo a w d z=>(aO bH d gx (D▸k z.b 3 o_)).1);refine u_ ?_;refine n_ ?_ (y:=λo a w d z=>g7 4 k_ d gx rfl o_);refine n_ ?_ (y:=λo a w d z=>(aO bH d gx (x▸k z.b 4 o_)).1)
 iterate 3 refine u_ ?_
 refine q_ λa G b F _=> ?_
 iterate 2 refine Rn.uc b λa b=> ?_
 refine Rn.vv b (λo d=>ma d (b.G 17) (b.G 18)) λa b=> ?_
 iterate 2 refine Rn.uc b λa b=> ?_
 refine Rn.vv b (λo d=>ma d (b.G 20) (b.G 21)) λa b=> ?_;refine Rn.vv b (λo d=>QU d (b.G 19) (b.G 22)) λa b=> ?_
 iterate 2 refine Rn.uc b λa b=> ?_
 refine Rn.vv b (λo d=>ma d (b.G 24) (b.G 25)) λa b=> ?_;refine Rn.vv b (λo d=>QU d (b.G 23) (b.G 26)) λa b=> ?_;rw[(Pt i h q),←r]at b;rw[←r]at p
 iterate 3 refine Rn.uc b λa b=> ?_
 refine Rn.vv b (λo d=>cJ (n:=1) d (b.G 29) rfl o_) λa b=> ?_;refine Rn.vv b (λo d=>ma d (b.G 28) (b.G 30)) λa b=> ?_;rw[Yk _ _ o_ o_]at b;refine Rn.uc b λa b=> ?_;refine Rn.p rfl (Rn.cond _ (b.G 32) ?_);by_cases l:sZ W&&&(sZ W+1)=0
 .have f:M4 W=true:=by simp[M4,l]
  rw[l];refine Rn.uc b λa b=> ?_;refine Rn.vv b (λo d=>Ox d (b.G 33)) λa b=> ?_;rw[show Tu.wrap ((sZ W:Nat):Int)=((sZ W:Nat):Int)from by rw[XZ];omega]at b;refine Rn.cw b lf188 (Ji _ G) λw' H a b=> ?_;rw[H]
  iterate 2 refine Rn.uc b λa b=> ?_
  exact Rn.fj b ⟨_,rfl,_,by rw[f],λ_=>rfl,F⟩
 .have f:M4 W=false:=by simp[M4,l]
  rw[show(((sZ W&&&(sZ W+1):Nat):Int) !=0)=true from by simp;omega]
  iterate 2 refine Rn.uc b λa b=> ?_
  exact Rn.fj b ⟨_,rfl,0,by rw[f],λe=>(by simp_all),F⟩
end L1
namespace L1
open Go.RowKit
def sT(b off cap a)(x y)(w:World)(h:a+1<20)
 (m:w.cell? ⟨b,off+a,none⟩=some (.i x)) (l:w.cell? ⟨b,off+(a+1),none⟩=some (.i y)):
 Calls lT 190 #[.slice (some ⟨b,off,none⟩) 20 cap, .i a] w λe w'=>e= .returned (.bool (u7 x y))/\∃n,w'=w.drewN n:=by
 have j:DN.wrap ((a:Int)+1)=((a+1:Nat):Int):=by rw[as3]<;>omega
 have k:(a:Int)<20:=o_
 have g:((a+1:Nat):Int)<20:=o_
 by_cases c:x=y
 .subst c;have d:(x==x)=true:=s_
  by_cases g:x=4080
  .subst g;have f:Hid (u7 4080 4080=true):=by rfl
   go_enter lf190,ntmps190
   go_wp2
   go_quiet (fail)
   go_wp2_with fail
   go_ret
   exact⟨by rw[f.out];rfl,_,rfl⟩
  .have i:(x==4080)=false:=(by simp_all);have f:Hid (u7 x x=(x==61455)):=by show u7 x x=_;simp[u7,i]
   go_enter lf190,ntmps190
   go_wp2
   go_quiet (fail)
   go_wp2_with fail
   go_ret
   exact⟨by rw[f.out];rfl,_,rfl⟩
 .have d:(x==y)=false:=by simp_all
  have f:Hid (u7 x y=false):=by show u7 x y=_;simp[u7,d]
  go_enter lf190,ntmps190
  go_wp2
  go_quiet (fail)
  go_wp2_with fail
  go_ret
  exact⟨by rw[f.out];rfl,_,rfl⟩
end L1
section
open Go.Conc Go.RowKit
section
variable{b:Frame}{k:List Item}
def Rn.cg{d:Tmp}{xs}{ats}{i}{j}{R:Value->World->Prop}{l}(g:Has F N ds a)(s:P.funcs[f]?=some fn)(y:Calls P f i.toArray w λe w'=>∃v,e= .returned v/\R v w')
 (next:∀v w',R v w'->∀a',Has ((d,v)::F) N ds a'->Rn P Goal (b.atR a' (.inRegion ops rest::j)) cs w') (z:fV 6 (b.atR a k)= .inRegion ops (m::rest)::j:=by rfl)
 (h:(ops[m]?).map (λo=>(o.dst,o.op,o.guard))=some (some d, .call {callee:= .value (.func f),args:=xs,argTypes:=ats},l):=by rfl) (p:gV ops F l=some true:=by rfl) (x:PU F xs.toList=some i:=by rfl) (t:d<N:=by decide) (c:(fn.name== "runtime.NumGoroutine")=false:=by kernel_rfl) (u:fn.body.isNone=false:=by kernel_rfl):Rn P Goal (b.atR a k) cs w:=by refine Rn.gr ?_ z;have⟨o,r,B,n,A⟩:=ng h;refine Rn.call r (iD g A p) (by rw[n];simp) (bI n (by rw[←tK g _ _ x,←Array.toList_map,Array.toArray_toList]) (dJ s c u _)).1 y λv w' q=> ?_;rw[B];exact next v w' q _ (g.put t v)
end
def lf114:(aI q tP).funcs[114]?=some f114:=aM func114 d_ rfl rfl k_
def lf115:(aI q tP).funcs[115]?=some f115:=aM func115 d_ rfl rfl k_
def vc(w)(n):Bw w (w.drewN n):=⟨rfl,rfl,rfl,ar5 _,s_⟩
def sQ{T e B:Nat}{p}{bs}{M i}(h:aQ8 T e B b p bs M)(a:Bw M i):aQ8 T e B b p bs i:=by
 have f:=h.lt;have⟨j,v,g,c,d⟩:=h;refine⟨j,v,a.block b f▸g,c.kept (row:=none) ⟨a.os,a.tape,a.output,a.size,λk g _=>a.block k g⟩ ?_,d⟩
 grind
def xk{T e B:Nat}{bs}{M c}(h:ay7 T e B b bs M)(a:Bw M c):ay7 T e B b bs c:=
 h.elim (λx=> .inl (sQ x a)) (λx=> .inr (sQ x a))
def AM(L):(ey L).length=2*L.length:=by
 induction L with
 |nil=>rfl
 |cons x L a=>rw[ey,au_,V7,cO];rw[ey]at a;grind
end
namespace L1
open Go.Conc Go.RowKit
def TS:f179.body=some (.seq (rG f179 0) (.seq (rG f179 1) .ret)):=k_
def Ee(L)(h off cap)(w)(f:w.rangeAt h off (L.map (Value.int .i64)))(y:L.length=20):Calls lT 179 #[.slice (some ⟨h,off,none⟩) 20 cap] w λe w'=>e= .returned (.bool (iM L))/\Bw w w':=by
 refine eK lf179 TS λz a b=> ?_
 iterate 2 refine Rn.uc b λa b=> ?_
 refine Rn.cw b lf190 (sT h off cap 0 _ _ w o_ (QV f 0 o_) (QV f 1 o_)) λd ⟨l,i⟩ a b=> ?_;have c:=i▸vc w l;refine Rn.uc b λa b=> ?_;cases g:u7 (L.getD 0 0) (L.getD 1 0)with
 |false=>
  rw[g]at b
  iterate 2 refine Rn.us b λa b=> ?_
  refine Rn.vv b (λo j=>mO j (b.G 5) rfl) λa b=> ?_;refine Rn.uc b λa b=> ?_;exact Rn.fi b ⟨by rw[iM,g,aF7],c⟩
 |true=>
  rw[g]at b;refine Rn.uc b λa b=> ?_;refine Rn.cg b lf190 (R:=λv w'=>v= .bool (u7 (L.getD 2 0) (L.getD 3 0))/\∃n,w'=d.drewN n) ((sT h off cap 2 _ _ d o_ (bM c (QV f 2 o_)) (bM c (QV f 3 o_))).mono λe w' ⟨q,p⟩=>⟨_,q,rfl,p⟩) λv x m a b=> ?_;obtain⟨rfl,k,rfl⟩:=m;refine Rn.vv b (λo j=>oJ j (b.G 5) (b.G 7)) λa b=> ?_;refine Rn.uc b λa b=> ?_;exact Rn.fi b ⟨by rw[iM,g,az5],aD c c.size (vc d k)⟩
def TJ:f180.body=some (.seq (rG f180 0) (.seq (rG f180 1) .ret)):=k_
def BF(L)(g off cap)(w)(f:w.rangeAt g off (L.map (Value.int .i64)))(h:L.length=20):Calls lT 180 #[.slice (some ⟨g,off,none⟩) 20 cap] w λe w'=>e= .returned (.bool (io L))/\Bw w w':=by
 refine eK lf180 TJ λi a b=> ?_
 iterate 2 refine Rn.uc b λa b=> ?_
 refine Rn.vv b (λo c=>g7 0 k_ c (b.G 3) rfl o_) λa b=> ?_;refine Rn.vv b (λo c=>wD 0 f o_ c (b.G 4)) λa b=> ?_
 iterate 2 refine Rn.uc b λa b=> ?_
 cases d:(L.getD 0 0==4080)with
 |false=>
  rw[d]at b
  iterate 4 refine Rn.us b λa b=> ?_
  refine Rn.vv b (λo c=>mO c (b.G 7) rfl) λa b=> ?_;refine Rn.uc b λa b=> ?_;exact Rn.fi b ⟨by rw[io,d,aF7],bR⟩
 |true=>
  rw[d]at b;refine Rn.uc b λa b=> ?_;refine Rn.vv b (λo c=>g7 2 k_ c (b.G 8) rfl o_) λa b=> ?_;refine Rn.vv b (λo c=>wD 2 f o_ c (b.G 9)) λa b=> ?_;refine Rn.uc b λa b=> ?_;refine Rn.vv b (λo c=>oJ c (b.G 7) (b.G 11)) λa b=> ?_;refine Rn.uc b λa b=> ?_;exact Rn.fi b ⟨by rw[io,d,az5],bR⟩
def NU(B b)(bs)(s)(w)(h:ay7 171 5 B b bs w)(a:bs.length+s.size<=140737488355328)(c:B<=w.heap.size):
 Calls lT 114 #[.pk b 0, .s s] w λe w'=>∃v,e= .returned v/\ay7 171 5 B b (bs++Lib.strCells s) w'/\Below B w w':=
 (Go.Proofs.Any.Builder_WriteString_f {ly156 (q:=true)with} Lf.extra156 B b bs s w h a c).mono λ_ _ h=>⟨_,h.1, .inr h.2.1,h.2.2⟩
def Lb(B b)(l)(w)(h:ay7 171 5 B b (aR3 l) w)(a:B<=w.heap.size):
 Calls lT 115 #[.pk b 0] w λe w'=>e= .returned (.string ⟨l.toArray⟩)/\Below B w w':=
 (Go.Proofs.Any.Builder_String_any_f {ly156 (q:=true)with} Lf.extra156 B b l w h a).mono λ_ _ h=>⟨h.1,h.2.2⟩
section
variable{y z:Operand}
def SP(a:o.op= .alloc 171):(execOp ev o).run lT w= .ok (.value (.pk w.heap.size 0)) (w.alloc (.cells #[.pointer none, .slice none 0 0] 171)):=by simp[execOp,a];kernel_rfl
def P0{a off cap}(i:20<=cap)(c:o.op= .slice 234 x (some y) none none)(e:ev x= .slice (some ⟨a,off,none⟩) 20 cap)(d:ev y= .i 4):(execOp ev o).run lT w= .ok (.value (.slice (some ⟨a,off+4,none⟩) 16 (cap- 4))) w:=by
 have f:lT.underlying 234=some (.slice 3):=k_
 have b:(sizeOf 3).run lT w= .ok 1 w:=k_
 have g:¬cap=4:=o_
 have h:(⟨a,off,none⟩:Addr).add 4=⟨a,off+4,none⟩:=AS ..;simp[execOp,c,e,d,Mv,YT,Ng,run_underlying f,Tv,asIntOf,b,g,h]
end
def XI(f:Func):Code:= .seq (rG f 3) (.seq (.cond (.tmp 10) .skip (.exit 0)) (.seq (.block 1 (.seq (rG f 4) (rG f 5))) (rG f 6)))
def QY(f:Func):Code:= .seq (rG f 7) .ret
def U9:f181.body=some (.seq (rG f181 0) (.seq (rG f181 1) (.seq (.seq (rG f181 2) (.block 0 (.loop (XI f181)))) (QY f181)))):=k_
section
variable{L:List Int}{gb off cap:Nat}
def JN(B:w.rangeAt gb off (L.map (Value.int .i64)))(J:L.length=20)(z:∀k,k<20->0<=L.getD k 0/\L.getD k 0<65536)
 (t:∀a w',Bw w w'->Has [(2, .string ⟨(ey (L.drop 4)).toArray⟩)] 18 [] a->Rn lT Goal ((base 181).atR a [.code .ret]) cs w'):
 ∀m i a c,16- i=m->i<=16->Bw w c->w.heap.size<c.heap.size->ay7 171 5 w.heap.size w.heap.size (aR3 (ey ((L.drop 4).take i))) c->Has [(3, .pt w.heap.size),(7, .slice (some ⟨gb,off+4,none⟩) 16 (cap- 4)),(8, .i 16),(9, .i i)] 18 [] a->Rn lT Goal ((base 181).atR a [.code (XI f181), .inLoop (XI f181), .inBlock 0, .code (QY f181)]) cs c:=by
 intro m;induction m with
 |zero=>
  intro i a c C D e y g b;have l:(L.drop 4).take i=L.drop 4:=List.take_of_length_le (by grind);rw[l]at g;refine Rn.uc b λa b=> ?_;refine Rn.p rfl (Rn.p rfl (Rn.cond _ (b.G 10) ?_));rw[decide_eq_false o_];refine Rn.cw b lf115 (Lb _ _ _ c g o_) λh f a b=> ?_;refine Rn.uc b λa b=> ?_;exact Rn.p rfl (t _ _ (e.trans f) b.O)
 |succ m u=>
  intro i a c C D e y g b;refine Rn.uc b λa b=> ?_;refine Rn.p rfl (Rn.p rfl (Rn.cond _ (b.G 10) ?_));rw[decide_eq_true o_];have I:=z (4+i) o_;have p:=bM e (QV B (4+i) o_);obtain⟨x,q⟩:∃x:Nat,L.getD (4+i) 0=(x:Int):=⟨(L.getD (4+i) 0).toNat,o_⟩;rw[←aH_,q]at p;refine Rn.vv b (λo d=>g7 i k_ d (b.G 7) (b.G 9) o_) λa b=> ?_;refine Rn.vv b (λo d=>(aO bH d (b.G 11) p).1) λa b=> ?_
  iterate 2 refine Rn.uc b λa b=> ?_
  refine Rn.cw b lf92 (nH x o_ c) λh f a b=> ?_;have H:=f.size;refine Rn.cl b lf114 (NU _ _ _ ⟨(dm x 2).toArray⟩ h (xk g f) (by rw[Lib.byteCells_length,AM,List.length_take];have:(ByteArray.mk (dm x 2).toArray).size=2:=(by show(dm x 2).toArray.size=2;rw[JR,cO]);omega) o_) λv s A a b=> ?_
  have⟨j,r⟩:=A;have G:=r.size;refine Rn.vv b (λo d=>cJ (n:=1) d (b.G 9) rfl o_) λa b=> ?_;refine Rn.uc b λa b=> ?_;refine Rn.p rfl (Rn.p rfl (u (i+1) _ s o_ o_ ((e.trans (f.mono e.size)).trans r) o_ ?_ b.O));have F:(L.drop 4).take (i+1)=(L.drop 4).take i++[(x:Int)]:=by have E:i<(L.drop 4).length:=(by grind);rw[List.take_succ_eq_append_getElem E,List.getElem_drop,←q,as2,List.getElem?_eq_getElem o_];rfl
  rw[F,show ey ((L.drop 4).take i++[(x:Int)])=ey ((L.drop 4).take i)++dm x 2 from by simp[ey],Lib.byteCells_append];exact j
def JO(l:w.rangeAt gb off (L.map (Value.int .i64)))(m:L.length=20)(j:∀k,k<20->0<=L.getD k 0/\L.getD k 0<65536)(d:20<=cap):Calls lT 181 #[.slice (some ⟨gb,off,none⟩) 20 cap] w λe w'=>e= .returned (.string ⟨(ey (L.drop 4)).toArray⟩)/\Bw w w':=by refine eK lf181 U9 λp a b=> ?_;refine Rn.uc b λa b=> ?_;refine Rn.vv b (λo c=>SP c) λa b=> ?_;have g:=aR w (.cells #[.pointer none, .slice none 0 0] 171);have h:=aJ w (.cells #[.pointer none, .slice none 0 0] 171);have f:=Lib.IsBuilderF.of (Lib.fresh_isBuilder 171 5 w);revert g h f;generalize w.alloc (.cells #[.pointer none, .slice none 0 0] 171)=i;intro g h f;refine Rn.uc b λa b=> ?_;refine Rn.vv b (λo c=>P0 d c (b.G 6) rfl) λa b=> ?_;refine Rn.vv b (λo c=>jV (e:=3) k_ c (b.G 7)) λa b=> ?_;refine Rn.uc b λa b=> ?_;exact Rn.p rfl (Rn.p rfl (Rn.p rfl (JN l m j (λa w' n b=>Rn.fi b ⟨rfl,n⟩) 16 0 _ i rfl o_ g o_ f b.O)))
end
end L1
section
open Go.Conc Go.RowKit
def cX{a}{c1 c2}{f d}(c:w.heap[a]?=some (.cells c1 f))(h:w.heap[b]?=some (.cells c2 d))(g:f≠d):a≠b:=λe=>by simp_all
def iq{a}{g}{d}{r}(c:w.heap[a]?=some (.cells g d))(f:w.heap[b]?=some (.loop r)):a≠b:=λe=>by simp_all
def vJ{a}{g}{d}{x}(c:w.heap[a]?=some (.cells g d))(f:w.heap[b]?=some (.deferred x)):a≠b:=λe=>by simp_all
def dK{cs}(h:N<=b):Below N w (gK w b cs t):=⟨rfl,rfl,rfl,ay9 dE.symm,λk a=>cR o_⟩
def LC{b off}{W}(h:w.rangeAt b off (W.map (Value.int .i64)))(k):w.rangeAt b (off+(5+20*k)) ((jq W k).map (Value.int .i64)):=λj v a=>by
 rw[YR,jq,aG4]at a;split at a
 .rw[ZY]at a;rw[aH_];exact h _ v (by simp_all)
 .cases a
def Jd{W}(h:W.length=85)(a:k<4):(jq W k).length=20:=by simp[jq,h];omega
def Sz{W}(k)(a:j<20):(jq W k).getD j 0=W.getD (5+20*k+j) 0:=by rw[as2,as2,jq,aG4,if_pos a,ZY]
def kE(W:List Int)(k:Nat):List Bool:=(ar7 4).map λi=>if i<k then io (jq W i)else false
def l0(W:List Int)(k:Nat):List ByteArray:=(ar7 4).map λi=>if i<k then⟨(ey ((jq W i).drop 4)).toArray⟩else⟨#[]⟩
def Iw(W)(a:k<4):(kE W k).set k (io (jq W k))=kE W (k+1):=by rcases(o_:k=0\/k=1\/k=2\/k=3)with rfl|rfl|rfl|rfl<;>rfl
def JL(W)(a:k<4):(l0 W k).set k ⟨(ey ((jq W k).drop 4)).toArray⟩=l0 W (k+1):=by rcases(o_:k=0\/k=1\/k=2\/k=3)with rfl|rfl|rfl|rfl<;>rfl
end
namespace L1
open Go.Conc Go.RowKit
def QC(f:Func):Code:= .seq (rG f 11) (rG f 12)
def I6(f:Func):Code:= .block 1 (.seq (.seq (rG f 13) (.cond (.tmp 41) (.seq (rG f 14) .ret) .skip)) (.seq (rD f 15) (rD f 16)))
def wI(f:Func)(T:Array Value)(ld:Nat)(st:LoopState)(pd:Option Code):Loop:={state:=st,pending:=pd,fn:=158,tmps:=T,params:=#[37,38],assign:=QC f,body:=I6 f,defers:=ld}
structure Cr (w0:World) (b2 b3 b7 bu bh bs l ld:Nat) (r:Loop) (sv:Value) (st le er:Int) (U:List Bool) (H:List ByteArray) (w:World):Prop where
 old:Bw w0 w
 res:∃c,c.size=4/\w.heap[b2]?=some (.cells c 45)
 err:w.heap[b3]?=some (.cells #[.int .i64 er] 36)
 fus:w.heap[b7]?=some (.cells (eR st le (.sk bu 4 4) (.sk bh 4 4)) 45)
 us:w.heap[bu]?=some (.cells (U.map Value.bool).toArray 4)
 hs:w.heap[bh]?=some (.cells (H.map Value.string).toArray 9)
 box:w.heap[bs]?=some (.cells #[sv] 24)
 list:w.heap[ld]?=some (.deferred (some []))
 loop:w.heap[l]?=some (.loop r)
 lo:w0.heap.size<=b2/\w0.heap.size<=b3/\w0.heap.size<=bu/\w0.heap.size<=bh/\w0.heap.size<=l
 ne:b2≠b7
section
variable{b2 bu bh bs ld:Nat}{r:Loop}{sv:Value}{st le er:Int}{U:List Bool}{H:List ByteArray}
def Cr.below(h:Cr w0 b2 b3 b7 bu bh bs l ld r sv st le er U H w)(a:Bw w w'):Cr w0 b2 b3 b7 bu bh bs l ld r sv st le er U H w':=
 ⟨aD h.old h.old.size a,let ⟨c,e,hc⟩:=h.res;⟨c,e,bk a hc⟩,bk a h.err,bk a h.fus,bk a h.us,bk a h.hs,bk a h.box,bk a h.list,bk a h.loop,h.lo,h.ne⟩
def Cr.turn(h:Cr w0 b2 b3 b7 bu bh bs l ld r sv st le er U H w)(a):Cr w0 b2 b3 b7 bu bh bs l ld a sv st le er U H (bU w l a):=
 ⟨h.old.trans (fa w _ _ h.lo.2.2.2.2),let ⟨c,e,hc⟩:=h.res;⟨c,e,(bD w _ (iq hc h.loop)).trans hc⟩,(bD w _ (iq h.err h.loop)).trans h.err,(bD w _ (iq h.fus h.loop)).trans h.fus,(bD w _ (iq h.us h.loop)).trans h.us,(bD w _ (iq h.hs h.loop)).trans h.hs,(bD w _ (iq h.box h.loop)).trans h.box,
  (bD w _ (λe=>by have:=h.list;rw[e,h.loop]at this;cases this)).trans h.list,iA h.loop,h.lo,h.ne⟩
def Cr.setU(h:Cr w0 b2 b3 b7 bu bh bs l ld r sv st le er U H w)(a):Cr w0 b2 b3 b7 bu bh bs l ld r sv st le er a H (gK w bu (a.map Value.bool).toArray 4):=
 ⟨h.old.trans (dK h.lo.2.2.1),let ⟨c,e,hc⟩:=h.res;⟨c,e,(cR (cX hc h.us d_)).trans hc⟩,(cR (cX h.err h.us d_)).trans h.err,(cR (cX h.fus h.us d_)).trans h.fus,bZ h.us,(cR (cX h.hs h.us d_)).trans h.hs,(cR (cX h.box h.us d_)).trans h.box,
  (cR (ZL (vJ h.us h.list))).trans h.list,(cR (ZL (iq h.us h.loop))).trans h.loop,h.lo,h.ne⟩
def Cr.setH(h:Cr w0 b2 b3 b7 bu bh bs l ld r sv st le er U H w)(a):Cr w0 b2 b3 b7 bu bh bs l ld r sv st le er U a (gK w bh (a.map Value.string).toArray 9):=
 ⟨h.old.trans (dK h.lo.2.2.2.1),let ⟨c,e,hc⟩:=h.res;⟨c,e,(cR (cX hc h.hs d_)).trans hc⟩,(cR (cX h.err h.hs d_)).trans h.err,(cR (cX h.fus h.hs d_)).trans h.fus,(cR (cX h.us h.hs d_)).trans h.us,bZ h.hs,(cR (cX h.box h.hs d_)).trans h.box,
  (cR (ZL (vJ h.hs h.list))).trans h.list,(cR (ZL (iq h.hs h.loop))).trans h.loop,h.lo,h.ne⟩
def Cr.setR(h:Cr w0 b2 b3 b7 bu bh bs l ld r sv st le er U H w)(c')(b:c'.size=4):Cr w0 b2 b3 b7 bu bh bs l ld r sv st le er U H (gK w b2 c' 45):=by
 have⟨c,_,a⟩:=h.res;exact⟨h.old.trans (dK h.lo.1),⟨c',b,bZ a⟩,(cR (cX h.err a d_)).trans h.err,(cR (ZL h.ne)).trans h.fus,(cR (cX h.us a d_)).trans h.us,(cR (cX h.hs a d_)).trans h.hs,(cR (cX h.box a d_)).trans h.box,
  (cR (ZL (vJ a h.list))).trans h.list,(cR (ZL (iq a h.loop))).trans h.loop,h.lo,h.ne⟩
def Cr.setE(h:Cr w0 b2 b3 b7 bu bh bs l ld r sv st le er U H w)(a):Cr w0 b2 b3 b7 bu bh bs l ld r sv st le a U H (gK w b3 #[.i a] 36):=
 ⟨h.old.trans (dK h.lo.2.1),let ⟨c,e,hc⟩:=h.res;⟨c,e,(cR (cX hc h.err d_)).trans hc⟩,bZ h.err,(cR (cX h.fus h.err d_)).trans h.fus,(cR (cX h.us h.err d_)).trans h.us,(cR (cX h.hs h.err d_)).trans h.hs,(cR (cX h.box h.err d_)).trans h.box,
  (cR (ZL (vJ h.err h.list))).trans h.list,(cR (ZL (iq h.err h.loop))).trans h.loop,h.lo,h.ne⟩
end
def Ej(a:o.op= .build 45 #[]):(execOp ev o).run lT w= .ok (.value (.agg (eR 0 0 (.slice none 0 0) (.slice none 0 0)))) w:=by simp[execOp,a];kernel_rfl
def Jc(q cb off k:Nat):Value:= .slice (some ⟨cb,off+(5+20*k),none⟩) 20 (q-(5+20*k))
section
variable{b2 bu bh bs ld cb off q:Nat}{sv:Value}{st le:Int}{W:List Int}{T:Array Value}{cf:Frame}
def S4(h85:85<=q)(hW:g6 W)(hr:w0.rangeAt cb off (W.map (Value.int .i64)))(hT:Has [(2, .pt b2),(3, .pt b3),(7, .pt b7)] 56 [] ⟨T,[]⟩)(hk:k<4)
 (hC:Cr w0 b2 b3 b7 bu bh bs l ld (wI f158 T ld .ready none) sv st le 0 (kE W k) (l0 W k) w)
 (nt:iM (jq W k)=true->∀w',Cr w0 b2 b3 b7 bu bh bs l ld (wI f158 T ld .ready none) sv st le 0 (kE W (k+1)) (l0 W (k+1)) w'->Rn lT Goal (cf.finish (.bool true)) cs w')
 (nq:iM (jq W k)=false->∀w',Cr w0 b2 b3 b7 bu bh bs l ld (wI f158 T ld .done (some .ret)) sv st le 1 (kE W k) (l0 W k) w'->w'.heap[b2]?=some (.cells (eR 0 0 (.slice none 0 0) (.slice none 0 0)) 45)->Rn lT Goal (cf.finish (.bool false)) cs w'):
 Rn lT Goal (YU l 158 (((#[37,38]:Array Tmp).zip #[.i k,Jc q cb off k]).foldl (λtmps (t,a)=>tmps.setIfInBounds t a) T) (QC f158) (I6 f158) .normal) (cf::cs) w:=by
 have hF:=(hT.put (d:=37) d_ (.i k)).put (d:=38) d_ (Jc q cb off k);have ez:((#[37,38]:Array Tmp).zip #[.i k,Jc q cb off k]).foldl (λ tmps x=>match x with|(t,a)=>tmps.setIfInBounds t a) T=(T.setIfInBounds 37 (.i k)).setIfInBounds 38 (Jc q cb off k):=s_
 rw[ez];show Rn _ Goal ((rb 158 l).atR (ZM (ZM ⟨T,[]⟩ (some 37) (.i k)) (some 38) (Jc q cb off k)) [.code (QC f158), .beginRound, .code (I6 f158)]) (cf::cs) w;revert hF;generalize ZM (ZM ⟨T,[]⟩ (some 37) (.i k)) (some 38) (Jc q cb off k)=a;intro hF
 iterate 2 refine Rn.uc hF λa hF=> ?_
 refine Rn.p rfl (Rn.rounds rfl hC.loop rfl ?_);have hC1:Cr w0 b2 b3 b7 bu bh bs l ld (wI f158 T ld .busy none) sv st le 0 (kE W k) (l0 W k) (bU w l {wI f158 T ld .ready none with state:= .busy}):=hC.turn (wI f158 T ld .busy none);revert hC1;generalize bU w l {wI f158 T ld .ready none with state:= .busy}=w1;intro hC1;have hl20:=Jd hW.1 hk;have rg:∀{w':World},Bw w0 w'->w'.rangeAt cb (off+(5+20*k)) ((jq W k).map (Value.int .i64)):=λhb=>LC (λj v hv=>bM hb (hr j v hv)) k;have wd:∀j,j<20->0<=(jq W k).getD j 0/\(jq W k).getD j 0<65536:=λj hj=>Sz k hj▸hW.2 _ o_;refine Rn.uc hF λa hF=> ?_;refine Rn.cw hF lf179 (Ee (jq W k) cb _ _ w1 (rg hC1.old) hl20) λw2 b2' a hF=> ?_;have hC2:=hC1.below b2';refine Rn.uc hF λa hF=> ?_;refine Rn.p rfl (Rn.cond _ (hF.G 41) ?_);cases hq:iM (jq W k)with
 |false=>
  have⟨c,hc4,hc⟩:=hC2.res;refine Rn.vv hF (λo ho=>Ej ho) λa hF=> ?_;refine Rn.nn hF (λo ho=>qx ho (hF.G 2) (hF.G 42) hc hc4) λa hF=> ?_;have hC3:=hC2.setR (eR 0 0 (.slice none 0 0) (.slice none 0 0)) rfl;have e3:=bZ (cs:=eR 0 0 (.slice none 0 0) (.slice none 0 0)) (t:=45) hc;refine Rn.nn hF (λo ho=>fe rfl rfl k_ ho (hF.G 3) rfl hC3.err (d_:0<1)) λa hF=> ?_;have hC4:=hC3.setE 1;have e4:=(cR (cs:=#[.i 1]) (t:=36) (cX hc hC2.err d_)).trans e3;have hC5:=hC4.turn (wI f158 T ld .done (some .ret));refine Rn.p rfl (Rn.quits rfl rfl hC4.loop (nq hq _ hC5 ?_));exact(bD _ _ (iq e4 hC4.loop)).trans e4
 |true=>
  have hF:Has [(2, .pt b2),(3, .pt b3),(7, .pt b7),(8, .i k),(9,Jc q cb off k)] 56 [] a:=hF.O;refine Rn.p rfl (Rn.p rfl ?_);have f2:=hC2.fus;refine Rn.gu 6 hF ?_
  iterate 4 refine n_ ?_
  refine p_ lf180 (λw b _=>BF (jq W k) cb _ _ w (rg (aD hC2.old hC2.old.size b)) hl20) ?_;refine n_ ?_ (y:=λo a w ho z=>(dI (e:=4) (n:=k) k_ s_ ho gx gx hk).1.trans (by rw[AS,as5]));refine q_ λa w' hF hb _ rest hgo=> ?_;have hC5:=hC2.below hb;have hlen:(kE W k).length=4:=by simp[kE]
  refine Rn.nn hF (λo ho=>fe (v:= .bool (io (jq W k))) rfl rfl k_ ho (hF.G 48) (hF.G 47) hC5.us (by simp_all)) λa hF=>hgo _ _ ?_;have hC3:=hC5.setU (kE W (k+1));rw[show((kE W (k+1)).map Value.bool).toArray=((kE W k).map Value.bool).toArray.setIfInBounds k (.bool (io (jq W k)))from by rw[←Iw W hk,aE6];simp]at hC3;revert hC3;generalize gK w' bu _ _=w3;intro hC3;have f3:=hC3.fus;refine Rn.gu 6 (hF.only (G:=[(2, .pt b2),(3, .pt b3),(7, .pt b7),(8, .i k),(9,Jc q cb off k)]) ⟨rfl,rfl,rfl,rfl,rfl,trivial⟩) ?_
  iterate 4 refine n_ ?_
  refine p_ lf181 (λw b _=>JO (rg (aD hC3.old hC3.old.size b)) hl20 wd ?_) ?_
  .omega
  refine n_ ?_ (y:=λo a w ho z=>(dI (t:=43) (e:=9) (n:=k) k_ s_ ho gx gx hk).1.trans (by rw[AS,as5]));refine q_ λa w' hF hb _ rest hgo=> ?_;have hC5:=hC3.below hb;have hlen:(l0 W k).length=4:=by simp[l0]
  refine Rn.nn hF (λo ho=>fe (v:= .string ⟨(ey ((jq W k).drop 4)).toArray⟩) rfl rfl k_ ho (hF.G 54) (hF.G 53) hC5.hs (by simp_all)) λa _=>hgo _ _ ?_;have hC4:=hC5.setH (l0 W (k+1));rw[show((l0 W (k+1)).map Value.string).toArray=((l0 W k).map Value.string).toArray.setIfInBounds k (.string ⟨(ey ((jq W k).drop 4)).toArray⟩)from by rw[←JL W hk,aE6];simp]at hC4;exact Rn.p rfl (Rn.through rfl rfl hC4.loop (nt hq _ (hC4.turn _)))
end
end L1
section
open Go.Conc Go.RowKit
def yn{R}{t u}{ty ty'}{d}(z:P.funcs[f]?=some fn)(c:fn.results=#[.cell t ty, .cell u ty'])(p:P.underlying ty=some d)(A:d.isRow=true)(y:(P.info? ty).map (·.size)=some n)(i:∀w,(isAgg ty').run P w= .ok false w)
 (h:∀cs,Rn P (λg w'=>∃a k b cells l ad v,g=cD {(base f).atR a k with mode:= .returning} cs/\a.defers=[]/\a.tmps[t]?=some (.pk b 0)/\w'.heap[b]?=some (.cells cells l)/\cells.size=n/\a.tmps[u]?=some (.pointer (some ad))/\w'.cell? ad=some v/\R (.returned (.tuple #[.agg cells,v])) w') (as7 P f args .normal) cs w):Calls P f args w R:=λcs=>by
 obtain⟨J,w',I,a,k,b,cells,l,ad,v,rfl,H,G,F,E,D,C,B⟩:=h cs;refine⟨.returned (.tuple #[.agg cells,v]),w',{(base f).atR a k with mode:= .returning},B,ZN I,rfl,rfl,H,rfl,fn,z, ?_⟩;have r:a.tmps[t]?.getD undef= .pk b 0:=by rw[G];rfl
 have o:a.tmps[u]?.getD undef= .pointer (some ad):=by rw[D];rfl
 have q:w'.rangeAt b 0 cells.toList:=λj x m=>by
  rw[as5];have:w'.cell? ⟨b,j,none⟩=cells[j]?:=by simp[AT,F]
  simp_all
 have s:=run_loadVar_mid w' b 0 ty cells.toList d q p A (by rw[y];simp[E]);have e:(loadVar ty' ad).run P w'= .ok v w':=by simp[loadVar,i,C,go_sem]
 show(results fn a.tmps).run P w'=_;simp[results,c,r,o,asAddr,s,e]
end
namespace L1
open Go.Conc Go.RowKit
section
variable{y z:Operand}
def OZ{a off b cap}(d:o.op= .slice 24 x (some y) (some z) none)(g:ev x= .slice (some ⟨a,off,none⟩) b cap)(f:ev y= .i m)(e:ev z= .i n)(h:n<=cap)(p:m<n):(execOp ev o).run lT w= .ok (.value (.slice (some ⟨a,off+m,none⟩) (n- m) (cap- m))) w:=by
 have i:lT.underlying 24=some (.slice 3):=k_
 have c:(sizeOf 3).run lT w= .ok 1 w:=k_
 have k:m<=n:=o_
 have j:¬cap=m:=o_
 have l:(⟨a,off,none⟩:Addr).add m=⟨a,off+m,none⟩:=AS ..;simp[execOp,d,g,f,e,Mv,YT,Ng,run_underlying i,Tv,asIntOf,h,c,k,j,l]
end
def TW:f178.body=some (.seq (rG f178 0) (.seq (rG f178 1) .ret)):=k_
def Ce(v)(hv:v.cells=#[v])(w):Calls lT 178 #[v] w λe w'=>e= .returned (.func (.func 189) #[] #[.pk w.heap.size 0])/\w'=w.alloc (.cells #[v] 24):=by
 refine eK lf178 TW λd a b=> ?_;refine Rn.vv b (λo c=>GA hv c (b.G 0)) λa b=> ?_;refine Rn.uc b λa b=> ?_;refine Rn.vv (w':=w.alloc (.cells #[v] 24)) b (v:= .func (.func 189) #[] #[.pk w.heap.size 0]) (λo c=> ?_) λa b=> ?_
 .have:=(gw (ev:=a.eval) (w:=w.alloc (.cells #[v] 24)) lT c).1
  rwa [show(#[at6 1]:Array Operand).map a.eval=#[.pk w.heap.size 0]from by simp[b.G 1]]at this
 refine Rn.uc b λa b=> ?_;exact Rn.fi b ⟨rfl,rfl⟩
def XH(f:Func):Code:= .seq (rG f 1) (.seq (.cond (.tmp 6) .skip (.exit 0)) (.seq (.block 1 (.seq (rG f 2) (.seq (rG f 3) (.seq (rG f 4) (.cond (.tmp 19) .ret .skip))))) (rG f 5)))
def TX:f189.body=some (.seq (rG f189 0) (.block 0 (.loop (XH f189)))):=k_
section
variable{b2 bu bh bs ld cb off q:Nat}{st le:Int}{W:List Int}{T:Array Value}{cf:Frame}
def Wq(h85:85<=q)(hW:g6 W)(hr:w0.rangeAt cb off (W.map (Value.int .i64)))(hT:Has [(2, .pt b2),(3, .pt b3),(7, .pt b7)] 56 [] ⟨T,[]⟩)
 (nf:((ar7 4).all λk=>iM (jq W k))=true->∀w',Cr w0 b2 b3 b7 bu bh bs l ld (wI f158 T ld .ready none) (.slice (some ⟨cb,off,none⟩) 85 q) st le 0 (kE W 4) (l0 W 4) w'->Rn lT Goal (cf.finish (.tuple #[])) cs w')
 (nq:((ar7 4).all λk=>iM (jq W k))=false->∀U H w',Cr w0 b2 b3 b7 bu bh bs l ld (wI f158 T ld .done (some .ret)) (.slice (some ⟨cb,off,none⟩) 85 q) st le 1 U H w'->w'.heap[b2]?=some (.cells (eR 0 0 (.slice none 0 0) (.slice none 0 0)) 45)->Rn lT Goal (cf.finish (.tuple #[])) cs w'):
 ∀(m i:Nat) (a:Act) (w:World),4- i=m->i<=4->(∀j,j<i->iM (jq W j)=true)->Has [(0, .func (.yield l) #[] #[]),(1, .pt bs),(5, .i i)] 21 [] a->Cr w0 b2 b3 b7 bu bh bs l ld (wI f158 T ld .ready none) (.slice (some ⟨cb,off,none⟩) 85 q) st le 0 (kE W i) (l0 W i) w->
  Rn lT Goal ((base 189).atR a [.code (XH f189), .inLoop (XH f189), .inBlock 0]) (cf::cs) w:=by
 intro m;induction m with
 |zero=>
  intro i a w hm hi hj hF hC;obtain rfl:i=4:=o_
  refine Rn.uc hF λa hF=> ?_;refine Rn.p rfl (Rn.p rfl (Rn.cond _ (hF.G 6) ?_));rw[decide_eq_false o_];refine Rn.p rfl (Rn.ends rfl s_ (Rn.leave (.tuple #[]) rfl hF.defers lf189 k_ k_ (nf ?_ _ hC)));simp_all
 |succ m ih=>
  intro i a w hm hi hj hF hC;refine Rn.uc hF λa hF=> ?_;refine Rn.p rfl (Rn.p rfl (Rn.cond _ (hF.G 6) ?_));rw[decide_eq_true o_]
  iterate 3 refine Rn.uc hF λa hF=> ?_
  refine Rn.vv hF (λo ho=>rY (n:=20) ho (hF.G 8) rfl o_) λa hF=> ?_;refine Rn.vv hF (λo ho=>cJ (m:=5) ho rfl (hF.G 9) o_) λa hF=> ?_
  iterate 3 refine Rn.uc hF λa hF=> ?_
  refine Rn.vv hF (λo ho=>(aO sB ho (hF.G 1) ((aH hC.box 0).trans rfl)).1) λa hF=> ?_
  iterate 2 refine Rn.uc hF λa hF=> ?_
  refine Rn.vv hF (λo ho=>cJ (n:=20) ho (hF.G 15) rfl o_) λa hF=> ?_;refine Rn.vv hF (λo ho=>OZ ho (hF.G 13) (hF.G 14) (hF.G 16) o_ o_) λa hF=> ?_;rw[show(Value.slice (some ⟨cb,off+(5+i*20),none⟩) (5+i*20+20-(5+i*20)) (q-(5+i*20)))=Jc q cb off i from by rw[Jc,Nat.mul_comm i 20,Nat.add_sub_cancel_left]]at hF;refine Rn.gr ?_;have h18:((bP f189 4)[7]?).map (λo=>(o.dst,o.op,o.guard))=some (some 18, .call {callee:= .value (.tmp 11),args:=#[.tmp 12, .tmp 17],argTypes:=#[3,234]},none):=k_
  cases ho:(bP f189 4)[7]? with
  |none=>simp_all
  |some o=>
  obtain⟨e1,e2,e3⟩:=cL ho h18;refine Rn.yields (args:=#[.i i,Jc q cb off i]) ho (e3 _) (by rw[e2];simp) hC.loop rfl (λw=>kM e2 (hF.G 11) (by simp[hF.G 12,hF.G 17]) w) ?_;refine S4 h85 hW hr hT o_ hC (λhq w2 hC2=> ?_) (λhq w2 hC2 hz=> ?_)
  .rw[Df,ho,IS,e1];have hF:=hF.put (d:=18) d_ (.bool true);revert hF;generalize a.put (some 18) (.bool true)=a;intro hF;clear e1 e2 e3 ho;refine Rn.uc hF λa hF=> ?_;refine Rn.p rfl (Rn.cond false (hF.G 19) ?_);refine Rn.vv hF (λo ho=>cJ (n:=1) ho (hF.G 5) rfl o_) λa hF=> ?_;refine Rn.uc hF λa hF=> ?_;exact Rn.p rfl (Rn.p rfl (ih (i+1) a _ o_ o_ (λj hj'=>by grind) hF.O hC2))
  .rw[Df,ho,IS,e1];have hF:=hF.put (d:=18) d_ (.bool false);revert hF;generalize a.put (some 18) (.bool false)=a;intro hF;clear e1 e2 e3 ho;refine Rn.uc hF λa hF=> ?_;refine Rn.p rfl (Rn.cond true (hF.G 19) ?_);refine Rn.ends rfl (.inr ⟨_,rfl⟩) (Rn.leave (.tuple #[]) rfl hF.defers lf189 k_ k_ (nq ?_ _ _ _ hC2 hz))
   grind
end
section
variable{y z u:Operand}
def SO(a:o.op= .alloc 36):(execOp ev o).run lT w= .ok (.value (.pk w.heap.size 0)) (w.alloc (.cells #[.i 0] 36)):=by simp[execOp,a];kernel_rfl
def pS{m}(h:m.run P w= .ok v w'):(do pure (.value (←m)):Sem Next).run P w= .ok (.value v) w':=by simp[h]
def We(a:o.op= .makeSlice 42 x y)(c:ev x= .i 4)(b:ev y= .i 4):(execOp ev o).run lT w= .ok (.value (.sk w.heap.size 4 4)) (w.alloc (.cells #[.bool false, .bool false, .bool false, .bool false] 4)):=by have h:=run_make_row' (P:=lT) 42 4 (Value.bool false) 1 k_ k_ rfl .i64 .i64 4 o_ o_ w;rw[eq]at h;simp[execOp,a,c,b];simp_all
def Wc(a:o.op= .makeSlice 43 x y)(c:ev x= .i 4)(b:ev y= .i 4):(execOp ev o).run lT w= .ok (.value (.sk w.heap.size 4 4)) (w.alloc (.cells #[.string ⟨#[]⟩, .string ⟨#[]⟩, .string ⟨#[]⟩, .string ⟨#[]⟩] 9)):=by have h:=run_make_row' (P:=lT) 43 9 (Value.string ⟨#[]⟩) 16 k_ k_ rfl .i64 .i64 4 o_ o_ w;rw[eq]at h;simp[execOp,a,c,b];simp_all
def Sj{st le}{c d}{f a g b}(h:o.op= .build 45 #[(0,x),(1,y),(2,z),(3,u)])(k:ev x= .i st)(j:ev y= .slice c f a)(i:ev z= .i le)(l:ev u= .slice d g b):(execOp ev o).run lT w= .ok (.value (.agg (eR st le (.slice c f a) (.slice d g b)))) w:=by simp[execOp,h,k,j,i,l];kernel_rfl
end
section
variable{st le:Int}{fx:List (Nat×Value)}{sv p2 p3:Value}
def WG(hF:Has [(0,sv),(2,p2),(3,p3),(4, .i st),(6, .i le)] 56 [] a)
 (next:∀a w1 b7 bu bh,Bw w w1->w.heap.size<=b7->w.heap.size<=bu->w.heap.size<=bh->w1.heap[b7]?=some (.cells (eR st le (.sk bu 4 4) (.sk bh 4 4)) 45)->w1.heap[bu]?=some (.cells #[.bool false, .bool false, .bool false, .bool false] 4)->w1.heap[bh]?=some (.cells #[.string ⟨#[]⟩, .string ⟨#[]⟩, .string ⟨#[]⟩, .string ⟨#[]⟩] 9)->Has [(0,sv),(2,p2),(3,p3),(7, .pt b7)] 56 [] a->Rn lT Goal ((base 158).atR a K) cs w1):
 Rn lT Goal ((base 158).atR a (.code (rD f158 9)::K)) cs w:=by
 refine Rn.gu 6 hF ?_;refine n_ ?_;refine f_ [.inl (.i le), .inr (Ms w (λb=> .sk b 4 4) (.cells #[.string ⟨#[]⟩, .string ⟨#[]⟩, .string ⟨#[]⟩, .string ⟨#[]⟩] 9)), .inr λu w1=>∃x y,u= .agg (eR st le x y)/\Ms w (λb=> .sk b 4 4) (.cells #[.bool false, .bool false, .bool false, .bool false] 4) x w1/\Ms w (λb=> .sk b 4 4) (.cells #[.string ⟨#[]⟩, .string ⟨#[]⟩, .string ⟨#[]⟩, .string ⟨#[]⟩] 9) y w1,
  .inr (Ms w (λb=> .pk b 0) (.cells (eR 0 0 (.slice none 0 0) (.slice none 0 0)) 45))] (V:=λb=> .sk b 4 4) (λu=> ?_) (y:=λo a w ho z=>We ho gx gx)
 refine x_ ?_;refine h_ (λx=> ?_) (y:=λo a w ho z=>Wc ho gx gx);refine z_ (λ_ _ _ ⟨x,y,h1,h2,h3⟩ hb=>⟨x,y,h1,Ms.st _ _ _ h2 hb,Ms.st _ _ _ h3 hb⟩) (λy=> ?_) (y:=λo a w ho z=> ?_)
 rotate_left
 .have h1:=z.m.2.1 k_;have h2:=z.m.1 k_;obtain⟨_,rfl,_⟩:=id h1;obtain⟨_,rfl,_⟩:=id h2;exact⟨_,w,Sj ho gx gx gx gx,⟨_,_,rfl,h1,h2⟩,bR⟩
 refine h_ (λv=>y_ λa w' hF hb hM rest hgo=> ?_) (y:=λo a w ho _=>zk ho);obtain⟨b7,rfl,q6,q7⟩:=hM.1 rfl;obtain⟨_,_,rfl,⟨bu,rfl,q1,q4⟩,bh,rfl,q2,q5⟩:=hM.2.1 rfl;exact Rn.nn hF (λo ho=>qx ho (hF.G 7) (hF.G 34) q7 rfl) λa hF=>hgo _ _ (next a _ b7 bu bh (hb.trans (dK q6)) q6 q1 q2 (bZ q7) ((cR (cX q4 q7 d_)).trans q4) ((cR (cX q5 q7 d_)).trans q5) hF.O)
end
def TU:f158.body=some (.seq (rG f158 0) (.seq (.seq (rG f158 1) (.cond (.tmp 12) (.seq (rG f158 2) .ret) .skip)) (.seq (rG f158 3) (.seq (.seq (rG f158 4) (.cond (.tmp 20) (.seq (rG f158 5) .ret) .skip)) (.seq (rG f158 6) (.seq (.seq (rG f158 7) (.cond (.tmp 28) (.seq (rG f158 8) .ret) .skip)) (.seq (rD f158 9) (.seq (.seq (rG f158 10) (.block 0 (.rangeFunc (.tmp 36) #[37,38] (QC f158) (I6 f158)))) (.seq (rG f158 17) .ret))))))))):=k_
def P9:pL:=by
 intro W w I k q a4 Q hr a9;refine yn (t:=2) (u:=3) (ty:=45) (ty':=36) (n:=4) lf158 rfl (by rw[bQ];exact underlying45) rfl Fh (λw=>k_) λcs=>Rn.ent (N:=56) lf158 TU λa d=> ?_;refine Rn.al d (λo i=>zk i) λG a b1 m z1 d=> ?_;refine Rn.al d (λo i=>SO i) λw2 a b2 x z2 d=> ?_;have B2:=aD b1 b1.size b2;have m:=bk b2 m;have rg:∀{w':World},Bw w w'->w'.rangeAt I k (W.map (Value.int .i64)):=λhb j v P=>bM hb (hr j v P);refine Rn.uc d λa d=> ?_;refine Rn.cw d lf98 (Nf Q I k q w2 (rg B2)) λw' hw a d=> ?_;rw[hw];refine Rn.uc d λa d=> ?_;refine Rn.p rfl (Rn.cond _ (d.G 12) ?_);refine Rn.uc d λa d=> ?_;refine Rn.cl d lf176 (IP Q I k q w2 (rg B2)) λv w3 P a d=> ?_;obtain⟨s,rfl,hs,b3⟩:=P;have B3:=aD B2 B2.size b3;have m:=bk b3 m;have x:=bk b3 x;have z3:=b3.size
 iterate 7 refine Rn.uc d λa d=> ?_
 refine Rn.p rfl (Rn.cond _ (d.G 20) ?_);cases z:DT W with
 |false=>
  have J:r9 W=false:=by rw[r9,z];rfl
  refine Rn.vv d (λo i=>Ej i) λa d=> ?_;refine Rn.nn d (λo i=>qx i (d.G 2) (d.G 21) m rfl) λa d=> ?_;have K:=(cR (cs:=eR 0 0 (.slice none 0 0) (.slice none 0 0)) (t:=45) (cX x m d_)).trans x;refine Rn.nn d (λo i=>fe (v:= .i 1) rfl rfl k_ i (d.G 3) rfl K (d_:0<1)) λa d=> ?_;have D:=bZ (cs:=eR 0 0 (.slice none 0 0) (.slice none 0 0)) (t:=45) m;exact Rn.runs 6 _ (Rn.ends rfl (.inr ⟨_,rfl⟩) (Rn.now ⟨_,_,w.heap.size,_,_,⟨G.heap.size,0,none⟩, .i 1,rfl,d.defers,d.slot 2 _ rfl,(cR (cX D K d_)).trans D,rfl,d.slot 3 _ rfl,(aH (bZ K) 0).trans rfl,_,rfl,0,0,1,none,0,0,none,0,0,[],[],rfl, .inr ⟨J,rfl⟩,(B3.trans (dK (ar5 _))).trans (dK o_),λe=>by cases e⟩))
 |true=>
  refine Rn.uc d λa d=> ?_;refine Rn.cl d lf177 (Fb Q I k q w3 (rg B3)) λv w4 P a d=> ?_;obtain⟨M,rfl,a0,b4⟩:=P;have B4:=aD B3 B3.size b4;have m:=bk b4 m;have x:=bk b4 x;have z4:=b4.size
  iterate 7 refine Rn.uc d λa d=> ?_
  refine Rn.p rfl (Rn.cond _ (d.G 28) ?_);cases F:M4 W with
  |false=>
   have J:r9 W=false:=(by rw[r9,z,F];rfl);refine Rn.vv d (λo i=>Ej i) λa d=> ?_;refine Rn.nn d (λo i=>qx i (d.G 2) (d.G 29) m rfl) λa d=> ?_;have K:=(cR (cs:=eR 0 0 (.slice none 0 0) (.slice none 0 0)) (t:=45) (cX x m d_)).trans x;refine Rn.nn d (λo i=>fe (v:= .i 1) rfl rfl k_ i (d.G 3) rfl K (d_:0<1)) λa d=> ?_;have D:=bZ (cs:=eR 0 0 (.slice none 0 0) (.slice none 0 0)) (t:=45) m;exact Rn.runs 6 _ (Rn.ends rfl (.inr ⟨_,rfl⟩) (Rn.now ⟨_,_,w.heap.size,_,_,⟨G.heap.size,0,none⟩, .i 1,rfl,d.defers,d.slot 2 _ rfl,(cR (cX D K d_)).trans D,rfl,d.slot 3 _ rfl,(aH (bZ K) 0).trans rfl,_,rfl,0,0,1,none,0,0,none,0,0,[],[],rfl, .inr ⟨J,rfl⟩,(B4.trans (dK (ar5 _))).trans (dK o_),λe=>by cases e⟩))
  |true=>
   have d:Has [(0,(.slice (some ⟨I,k,none⟩) 85 q:Value)),(2, .pt w.heap.size),(3, .pt G.heap.size),(4, .i s),(6, .i M)] 56 [] a:=d.O;refine Rn.p rfl (Rn.p rfl ?_);refine WG d λa C b7 X Y Z l7 lu lh V R S d=> ?_;have B5:=aD B4 B4.size Z;have m:=bk Z m;have x:=bk Z x;have z5:=Z.size;have a8:=aK V;have a6:=aK R;have a7:=aK S;refine Rn.uc d λa d=> ?_;refine Rn.cw d lf178 (Ce (.slice (some ⟨I,k,none⟩) 85 q:Value) rfl C) λf E a d=> ?_;have L:Bw C f:=(by rw[E];exact aR _ _);have c6:f.heap[C.heap.size]?=some (.cells #[(.slice (some ⟨I,k,none⟩) 85 q:Value)] 24):=(by rw[E];exact aY _ _);have z6:f.heap.size=C.heap.size+1:=(by simp_all);clear E;have B6:=aD B5 B5.size L;have m:=bk L m;have x:=bk L x;have V:=bk L V;have R:=bk L R;have S:=bk L S;refine Rn.p rfl (Rn.p rfl ?_);refine Rn.rangeAs (wI f158 a.tmps f.heap.size .ready none) (args:=[.func (.yield (f.heap.size+1)) #[] #[], .pk C.heap.size 0].toArray) rfl rfl lf189 k_ k_ (d.G 36) rfl ?_;have hC:Cr w w.heap.size G.heap.size b7 X Y C.heap.size (f.heap.size+1) f.heap.size (wI f158 a.tmps f.heap.size .ready none) (.slice (some ⟨I,k,none⟩) 85 q:Value) s M 0 (kE W 0) (l0 W 0) (du f (wI f158 a.tmps f.heap.size .ready none)):=
    ⟨aD B6 B6.size (m5 f _),⟨_,rfl,(bK f _ o_).trans m⟩,(bK f _ o_).trans x,(bK f _ o_).trans V,(bK f _ o_).trans R,(bK f _ o_).trans S,(bK f _ o_).trans c6,fJ f _,fI f _,⟨o_,o_,o_,o_,o_⟩,o_⟩
   revert hC;generalize du f (wI f158 a.tmps f.heap.size .ready none)=w8;intro hC;rw[aT (N:=21) _ lf189 TX rfl];have a3:=aN [.func (.yield (f.heap.size+1)) #[] #[], .pk C.heap.size 0] 21 s_;revert a3;generalize (Act.mk (([.func (.yield (f.heap.size+1)) #[] #[], .pk C.heap.size 0]:List Value).toArray++ar6 (21-([.func (.yield (f.heap.size+1)) #[] #[], .pk C.heap.size 0]:List Value).toArray.size) undef) [])=gg;intro hG;refine Rn.uc hG λgg hG=> ?_;refine Rn.p rfl (Rn.p rfl (Rn.p rfl ?_));have hT:Has [(2, .pt w.heap.size),(3, .pt G.heap.size),(7, .pt b7)] 56 [] a:=d.O;have hD:Has [(2, .pt w.heap.size),(3, .pt G.heap.size),(7, .pt b7)] 56 [{target:= .collected f.heap.size,args:=#[]}] ⟨a.tmps,{target:= .collected f.heap.size,args:=#[]}::a.defers⟩:=⟨by rw[d.defers],d.size,hT.slot⟩;have r:∀(y:World) {b:Nat} {ob:Obj},b≠f.heap.size->y.heap[b]?=some ob->({y with heap:=y.heap.setIfInBounds f.heap.size (.deferred none)}:World).heap[b]?=some ob:=λy b ob hb h=>(sN (ZL hb)).trans h;refine Wq (T:=a.tmps) (w0:=w) a4 Q hr ⟨rfl,hT.size,hT.slot⟩ (λA y p=> ?_) (λA U H y p hz=> ?_) _ 0 gg w8 rfl o_ (λj hj=>o_) hG.O hC
   .show Rn lT _ ((base 158).atR ⟨a.tmps,{target:= .collected f.heap.size,args:=#[]}::a.defers⟩ (.endRangeFunc (f.heap.size+1)::_)) cs y;revert hD;generalize (Act.mk a.tmps ({target:= .collected f.heap.size,args:=#[]}::a.defers))=a2;intro d;refine Rn.rangeOver p.loop rfl rfl ?_;have g:=p.turn (wI f158 a.tmps f.heap.size .exhausted none);revert g;show Cr _ _ _ _ _ _ _ _ _ _ _ _ _ _ _ _ (bU y (f.heap.size+1) {wI f158 a.tmps f.heap.size .ready none with state:= .exhausted})->_;generalize bU y (f.heap.size+1) {wI f158 a.tmps f.heap.size .ready none with state:= .exhausted}=a5;intro g;obtain⟨c,a1,hc⟩:=g.res;refine Rn.vv d (λo i=>oZ i (d.G 7) g.fus) λa d=> ?_;refine Rn.nn d (λo i=>qx i (d.G 2) (d.G 55) hc a1) λa d=> ?_;have B:=g.setR (eR s M (.sk X 4 4) (.sk Y 4 4)) rfl;have D:=bZ (cs:=eR s M (.sk X 4 4) (.sk Y 4 4)) (t:=45) hc;refine Rn.nn d (λo i=>fe (v:= .i 0) rfl rfl k_ i (d.G 3) rfl B.err (d_:0<1)) λa d=> ?_;have l:=B.setE 0;have D:=(cR (cs:=#[.i 0]) (t:=36) (cX D B.err d_)).trans D;refine Rn.p rfl (Rn.ends rfl (.inr ⟨_,rfl⟩) (Rn.take (ds:=[]) d.defers l.list (Rn.now ⟨⟨a.tmps,[]⟩,_,w.heap.size,_,_,⟨G.heap.size,0,none⟩, .i 0,rfl,rfl,d.slot 2 _ rfl,r _ o_ D,rfl,d.slot 3 _ rfl,(aH (r _ o_ l.err) 0).trans rfl,_,rfl,s,M,0,_,_,_,_,_,_,E3 W,Mn W,rfl, .inl ⟨?_,rfl,hs z,a0 F,rfl,rfl⟩,l.old.trans (gJ _ _ o_),λ_=>⟨X,Y,rfl,rfl,rfl,rfl,rfl,rfl,r _ o_ l.us,r _ o_ l.hs⟩⟩)));rw[r9,z,F,A];rfl
   .show Rn lT _ ((base 158).atR ⟨a.tmps,{target:= .collected f.heap.size,args:=#[]}::a.defers⟩ (.endRangeFunc (f.heap.size+1)::_)) cs y;revert hD;generalize (Act.mk a.tmps ({target:= .collected f.heap.size,args:=#[]}::a.defers))=a2;intro d;refine Rn.rangeQuit p.loop rfl rfl ?_;have g:=p.turn (wI f158 a.tmps f.heap.size .exhausted (some .ret));have O:=(bD y (wI f158 a.tmps f.heap.size .exhausted (some .ret)) (iq hz p.loop)).trans hz;refine Rn.ends rfl (.inr ⟨_,rfl⟩) (Rn.take (ds:=[]) d.defers g.list (Rn.now ⟨⟨a2.tmps,[]⟩,_,w.heap.size,_,_,⟨G.heap.size,0,none⟩, .i 1,rfl,rfl,d.slot 2 _ rfl,r _ o_ O,rfl,d.slot 3 _ rfl,(aH (r _ o_ g.err) 0).trans rfl,_,rfl,0,0,1,none,0,0,none,0,0,[],[],rfl, .inr ⟨?_,rfl⟩,g.old.trans (gJ _ _ o_),λe=>by cases e⟩));rw[r9,z,F,A];rfl
def KE(n:Nat):List Int:=List.replicate n 0
section
variable{y z:Operand}
def OY(a:o.op= .slice 145 x none none none)(c:ev x= .pk b 86):(execOp ev o).run lT w= .ok (.value (.slice (some ⟨b,86,none⟩) 16 16)) w:=by
 have e:execOp ev o=(do pure (.value (←Mv 145 (.pk b 86) none none none))):=by simp only[execOp,a,c];rfl
 have d:(do pure (.value (←Mv 145 (.pk b 86) none none none)):Sem Next).run lT w= .ok (.value (.slice (some ⟨b,86,none⟩) 16 16)) w:=k_
 rw[e,d]
def Li{m}(h:m.run P w= .ok v w'):(do pure (.value (←m)):Sem Next).run P w= .ok (.value v) w':=by simp[h]
end
def U0:f74.body=some (.seq (rG f74 0) (.seq (.seq (rG f74 1) (.cond (.tmp 16) (.seq (rG f74 2) .ret) .skip)) (.seq (rG f74 3) (.seq (rG f74 4) (.seq (rG f74 5) (.seq (rG f74 6) .ret)))))):=k_
def U4:f46.body=some (.seq (rG f46 0) (.seq (rG f46 1) (.seq (.seq (rG f46 2) (.cond (.tmp 18) (.seq (rG f46 3) .ret) .skip)) (.seq (rG f46 4) .ret)))):=k_
end L1
section
open Go.RowKit
def lf105:(aI q tP).funcs[105]?=some f105:=aM func105 d_ rfl rfl k_
def lf84:(aI q tP).funcs[84]?=some f84:=aM func84 d_ rfl rfl k_
def lf85:(aI q tP).funcs[85]?=some f85:=aM func85 d_ rfl rfl k_
def lf59:(aI q tP).funcs[59]?=some f59:=aM func59 d_ rfl rfl k_
def lf60:(aI q tP).funcs[60]?=some f60:=aM func60 d_ rfl rfl k_
def lf86:(aI q tP).funcs[86]?=some f86:=aM func86 d_ rfl rfl k_
def lf63:(aI q tP).funcs[63]?=some f63:=aM func63 d_ rfl rfl k_
def lf75:(aI q tP).funcs[75]?=some f75:=aM func75 d_ rfl rfl k_
def lf128:(aI q tP).funcs[128]?=some f128:=aM func128 d_ rfl rfl k_
def lf127:(aI q tP).funcs[127]?=some f127:=aM func127 d_ rfl rfl k_
def lf101:(aI q tP).funcs[101]?=some f101:=aM func101 d_ rfl rfl k_
def lf102:(aI q tP).funcs[102]?=some f102:=aM func102 d_ rfl rfl k_
def lf77:(aI q tP).funcs[77]?=some f77:=aM func77 d_ rfl rfl k_
def lf78:(aI q tP).funcs[78]?=some f78:=aM func78 d_ rfl rfl k_
def lf50:(aI q tP).funcs[50]?=some f50:=aM func50 d_ rfl rfl k_
def lf22:(aI q tP).funcs[22]?=some f22:=aM func22 d_ rfl rfl k_
def lf25:(aI q tP).funcs[25]?=some f25:=aM func25 d_ rfl rfl k_
def lf62:(aI q tP).funcs[62]?=some f62:=aM func62 d_ rfl rfl k_
def lf26:(aI q tP).funcs[26]?=some f26:=aM func26 d_ rfl rfl k_
def lf23:(aI q tP).funcs[23]?=some f23:=aM func23 d_ rfl rfl k_
def lf45:(aI q tP).funcs[45]?=some f45:=aM func45 d_ rfl rfl k_
def lf48:(aI q tP).funcs[48]?=some f48:=aM func48 d_ rfl rfl k_
def lf61:(aI q tP).funcs[61]?=some f61:=aM func61 d_ rfl rfl k_
end
section
open Go.Conc Go.RowKit
section
variable{b:Frame}{k:List Item}
def Rn.ve{g}{d:Tmp}{p}{R:Value->World->Prop}{j}(i:Has F N ds a)(n:∀o,o.op=p->∃v w',(execOp a.eval o).run P w= .ok (.value v) w'/\R v w')(next:∀v w',R v w'->∀a',Has ((d,v)::F) N ds a'->Rn P Goal (b.atR a' (.inRegion ops rest::g)) cs w')(x:fV 6 (b.atR a k)= .inRegion ops (m::rest)::g:=by rfl)
 (h:(ops[m]?).map (λo=>(o.dst,o.op,o.guard))=some (some d,p,j):=by rfl) (q:gV ops F j=some true:=by rfl) (s:d<N:=by decide) (f:nd p=true:=by rfl):Rn P Goal (b.atR a k) cs w:=by refine Rn.gr ?_ x;have⟨o,r,z,l,y⟩:=ng h;have⟨v,w',u,t⟩:=n o l;refine Rn.ran r (iD i y q) (λc e=>by rw[←l,e]at f;cases f) u ?_;rw[z];exact next v w' t _ (i.put s v)
end
def bS(L:List Int):List Value:=L.map (Value.int .i64)
def tG(L):∀u∈bS L,u.oneCell'=true:=by intro u a;obtain⟨_,_,rfl⟩:=List.mem_map.1 a;rfl
def Jh{base}{e}{xs}(h:w.ownsRow base e 1 v n xs):∀c,v.ownBlock=some c->base<=c:=λc a=>by
 obtain⟨rfl,_⟩|⟨g,f,d,rfl,b,_⟩:=h.2
 .cases a
 .cases a;exact b
def ig{base}{e}{xs}(h:w.ownsRow base e 1 v n xs)(d:∀c o,v.ownBlock=some c->w.heap[c]?=some o->w'.heap[c]?=some o):w'.ownsRow base e 1 v n xs:=by
 refine⟨h.1, ?_⟩;obtain h|⟨g,b,a,rfl,j,i,f⟩:=h.2
 .exact .inl h
 .exact .inr ⟨g,b,a,rfl,j,d g _ rfl i,f⟩
end
namespace L1
open Go.Conc Go.RowKit
section
variable{y:Operand}
def tO{base q bytes}{e}{z}{L news}{ad}(s:lT.underlying t=some (.slice e))(f:(lT.info? e).map (λi=>(i.zero,i.size,i.bytes))=some (some z,1,bytes))(c:z.cells.size=1)(b:w.ownsRow base e 1 v n L)(y:∀j u,news[j]?=some u->w.cell? (ad.add j)=some u)(C:∀u∈news,u.oneCell'=true)(D:news.length=m)(r:ev (.tmp k)=v)(p:ev (.tmp j)= .slice (some ad) m q)(x:n+m<=maxLen)(g:(n+m)*bytes<=140737488355328)(h:base<=w.heap.size)(o)(d:o.op= .call {callee:= .builtin .append,args:=#[.tmp k, .tmp j],argTypes:=#[t,t]}):
 ∃v' w',(execOp ev o).run lT w= .ok (.value v') w'/\w'.ownsRow base e 1 v' (n+m) (L++news)/\Below base w w'/\w.grownBy w' v.ownBlock:=by
 have⟨i,f,a⟩:=Option.map_eq_some_iff.1 f;simp at a;have⟨v',w',B,A,l,_⟩:=run_append_own w base t o.type e i z 1 bytes s f a.1 a.2.1 a.2.2 c o_ v n L b ad m q news o_ y C x g h;refine⟨v',w', ?_,A,(Below.refl base w).grown l h (Jh b),l⟩;have e:execOp ev o=(do pure (.value (←Builtin.append_ #[t,t] o.type #[v, .slice (some ad) m q]))):=by simp[execOp,d,resolve,r,p,invoke,builtin]
 simp_all
def OX{c}(a:o.op= .binOp .eql 24 x y u)(f:ev x= .slice (some ⟨b,k,none⟩) l c)(d:ev y= .slice none 0 0):(execOp ev o).run lT w= .ok (.value (.bool false)) w:=by simp[execOp,a,f,d];kernel_rfl
def Sr(a:o.op= .buildSlice 24 0 #[]):(execOp ev o).run lT w= .ok (.value (.sk w.heap.size 0 0)) (w.alloc (.cells #[] 3)):=by simp[execOp,a];kernel_rfl
def qZ{m}(a:o.op= .buildSlice 24 1 #[(0,x)])(b:ev x= .i m):(execOp ev o).run lT w= .ok (.value (.sk w.heap.size 1 1)) (w.alloc (.cells #[.i m] 3)):=by simp[execOp,a,b];kernel_rfl
def Sq{m}(a:o.op= .buildSlice 42 1 #[(0,x)])(b:ev x= .bool m):(execOp ev o).run lT w= .ok (.value (.sk w.heap.size 1 1)) (w.alloc (.cells #[.bool m] 4)):=by simp[execOp,a,b];kernel_rfl
def YZ{m}(a:o.op= .buildSlice 43 1 #[(0,x)])(b:ev x= .s m):(execOp ev o).run lT w= .ok (.value (.sk w.heap.size 1 1)) (w.alloc (.cells #[.s m] 9)):=by simp[execOp,a,b];kernel_rfl
end
end L1
section
open Go.Conc Go.RowKit
section
variable{S:Nat->Prop}{b:Frame}{k:List Item}
def aP.ent{c}{L}(b:P.funcs[f]?=some fn)(d:fn.body=some c)(h:∀a,Has (gC 0 L) N [] a->aP P Post S (cD ((base f).atR a [.code c]) cs) w)(e:fn.ntmps=N:=by rfl)(g:L.length<=N:=by simp):aP P Post S (bT P f L.toArray cs) w:=by show aP P Post S (cD (Frame.enter P f L.toArray .normal) cs) w;rw[aT L b d e];exact h _ (aN L N g)
def aP.runs:∀n k,aP P Post S (cD (b.atR a (fV n (b.atR a k))) cs) w->aP P Post S (cD (b.atR a k) cs) w
 |0,_,h=>h
 |n+1,k,h=>by
  unfold fV at h;split at h
  .exact h
  .split at h
   .rename_i t c;exact aP.plain c (aP.runs n t h)
   .exact h
def aP.gr{c}(next:aP P Post S (cD (b.atR a (.inRegion ops (m::rest)::c)) cs) w)(h:fV 6 (b.atR a k)= .inRegion ops (m::rest)::c:=by rfl):aP P Post S (cD (b.atR a k) cs) w:=aP.runs 6 k (by simp_all)
def aP.cond{A B}(q)(hq:a.eval x= .bool q)(h:aP P Post S (cD (b.atR a (.code (if q then A else B)::k)) cs) w):aP P Post S (cD (b.atR a (.code (.cond x A B)::k)) cs) w:=by
 refine aP.plain ?_ h;have e:(b.atR a (.code (.cond x A B)::k)).eval x= .bool q:=by rw[Frame.eval_atR];exact hq
 show(match (b.atR a (.code (.cond x A B)::k)).eval x with| .bool q=>some (Item.code (if q then A else B)::k)|_=>none)=_;rw[e]
def aP.vv{g}{d:Tmp}{p}{s}(r:Has F N ds a)(l:∀o c,o.op=p->Yl P a.eval o (w.at c) v es)(i:∀e∈es,EvL (dq S) w.heap.size e)(next:∀a',Has ((d,v)::F) N ds a'->aP P Post S (cD (b.atR a' (.inRegion ops rest::g)) cs) w)(x:fV 6 (b.atR a k)= .inRegion ops (m::rest)::g:=by rfl)
 (h:(ops[m]?).map (λo=>(o.dst,o.op,o.guard))=some (some d,p,s):=by rfl) (t:gV ops F s=some true:=by rfl) (u:d<N:=by decide) (f:nd p=true:=by rfl):aP P Post S (cD (b.atR a k) cs) w:=by refine aP.gr ?_ x;have⟨o,n,z,j,y⟩:=ng h;refine aP.oper n (iD r y t) (λc e=>by rw[←j,e]at f;cases f) λc=>⟨.value v,w.at c,(l o c j).1,rfl,Nat.le_refl _,λe q=>i e (by rw[(l o c j).2]at q;exact q),aP.at ?_ c⟩;show aP P Post S (cD ((b.atR a (.inRegion ops (m::rest)::g)).finish v) cs) w;rw[Frame.finish_atR,n,Option.bind_some,z];exact next _ (r.put u v)
def aP.us{k'}{d:Tmp}{p}{gd}(hF:Has F N ds a)(next:∀a',Has ((d,undef)::F) N ds a'->aP P Post S (cD (b.atR a' (.inRegion ops rest::k')) cs) w)(h0:fV 6 (b.atR a k)= .inRegion ops (m::rest)::k':=by rfl)
 (h:(ops[m]?).map (λo=>(o.dst,o.op,o.guard))=some (some d,p,gd):=by rfl) (hw:gV ops F gd=some false:=by rfl) (hd:d<N:=by decide):aP P Post S (cD (b.atR a k) cs) w:=by refine aP.gr ?_ h0;have⟨o,ho,e1,e2,e3⟩:=ng h;refine aP.exec rfl λc=>⟨_,w.at c,#[],iE rfl (by rw[ho];exact (iD hF e3 hw)),Nat.le_refl _,s_,aP.at ?_ c⟩;show aP P Post S (cD ((b.atR a (.inRegion ops (m::rest)::k')).finish undef) cs) w;rw[Frame.finish_atR,ho,Option.bind_some,e1];exact next _ (hF.put hd undef)
def aP.aa{k'}{d:Tmp}{p}{cells}{u}(hF:Has F N ds a)(hy:∀o c,o.op=p->(execOp a.eval o).run P (w.at c)= .ok (.value u) ((w.at c).alloc (.cells cells t))/\(execOp a.eval o).events P (w.at c) #[]=#[])
 (next:∀w' a',Bw w w'->w'.heap[w.heap.size]?=some (.cells cells t)->w'.heap.size=w.heap.size+1->Has ((d,u)::F) N ds a'->aP P Post S (cD (b.atR a' (.inRegion ops rest::k')) cs) w') (h0:fV 6 (b.atR a k)= .inRegion ops (m::rest)::k':=by rfl)
 (h:(ops[m]?).map (λo=>(o.dst,o.op,o.guard))=some (some d,p,none):=by rfl) (hd:d<N:=by decide) (hnd:nd p=true:=by rfl):aP P Post S (cD (b.atR a k) cs) w:=by refine aP.gr ?_ h0;have⟨o,ho,e1,e2,e3⟩:=ng h;refine aP.oper ho (by simp[Region.wanted,e3]) (λc e=>by rw[←e2,e]at hnd;cases hnd) λc=>⟨.value u,_,(hy o c e2).1,rfl,by rw[aJ];exact Nat.le_succ _,λe he=>by simp_all, ?_⟩;show aP P Post S (cD ((b.atR a (.inRegion ops (m::rest)::k')).finish u) cs) _;rw[Frame.finish_atR,ho,Option.bind_some,e1];have hat:Bw w (w.at c):=⟨rfl,rfl,rfl,Nat.le_refl _,λ_ _=>rfl⟩;exact next _ _ (hat.trans (aR (w.at c) _)) (aY (w.at c) _) (aJ (w.at c) _) (hF.put hd u)
def aP.ss{i}{p}{n}{w1:Nat->World}(s:Has F N ds a)(j:n<w.heap.size)(l:¬S n)(g:∀o c,o.op=p->(execOp a.eval o).run P (w.at c)= .ok .skip (w1 c)/\(w1 c).heap.size=w.heap.size/\∀e∈(execOp a.eval o).events P (w.at c) #[],∃k,e=⟨.cell ⟨n,k,none⟩,true,false⟩)
 (next:∀c a',Has F N ds a'->aP P Post S (cD (b.atR a' (.inRegion ops rest::i)) cs) (w1 c)) (t:fV 6 (b.atR a k)= .inRegion ops (m::rest)::i:=by rfl)
 (h:(ops[m]?).map (λo=>(o.dst,o.op,o.guard))=some (none,p,none):=by rfl) (d:nd p=true:=by rfl):aP P Post S (cD (b.atR a k) cs) w:=by
 refine aP.gr ?_ t;have⟨o,q,v,f,u⟩:=ng h;refine aP.oper q (by simp[Region.wanted,u]) (λc e=>by rw[←f,e]at d;cases d) λc=>⟨.skip,w1 c,(g o c f).1,rfl,Nat.le_of_eq (g o c f).2.1.symm,λe r=> ?_, ?_⟩
 .obtain⟨k,rfl⟩:=(g o c f).2.2 e r;exact qg (by grind) l
 .show aP P Post S (cD ((b.atR a (.inRegion ops (m::rest)::i)).finish undef) cs) (w1 c);rw[Frame.finish_atR,q,Option.bind_some,v];exact next c _ s
def aP.cc{d:Tmp}{xs}{ats}{i}{j}(s:Has F N ds a)(x:P.funcs[f]?=some fn)
 (l:∀c',(∀u,c'.mode≠ .panicking u)->(∀n w' v,(∀a',Has ((d,v)::F) N ds a'->aP P Post n (cD (b.atR a' (.inRegion ops rest::j)) cs) w')->aP P Post n (cD (c'.finish v) cs) w')->aP P Post S (bT P f i.toArray (c'::cs)) w) (B:fV 6 (b.atR a k)= .inRegion ops (m::rest)::j:=by rfl)
 (h:(ops[m]?).map (λo=>(o.dst,o.op,o.guard))=some (some d, .call {callee:= .value (.func f),args:=xs,argTypes:=ats},none):=by rfl) (A:PU F xs.toList=some i:=by rfl) (y:d<N:=by decide) (g:(fn.name== "runtime.NumGoroutine")=false:=by kernel_rfl) (z:fn.body.isNone=false:=by kernel_rfl):aP P Post S (cD (b.atR a k) cs) w:=by
 refine aP.gr ?_ B;have⟨o,p,D,t,C⟩:=ng h;refine aP.oper p (by simp[Region.wanted,C]) (λc e=>by simp_all) λc=> ?_;have q:=bI (w:=w.at c) t (by rw[←tK s _ _ A,←Array.toList_map,Array.toArray_toList]) (dJ x g z i.toArray);refine⟨.enter f i.toArray,w.at c,q.1,rfl,Nat.le_refl _,λe r=>by simp_all,aP.at ?_ c⟩;refine l (b.atR a (.inRegion ops (m::rest)::j)) (λu e=>by cases e) λn w' v next=> ?_
 rw[Frame.finish_atR,p,Option.bind_some,D];exact next _ (s.put y v)
end
section
variable{y z:Operand}
def Vu(a:o.op= .move x)(b:ev x=v):Yl P ev o w v #[]:=b▸cH P (.inl a)
def Vx(a:o.op= .assign x)(b:ev x=v):Yl P ev o w v #[]:=b▸cH P (.inr a)
def KM{b}(a:o.op= .extract x i)(c:ev x= .tuple b)(hv:b[i]?=some v):Yl P ev o w v #[]:=⟨uA a c hv,by simp[execOp,a,c,hv,go_sem]⟩
def ue(a:o.op= .pick x y z)(c:ev x= .bool true)(b:ev y=v):Yl tP ev o w v #[]:=by constructor<;>simp[execOp,a,c,b,asBool]
def rH(a:o.op= .pick x y z)(c:ev x= .bool false)(b:ev z=v):Yl tP ev o w v #[]:=by constructor<;>simp[execOp,a,c,b,asBool]
def Yz(a:o.op= .binOp .eql 56 x y u)(d:ev x= .pk b 0)(c:ev y= .pointer none):Yl tP ev o w (.bool false) #[]:=by
 have e:execOp ev o=(do pure (.value (←(do eqGuard .eql 56 x y (.pk b 0) (.pointer none);binOp .eql 56 (.pk b 0) (.pointer none))))):=by simp only[execOp,a,d,c]
 unfold Yl;rw[e];constructor<;>kernel_rfl
def Yy(a:o.op= .binOp .neq 56 x y u)(d:ev x= .pk b 0)(c:ev y= .pointer none):Yl tP ev o w (.bool true) #[]:=by
 have e:execOp ev o=(do pure (.value (←(do eqGuard .neq 56 x y (.pk b 0) (.pointer none);binOp .neq 56 (.pk b 0) (.pointer none))))):=by simp only[execOp,a,d,c]
 unfold Yl;rw[e];constructor<;>kernel_rfl
def YD(j:Nat)(d:j<5)(a:o.op= .fieldAddr 100 x j)(c:ev x= .pk b 0):Yl tP ev o w (.pk b j) #[]:=by
 have e:execOp ev o=(do pure (.value (←V9 100 (.pk b 0) j))):=by simp only[execOp,a,c]
 unfold Yl;rw[e];rcases(o_:j=0\/j=1\/j=2\/j=3\/j=4)with rfl|rfl|rfl|rfl|rfl<;>constructor<;>kernel_rfl
def KN{m n}(a:o.op= .binOp .eql 36 x y u)(c:ev x= .i m)(b:ev y= .i n):Yl tP ev o w (.bool (m==n)) #[]:=by constructor<;>simp[execOp,a,c,b,go_sem]
def vM{p}{c}(a:o.op= .call {callee:= .builtin .len,args:=#[.tmp k],argTypes:=#[24]})(b:ev (.tmp k)= .slice p l c):Yl tP ev o w (.i l) #[]:=by
 have d:prog.underlying 24=some (.slice 3):=k_
 constructor<;>simp[execOp,a,resolve,b,invoke,builtin,YQ,run_underlying d,goInt]
def Bz{a}{len cap}(b:o.op= .indexAddr 24 x y)(d:ev x= .slice (some a) len cap)(c:ev y= .i n)(f:n<len):Yl tP ev o w (.pointer (some (a.add n))) #[]:=dI (e:=3) k_ s_ b d c f
end
def aP.low{S}(h:(∀r,S r->r<w.heap.size)->aP P Post S g w):aP P Post S g w:=λe d b t q a=>h (λr c=>a.low r c) e d b t q a
structure Hd (W:World) (S D:Nat->Prop) (w:World):Prop where
 two:2<=W.heap.size
 old:Bw W w
 shun:∀r,S r->W.heap.size<=r
 own:∀r,D r->W.heap.size<=r/\¬S r/\∃o,w.heap[r]?=some o/\pK D o
structure Ow (W:World) (S D:Nat->Prop) (w:World) (x:Nat) (o:Obj):Prop where
 new:W.heap.size<=x
 ours:¬S x
 out:¬D x
 lies:w.heap[x]?=some o
def MH(a):∀n i b w es,(∀j,j<n->(w.cell? ⟨a,i+j,none⟩).isSome)->∀ev∈(loadCellsFrom ⟨a,0,none⟩ i n b).events P w es,ev∈es\/∃k,ev=⟨.cell ⟨a,k,none⟩,false,false⟩
 |0,_,_,_,_,_=>λev h=> .inl (by simpa[loadCellsFrom]using h)
 |n+1,i,b,w,es,hc=>λev h=>by
  simp only[loadCellsFrom,aD6]at h;have⟨u,c⟩:=Option.isSome_iff_exists.1 (hc 0 o_);have e:(⟨a,0,none⟩:Addr).add i=⟨a,i,none⟩:=by rw[AS,as5]
  rw[e]at h;simp at c;have d:(load ⟨a,i,none⟩).run P w= .ok u w:=by simp[c]
  rw[d]at h;rcases MH a n (i+1) (b.push u) w _ (λj f=>by grind) ev h with h|h
  .rw[events_load,c]at h
   grind
  simp_all
def T6{a}{ty}{cells}{i}(g:(isAgg ty).run P w= .ok true w)(p:(isAgg ty).events P w #[]=#[])(f:(sizeOf ty).run P w= .ok n w)(h:w.heap[a]?=some (.cells cells i))(m:cells.size=n):
 (loadVar ty ⟨a,0,none⟩).run P w= .ok (.agg cells) w/\∀e∈(loadVar ty ⟨a,0,none⟩).events P w #[],∃k,e=⟨.cell ⟨a,k,none⟩,false,false⟩:=by
 have o:∀j v,cells.toList[j]?=some v->w.cell? ((⟨a,0,none⟩:Addr).add j)=some v:=λj v l=>by rw[AS,as5,aH h];simpa using l
 have c:=run_loadCells_list (P:=P) w ⟨a,0,none⟩ cells.toList o;have b:cells.toList.length=n:=by simpa using m
 rw[b]at c;constructor
 .simp[loadVar,g,f,c]
 .intro e d;simp[loadVar,g,p,f]at d;rcases MH a n 0 #[] w #[] (λj q=>by rw[as5,aH h];simp;omega) e d with h|h
  .simp at h
  .exact h
section
variable{W:World}{S:Nat->Prop}{r t:Nat}{ty:TypeId}{R:(Nat->Prop)->Value->World->Prop}{c':Frame}{cs':List Frame}
structure Tb (W:World):Prop where
 rng:W.rangeAt 0 0 (aQ vm)
 obj:∃cl e z,(∀v∈cl,bW v=true)/\W.heap[0]?=some (.cells cl e z)
end
def AQ(bk o)(t):∀c i cur w es,w.heap[bk]?=some (.cells cur t)->o+i+c.length<=cur.size->(∀v∈c,v.oneCell'=true)->
 ∀ev∈(storeCells ⟨bk,o,none⟩ c i).events P w es,ev∈es\/∃k,ev=⟨.cell ⟨bk,k,none⟩,true,false⟩
 |[],_,_,_,_,_,_,_=>λev h=> .inl (by simpa[storeCells]using h)
 |v::rest,i,cur,w,es,hg,hl,h1=>λev h=>by
  have g:o+i<cur.size:=by grind
  have a:w.cell? ⟨bk,o+i,none⟩=some cur[o+i]:=by rw[aH hg];simp[g]
  have b:w.frozen? ⟨bk,o+i,none⟩=false:=by simp[If,hg]
  have d:(store ((⟨bk,o,none⟩:Addr).add i) v).run P w= .ok () (gK w bk (cur.setIfInBounds (o+i) v) t):=by rw[AS,run_store P w _ v _ (h1 v s_),a];simp[b,jB v hg]
  have e:(store ((⟨bk,o,none⟩:Addr).add i) v).events P w es=es.push ⟨.cell ⟨bk,o+i,none⟩,true,false⟩:=by
   rw[AS,events_store P w es _ v _ (h1 v s_),a]
   grind
  simp[storeCells,aD6,d,Result.evThen_ok,e]at h;rcases AQ bk o t rest (i+1) (cur.setIfInBounds (o+i) v) _ _ (bZ hg) (by grind) (λx f=>h1 x (by simp[f])) ev h with h|h
  .grind
  .exact .inr h
section
variable{y:Operand}{ty:TypeId}{bk:Nat}{cells old:Array Value}
def E9(hv:v.cells=#[v])(a:v.oneCell'=true)(i:(sizeOf ty).run tP w= .ok 1 w)(b:o.op= .store ty x y)(h:ev x= .pk bk k)(g:ev y=v)(c:w.heap[bk]?=some (.cells old t))(j:k<old.size):
 (execOp ev o).run tP w= .ok .skip (gK w bk (old.setIfInBounds k v) t)/\∀e∈(execOp ev o).events tP w #[],∃k,e=⟨.cell ⟨bk,k,none⟩,true,false⟩:=by have⟨f,l⟩:=ff (v0:=old[k]) hv a i b h g (by rw[aH c];simp[j]) (by simp[If,c]);rw[jB v c]at f;simp_all
end
section
variable{W:World}{S:Nat->Prop}{x y:Nat}{o p:Obj}
def Hd.made(a:Hd W S D w)(k:∀r,S r->r<w.heap.size)(b:Bw w w')(j:w'.heap[w.heap.size]?=some o):Hd W S D w'/\Ow W S D w' w.heap.size o/\∀y p,Ow W S D w y p->Ow W S D w' y p:=by
 have e:=a.old.size;refine⟨⟨a.two,⟨b.os.trans a.old.os,b.tape.trans a.old.tape,b.output.trans a.old.output,as8 e b.size,λr d=>(b.block r o_).trans (a.old.block r d)⟩,a.shun,λr d=> ?_⟩,⟨e,λh=>by grind,λh=> ?_,j⟩,λy p h=>⟨h.new,h.ours,h.out,(b.block y (aK h.lies)).trans h.lies⟩⟩
 .have⟨i,g,o,c,f⟩:=a.own r d;exact⟨i,g,o,(b.block r (aK c)).trans c,f⟩
 .have xQ:=a.own _ h;simp_all
def Hd.poke(a:Hd W S D w)(g:D x){cur}(j:w.heap[x]?=some (.cells cur t))(i)(n):Hd W S D (gK w x (cur.setIfInBounds i (.i n)) t)/\∀y p,Ow W S D w y p->Ow W S D (gK w x (cur.setIfInBounds i (.i n)) t) y p:=by
 have⟨b,_⟩:=a.own x g;refine⟨⟨a.two,a.old.trans (dK b),a.shun,λr l=> ?_⟩,λy p h=>⟨h.new,h.ours,h.out,(cR (by rintro rfl;exact h.out g)).trans h.lies⟩⟩;have⟨b,f,o,d,c⟩:=a.own r l;by_cases e:r=x
 .subst e;rw[j]at d;cases d;refine⟨b,f,_,bZ j,c.1,λk m=> ?_⟩;have:=c.2 k m;simp only[fg,Obj.cells.injEq,and_true]at this⊢;rw[Array.map_setIfInBounds,this];simp[aE]
 .exact⟨b,f,o,(cR e).trans d,c⟩
end
section
variable{S:Nat->Prop}{b:Frame}{k:List Item}
def aP.sp{j}{p}{f}{d}{n}(r:Has F N ds a)(q:w.heap[f]?=some n)(i:¬S f)(l:∀o c,o.op=p->(execOp a.eval o).run tP (w.at c)= .ok .skip (gK (w.at c) f d t)/\∀e∈(execOp a.eval o).events tP (w.at c) #[],∃k,e=⟨.cell ⟨f,k,none⟩,true,false⟩)
 (next:∀a',Has F N ds a'->aP tP Post S (cD (b.atR a' (.inRegion ops rest::j)) cs) (gK w f d t)) (s:fV 6 (b.atR a k)= .inRegion ops (m::rest)::j:=by rfl)
 (h:(ops[m]?).map (λo=>(o.dst,o.op,o.guard))=some (none,p,none):=by rfl) (g:nd p=true:=by rfl):aP tP Post S (cD (b.atR a k) cs) w:=
 aP.ss r (aK q) i (λo c e=>⟨(l o c e).1,dE,(l o c e).2⟩) (λc a' h=>aP.at (next a' h) c) s h g
def yq{p:Prop}(h:p:=by
 first
 |exact Vu ho gx
 |exact Vx ho gx
 |exact KM ho gx rfl
 |exact t4 ho gx
 |exact gy ho gx gx
 |exact ue ho gx gx
 |exact rH ho gx gx
 |exact Yz ho gx gx
 |exact Yy ho gx gx
 |exact YD _ d_ ho gx
 |exact KN ho gx gx
 |exact vM ho gx):p:=h
end
section
variable{S:Nat->Prop}{b:Frame}{k:List Item}
def aP.draw{id}(h:∀t,aP P Post S (cD (b.atR a (.inRegion ops (Region.schedule (P.follows .mixedOrders) ops t)::k)) cs) w):aP P Post S (cD (b.atR a (.code (.region id ops true)::k)) cs) w:=
 aP.exec rfl λd=>by
  have c:(choose (.order (b.atR a (.code (.region id ops true)::k)).fn id)).run P (w.at d)= .ok ((w.at d).tape (w.at d).drawn (.order b.fn id)) {w.at d with drawn:=(w.at d).drawn+1}:=by simp[choose,Sem.run,Question.forced,Question.cut,Frame.atR]
  have e:=kC (main:=true) (listen:=true) (cs:=cs) rfl c;exact⟨_,_,_,e,ar5 _,s_,(h _).at _⟩
def Ip(P:Program)(S:Nat->Prop)(a:Act)(o:Oper)(w:World)(R:Value->World->Prop):Prop:=∀c,∃v w',(execOp a.eval o).run P (w.at c)= .ok (.value v) w'/\w.heap.size<=w'.heap.size/\(∀e∈(execOp a.eval o).events P (w.at c) #[],EvL (dq S) w'.heap.size e)/\R v w'
def aP.doesB{R}(e:ops[n]?=some o)(f:ar3 o (yielded ops a.tmps)=true)(d:∀c,o.op≠ .defer c)(h:Ip P S a o w R)(next:∀v w',R v w'->aP P Post S (cD (b.atR (a.put o.dst v) (.inRegion ops rest::k)) cs) w'):aP P Post S (cD (b.atR a (.inRegion ops (n::rest)::k)) cs) w:=
 aP.oper e f d λc=>by have⟨v,w',l,j,i,g⟩:=h c;refine⟨.value v,w',l,rfl,j,i, ?_⟩;show aP P Post S (cD ((b.atR a (.inRegion ops (n::rest)::k)).finish v) cs) w';rw[Df,e,IS];simp_all
end
section
variable{b:Frame}{k:List Item}
def Rn.cx{d:Tmp}{xs}{ats}{p}{i}{R:Value->World->Prop}{X:List PanicEntry->World->Prop}(D:Has F N ds a)(H:P.funcs[f]?=some fn)(M:Calls P f p.toArray w λe w'=>(∃v,e= .returned v/\R v w')\/∃n,e= .panicked n/\X n w')
 (next:∀v w',R v w'->∀a',Has ((d,v)::F) N ds a'->Rn P Goal (b.atR a' (.inRegion ops rest::i)) cs w') (B:∀n w',X n w'->Rn P Goal {b.atR a (.inRegion ops (m::rest)::i)with mode:= .panicking n} cs w') (O:fV 6 (b.atR a k)= .inRegion ops (m::rest)::i:=by rfl)
 (h:(ops[m]?).map (λo=>(o.dst,o.op,o.guard))=some (some d, .call {callee:= .value (.func f),args:=xs,argTypes:=ats},none):=by rfl) (K:PU F xs.toList=some p:=by rfl) (I:d<N:=by decide) (l:(fn.name== "runtime.NumGoroutine")=false:=by kernel_rfl) (J:fn.body.isNone=false:=by kernel_rfl):Rn P Goal (b.atR a k) cs w:=by
 refine Rn.gr ?_ O;have⟨o,C,S,G,Q⟩:=q9 h;have u:xs.map a.eval=p.toArray:=by rw[←tK D _ _ K,←Array.toList_map,Array.toArray_toList]
 refine Rn.enter C (Q _) (by rw[G];simp) (bI G u (dJ H l J _)).1 ?_;have⟨T,w',E,x,s,_,q⟩:=M (b.atR a (.inRegion ops (m::rest)::i)::cs);obtain⟨v,rfl,x⟩|⟨n,rfl,L⟩:=x
 .have j:=s;have g:=step_leave_returned (c:=b.atR a (.inRegion ops (m::rest)::i)) (cs:=cs) q;have r:(b.atR a (.inRegion ops (m::rest)::i)).finish v=b.atR (a.put (some d) v) (.inRegion ops rest::i):=by rw[Frame.finish_atR,C,Option.bind_some,S]
  rw[r]at g;have⟨A,t,z,y⟩:=next v w' x _ (D.put I v)
  exact⟨A,t,((StepsIn.of_steps j).trans (StepsIn.one trivial g)).trans z,y⟩
 .have j:=s;have⟨A,t,z,y⟩:=B n w' L;exact⟨A,t,((StepsIn.of_steps j).trans (StepsIn.one trivial (step_leave_panicked (c:=b.atR a (.inRegion ops (m::rest)::i)) (cs:=cs) q))).trans z,y⟩
def Vb(f:FuncId)(cs:List Frame)(R:Ending->World->Prop)(g:Goroutine)(w:World):Prop:=∃(a:Act) (k:List Item) (ch:List PanicEntry),g=cD {(base f).atR a k with mode:= .panicking ch} cs/\a.defers=[]/\R (.panicked ch) w
def Qo{R}(c:P.funcs[f]?=some fn)(h:∀cs,Rn P (Vb f cs R) (as7 P f args .normal) cs w):Calls P f args w R:=λcs=>by obtain⟨j,b,g,a,k,i,rfl,e,d⟩:=h cs;exact⟨.panicked i,b,_,d,ZN g,rfl,rfl,e,fn,c⟩
def xy{R}{t}{ty}{d}{w}(m:P.funcs[f]?=some fn)(c:fn.results=#[.cell t ty])(q:P.underlying ty=some d)(y:d.isRow=true)(v:(P.info? ty).map (·.size)=some n)
 (h:∀cs,Rn P (λg w'=>(∃a k b cells l,g=cD {(base f).atR a k with mode:= .returning} cs/\a.defers=[]/\a.tmps[t]?=some (.pk b 0)/\w'.heap[b]?=some (.cells cells l)/\cells.size=n/\R (.returned (.agg cells)) w')\/Vb f cs R g w') (as7 P f args .normal) cs w):Calls P f args w R:=λcs=>by
 obtain⟨D,w',o,e|⟨a,k,C,rfl,e,i⟩⟩:=h cs
 .obtain⟨a,k,b,cells,l,rfl,e,i,B,A,z⟩:=e;refine⟨.returned (.agg cells),w',{(base f).atR a k with mode:= .returning},z,ZN o,rfl,rfl,e,rfl,fn,m, ?_⟩;have s:a.tmps[t]?.getD undef= .pk b 0:=by rw[i];rfl
  have r:w'.rangeAt b 0 cells.toList:=λj x p=>by rw[as5];have:w'.cell? ⟨b,j,none⟩=cells[j]?:=(by simp[AT,B]);simp_all
  have u:=run_loadVar_mid w' b 0 ty cells.toList d r q y (by rw[v];simp[A]);show(results fn a.tmps).run P w'=_;simp[results,c,s,asAddr,u]
 .exact⟨.panicked C,w',_,i,ZN o,rfl,rfl,e,fn,m⟩
end
end
namespace L1
open Go.Conc Go.RowKit
def YA(a:o.op= .makeInterface 9 x)(b:ev x= .s s):(execOp ev o).run lT w= .ok (.value (.iface 9 (.s s))) w:=by simp[execOp,a,b];kernel_rfl
end L1
section
open Go.Conc Go.RowKit Go.Proofs.YtkmoglhgkcnalaaGreatDoor.L1
section
variable{W:World}{S:Nat->Prop}
def wj{D D'}(h:∀b,D b->D' b){o}(a:pK D o):pK D' o:=⟨a.1,λd c=>a.2 d ⟨c.1,λb e=>c.2 b (h b e)⟩⟩
def Hd.lend(a:Hd W S D w){x}{o}(c:Ow W S D w x o)(i:pK (λb=>D b\/b=x) o):Hd W S (λb=>D b\/b=x) w:=⟨a.two,a.old,a.shun,λr d=>by
 obtain d|rfl:=d
 .have⟨h,g,o,f,e⟩:=a.own r d;exact⟨h,g,o,f,wj (λ_=> .inl) e⟩
 .exact⟨c.new,c.ours,o,c.lies,i⟩⟩
def Ow.lend{x y}{o}(h:Ow W S D w y o)(a:y≠x):Ow W S (λb=>D b\/b=x) w y o:=⟨h.new,h.ours,λc=>c.elim h.out a,h.lies⟩
end
end
end Go.Proofs.YtkmoglhgkcnalaaGreatDoor
