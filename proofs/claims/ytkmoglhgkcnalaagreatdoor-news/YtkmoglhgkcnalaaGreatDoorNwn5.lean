/- A part of the claim, laid together by a program. -/
import Derived.Laws.CopyRow
import Derived.Conc.AppendWalk
import Derived.Conc.AppendEvents
import Derived.Test.YtkmoglhgkcnalaaGreatDoorNwn4
set_option linter.defProp false
set_option maxHeartbeats 16000000
set_option maxRecDepth 100000
set_option linter.all false
open Array renaming replicate->ar6,toList_map->Ye,length_toList->au3,ext->aw_,getElem?_toList->ax5,toArray_toList->aC9
open ByteArray renaming size_extract->as6
open Go.Addr renaming add_mid->AS,add->Y1
open Go.Builtin renaming firstCells->Tw,copy_->Yf,lenOf->Zm,append_->Zn,zeroCells->ZP
open Go.Ending renaming returned->Zo
open Go.Frame renaming enter->as7,finish_atR->Df
open Go.Instr renaming loadAt->as_,sliceAt->Mv,sliceBounds->Ng,sliceBound->Tv,sureAddr->VJ,slice->YT,makeSlice->ZB
open Go.IntKind renaming wrap_i64->as3,i64->DN,u8->ZH,wrap_u8->aA0
open Go.Question renaming forced->aA_
open Go.Region renaming wanted->ar3
open Go.Value renaming oneCell'->Ic,slice->aK2
open Go.World renaming cell?->AT,frozen?->If,setCell->JX
open Int renaming toNat_of_nonneg->YO
open List renaming range->ar7,replicate->ar9,getElem?_append_right->as1,getD_eq_getElem?_getD->as2,getElem?_eq_some_iff->as4,getElem?_append_left->as9,getElem?_eq_getElem->EN,size_toArray->JR,map_cons->JS,take_of_length_le->No,not_mem_nil->PI,map_append->Q4,mem_toArray->V2,mem_cons->V4,length_append->V7,getElem?_toArray->Va,all_eq_true->XT,mem_map->ZA,drop_eq_nil_of_le->ZS,lookup->ZU,getElem?_drop->ZY,flatMap_cons->au_,mem_append->av1,range_succ->av2,append_nil->ax_,length_replicate->ax4,getElem_map->az0,length_pos_iff->az2,map_toArray->aB7,eq_nil_of_length_eq_zero->aD0,map_nil->aE3,take_add_one->aG9,getElem?_append->aK3,take_succ_cons->aK9,drop_succ_cons->aL_,mem_replicate->aM1,drop_append->aO3
open Nat renaming lt_of_lt_of_le->ar4,le_refl->ar5,zero_add->as5,le_trans->as8,not_lt->aw5,min_eq_left->ax0,le_of_eq->ay9,le_succ->aA6,zero_le->aB0,min_eq_right->aI_,testBit_and->aJ0,lt_irrefl->aL5,testBit_or->aQ9
open Option renaming bind_some->IS,map_eq_some_iff->IT,toList_some->aF9
open UInt8 renaming ofNat->ZJ,toNat_ofNat'->aM0
namespace Go.Proofs.YtkmoglhgkcnalaaGreatDoor
open Go Proofs.Tryz
variable{n b i N l m k j b3 b4 b7 b9 Wg wd:Nat}{w w' w0 wL wM wE:World}{fr:Frame}{v:Value}{cs:List Frame}{args cv:Array Value}{V RO D V0:Nat->Prop}{q main listen ql:Bool}{g:Goroutine}{a:Act}{K:List Item}{P PL PM:Program}{x:Operand}{ops:Array Oper}{KS:List Int}{t u:TypeId}{o:Oper}{f:FuncId}{es:Array Event}{Goal:Goroutine->World->Prop}{fn:Func}{rest:List Nat}{ds:List Deferred}{X:bX}{F:List (Nat×Value)}{e:Event}{listed:Array Bool}{c:Int}{s msg key sig:ByteArray}{ρ:Nat->Nat}{ev:Operand->Value}{Post:Value->World->Prop}
section
open Go.RowKit
def Aw(M:Nat):Nat->Nat->Bool->Int
 |0,n,_=>n
 |k+1,n,ended=>if M.testBit (16-(k+1))then(if ended then-1 else Aw M k (n+1) false)else Aw M k n true
def lF(M:Nat):Int:=Aw M 16 0 false
def XU(M:Nat):Bool:=if M&&&(M+1)==0 then decide (0<=lF M)&&decide (lF M<=16)&&(M+1==2^(lF M).toNat)else lF M== -1
def Qh:((ar7 16).all λi=>(ar7 4096).all λj=>XU (i*4096+j))=true:=by decide+kernel
def Qj(M)(h:M<65536):XU M=true:=by
 have:=XT.1 (XT.1 Qh (M/4096) (by simp;omega)) (M%4096) (by simp;omega)
 grind
def kL(a b:Int):Int:=if a=b then(if a=4080 then 1 else if a=61455 then 0 else-1)else-1
def Bb(a k:Nat)(d:a<65536):bits .and .i64 ((a:Int)/2^k) 1=((a.testBit k).toNat:Int):=by
 have e:(a:Int)/2^k=((a/2^k:Nat):Int):=by simp_all
 have c:a/2^k<=a:=Nat.div_le_self _ _;rw[e];have h:=Yk (a/2^k) 1 o_ o_;rw[show((1:Nat):Int)=1 from rfl]at h;rw[h,show(1:Nat)=2^1- 1 from rfl,Nat.and_two_pow_sub_one_eq_mod,Nat.testBit_eq_decide_div_mod_eq];have:=Nat.mod_two_eq_zero_or_one (a/2^k);rcases this with b|b<;>simp[b]
def Pu(a b c k):(xe a b c).testBit k=decide (2<=(a.testBit k).toNat+(b.testBit k).toNat+(c.testBit k).toNat):=by
 rw[xe,aQ9,aQ9,aJ0,aJ0,aJ0]
 grind
def J9(M k n)(a)(c:k<16):Aw M (16- k) n a=if M.testBit k then(if a then-1 else Aw M (16-(k+1)) (n+1) false)else Aw M (16-(k+1)) n true:=by obtain⟨j,b⟩:∃j,16- k=j+1:=⟨16- k- 1,o_⟩;rw[b,show 16-(k+1)=j from o_,Aw,show 16-(j+1)=k from o_]
end
namespace L1
open Go.Conc Go.RowKit
def TO:f128.body=some (.seq (rG f128 0) (.seq (.block 0 (.seq (rG f128 1) (.cond (.tmp 5) (.seq (rG f128 2) .ret) (.seq (rG f128 3) (.cond (.tmp 9) (.seq (rG f128 4) .ret) (.seq (rG f128 5) (.cond (.tmp 12) (.seq (rG f128 6) .ret) .skip))))))) (.seq (rG f128 7) .ret))):=k_
def yO(x y)(w):Calls lT 128 #[.i x, .i y] w λe w'=>e= .returned (.i (kL x y))/\w'=w:=by
 refine eK lf128 TO λg a b=> ?_
 iterate 5 refine Rn.uc b λa b=> ?_
 refine Rn.p rfl (Rn.cond _ (b.G 5) ?_);by_cases c:x=y
 .rw[show(x !=y)=false from by simpa using c]
  iterate 3 refine Rn.uc b λa b=> ?_
  refine Rn.p rfl (Rn.cond _ (b.G 9) ?_);by_cases d:x=4080
  .rw[show(x==4080)=true from by simpa using d];refine Rn.uc b λa b=> ?_;exact Rn.fi b ⟨by rw[kL,if_pos c,if_pos d],rfl⟩
  .rw[show(x==4080)=false from by simpa using d]
   iterate 3 refine Rn.uc b λa b=> ?_
   refine Rn.p rfl (Rn.cond _ (b.G 12) ?_);by_cases f:x=61455
   .rw[show(x==61455)=true from by simpa using f];refine Rn.uc b λa b=> ?_;exact Rn.fi b ⟨by rw[kL,if_pos c,if_neg d,if_pos f],rfl⟩
   .rw[show(x==61455)=false from by simpa using f];refine Rn.uc b λa b=> ?_;exact Rn.fi b ⟨by rw[kL,if_pos c,if_neg d,if_neg f],rfl⟩
 .rw[show(x !=y)=true from by simpa using c];refine Rn.uc b λa b=> ?_;exact Rn.fi b ⟨by rw[kL,if_neg c],rfl⟩
def Pv(f:Func):Code:= .seq (.seq (rG f 4) (.cond (.tmp 12) .skip (.exit 0))) (.seq (.block 1 (.seq (rD f 6) (.seq (.seq (rG f 7) (.cond (.tmp 33) (.seq (rG f 8) .ret) .skip)) (.seq (rG f 9) (.cond (.tmp 35) (rG f 10) (rG f 11)))))) (rG f 5))
def SR(f:Func):Code:= .seq (rG f 12) .ret
def U2:f127.body=some (.seq (rG f127 0) (.seq (rG f127 1) (.seq (rG f127 2) (.seq (.seq (rG f127 3) (.block 0 (.loop (Pv f127)))) (SR f127))))):=k_
section
variable{p q r:Nat}(hp:p<65536)(hq:q<65536)(hr:r<65536)
include hp hq hr
def F9(w0)(v)(u:∀a w I,Bw w0 w->Has [(6, .i v)] 39 [] a->Rn lT Goal ((base 127).atR a (.code .ret::I)) cs w):
 ∀m k n en w a,16- k=m->k<=16->n<=k->Aw (xe p q r) (16- k) n en=v->Bw w0 w->Has [(0, .i p),(1, .i q),(2, .i r),(7, .i n),(8, .bool en),(9, .i k)] 39 [] a->Rn lT Goal ((base 127).atR a [.code (Pv f127), .inLoop (Pv f127), .inBlock 0, .code (SR f127)]) cs w:=by
 intro m;induction m with
 |zero=>
  intro k n en w a B C A f i b
  iterate 2 refine Rn.uc b λa b=> ?_
  refine Rn.p rfl (Rn.cond _ (b.G 12) ?_);rw[decide_eq_false o_]
  iterate 2 refine Rn.uc b λa b=> ?_
  rw[show 16- k=0 by omega]at f;rw[show(n:Int)=v from f]at b;exact Rn.p rfl (u _ _ _ i b.O)
 |succ m x=>
  intro k n en w a B C A f i b
  iterate 2 refine Rn.uc b λa b=> ?_
  refine Rn.p rfl (Rn.cond _ (b.G 12) ?_);rw[decide_eq_true o_];rw[J9 _ _ _ _ (o_:k<16)]at f
  iterate 4 refine Rn.p rfl ?_
  refine Rn.gt b ?_
  iterate 2 refine u_ ?_
  refine n_ ?_ (y:=λo a w c z=>sb c gx gx o_);refine n_ ?_ (y:=λo a w c z=>ma c gx rfl);rw[Bb p k hp]
  iterate 2 refine u_ ?_
  refine n_ ?_ (y:=λo a w c z=>sb c gx gx o_);refine n_ ?_ (y:=λo a w c z=>ma c gx rfl);rw[Bb q k hq];refine n_ ?_ (y:=λo a w c z=>cJ c gx gx (by grind))
  iterate 2 refine u_ ?_
  refine n_ ?_ (y:=λo a w c z=>sb c gx gx o_);refine n_ ?_ (y:=λo a w c z=>ma c gx rfl);rw[Bb r k hr];refine n_ ?_ (y:=λo a w c z=>cJ c gx gx (by grind));refine u_ ?_;refine q_ λa s b D _=> ?_
  .have d:decide ((((p.testBit k).toNat+(q.testBit k).toNat+(r.testBit k).toNat:Nat):Int)≥2)=(xe p q r).testBit k:=by
    rw[Pu]
    grind
   generalize (xe p q r).testBit k=t at d f;have h:=aD i i.size D;have next:∀g e a,g<=k+1->Aw (xe p q r) (16-(k+1)) g e=v->Has [(0, .i p),(1, .i q),(2, .i r),(7, .i g),(8, .bool e),(9, .i k)] 39 [] a->Rn lT Goal ((base 127).atR a [.inBlock 1, .code (rG f127 5), .inLoop (Pv f127), .inBlock 0, .code (SR f127)]) cs s:=λg e a l j b=>by refine Rn.uc b λa b=> ?_;refine Rn.vv b (λo c=>cJ (n:=1) c (b.G 13) rfl o_) λa b=> ?_;refine Rn.uc b λa b=> ?_;exact Rn.p rfl (Rn.p rfl (x (k+1) g e s _ o_ o_ l j h b.O))
   iterate 2 refine Rn.uc b λa b=> ?_
   rw[d]at b;refine Rn.uc b λa b=> ?_;cases t with
   |true=>
    refine Rn.uc b λa b=> ?_;refine Rn.vv b (λo c=>oJ c (b.G 31) (b.G 32)) λa b=> ?_;refine Rn.p rfl (Rn.cond _ (b.G 33) ?_);cases en with
    |true=>
     refine Rn.uc b λa b=> ?_;rw[show((-1:Int))=v from f]at b;exact Rn.p rfl (u _ _ _ h b.O)
    |false=>
     iterate 2 refine Rn.uc b λa b=> ?_
     rw[d]at b;refine Rn.p rfl (Rn.cond _ (b.G 35) ?_);refine Rn.uc b λa b=> ?_;refine Rn.vv b (λo c=>cJ (n:=1) c (b.G 36) rfl o_) λa b=> ?_;refine Rn.uc b λa b=> ?_;exact Rn.p rfl (next (n+1) false _ o_ f b.O)
   |false=>
    refine Rn.us b λa b=> ?_;refine Rn.vv b (λo c=>mO c (b.G 31) rfl) λa b=> ?_;refine Rn.p rfl (Rn.cond _ (b.G 33) ?_)
    iterate 2 refine Rn.uc b λa b=> ?_
    rw[d]at b;refine Rn.p rfl (Rn.cond _ (b.G 35) ?_);refine Rn.uc b λa b=> ?_;exact Rn.p rfl (next n true _ o_ f b.O)
def Fa(w):Calls lT 127 #[.i p, .i q, .i r] w λe w'=>e= .returned (.i (lF (xe p q r)))/\Bw w w':=by
 refine eK lf127 U2 λd a b=> ?_
 iterate 4 refine Rn.uc b λa b=> ?_
 refine Rn.p rfl (Rn.p rfl (Rn.p rfl (F9 hp hq hr w _ (λa w' I c b=> ?_) 16 0 0 false w _ rfl o_ o_ rfl (bR) b.O)));exact Rn.fi b ⟨rfl,c⟩
end
end L1
section
open Go.RowKit
def zJ(a b):u7 a b=decide (0<=kL a b):=by
 unfold u7 kL
 grind
def KY{a b d}(h:u7 a b=true)(e:u7 c d=true):((kL a b==1)&&(kL c d==0))=((a==4080)&&(c==61455)):=by unfold u7 at h e;simp at h e;obtain⟨rfl,h⟩:=h;obtain⟨rfl,e⟩:=e;rcases h with rfl|rfl<;>rcases e with rfl|rfl<;>decide
def xh{W}(g:g6 W):M4 W=decide (0<=lF (sZ W))/\(M4 W=true->lF (sZ W)=uG (sZ W)):=by
 have o:=g.2 2 o_;have m:=g.2 3 o_;have l:sZ W<65536:=GZ o_ o_;have a:=Qj _ l;unfold M4;generalize sZ W=M at*;unfold XU at a;by_cases c:M&&&(M+1)==0
 .rw[if_pos c]at a;simp at a;have⟨⟨f,i⟩,d⟩:=a;refine⟨by simp_all,λ_=> ?_⟩;have⟨n,j⟩:=Int.eq_ofNat_of_zero_le f;rw[j]at i d⊢;rw[Int.toNat_natCast]at d;have b:∀n:Nat,n<17->uG ((2:Int)^n- 1)=n:=by decide+kernel
  grind
 simp_all
end
namespace L1
open Go.Conc Go.RowKit
def SY(f:Func):Code:= .seq (.seq (rG f 4) (.cond (.tmp 10) .skip (.exit 0))) (.seq (.block 1 (.seq (rG f 6) (.cond (.tmp 24) (.seq (rG f 7) .ret) .skip))) (rG f 5))
def Wm(f:Func):Code:= .seq (rG f 8) .ret
def TQ:f75.body=some (.seq (rG f75 0) (.seq (.seq (rG f75 1) (.cond (.tmp 6) (.seq (rG f75 2) .ret) .skip)) (.seq (.seq (rG f75 3) (.block 0 (.loop (SY f75)))) (Wm f75)))):=k_
section
variable{W:List Int}{g off cap:Nat}
def J7(d:g6 W)(e:w.rangeAt g off (W.map (Value.int .i64)))(f:∀a I,Has [(2, .bool true)] 25 [] a->Rn lT Goal ((base 75).atR a (.code .ret::I)) cs w):
 ∀(m i:Nat) a,85- i=m->i<=85->Has [(0, .slice (some ⟨g,off,none⟩) 85 cap),(3, .i i)] 25 [] a->Rn lT Goal ((base 75).atR a [.code (SY f75), .inLoop (SY f75), .inBlock 0, .code (Wm f75)]) cs w:=by
 intro m;induction m with
 |zero=>
  intro i a j k b
  iterate 2 refine Rn.uc b λa b=> ?_
  refine Rn.vv b (λo c=>lK c (b.G 8)) λa b=> ?_;refine Rn.uc b λa b=> ?_;refine Rn.p rfl (Rn.cond _ (b.G 10) ?_);rw[decide_eq_false o_];refine Rn.uc b λa b=> ?_;exact Rn.p rfl (f _ _ b.O)
 |succ m h=>
  intro i a j k b;have l:=d.2 i o_
  iterate 2 refine Rn.uc b λa b=> ?_
  refine Rn.vv b (λo c=>lK c (b.G 8)) λa b=> ?_;refine Rn.uc b λa b=> ?_;refine Rn.p rfl (Rn.cond _ (b.G 10) ?_);rw[decide_eq_true o_]
  iterate 2 refine Rn.uc b λa b=> ?_
  refine Rn.vv b (λo c=>g7 i k_ c (b.G 13) (b.G 14) o_) λa b=> ?_;refine Rn.vv b (λo c=>wD i e (by rw[d.1];omega) c (b.G 15)) λa b=> ?_;refine Rn.uc b λa b=> ?_;rw[decide_eq_false o_]at b
  iterate 3 refine Rn.uc b λa b=> ?_
  refine Rn.vv b (λo c=>g7 i k_ c (b.G 19) (b.G 20) o_) λa b=> ?_;refine Rn.vv b (λo c=>wD i e (by rw[d.1];omega) c (b.G 21)) λa b=> ?_;refine Rn.uc b λa b=> ?_;rw[decide_eq_false o_]at b;refine Rn.vv b (λo c=>mO c (b.G 18) (b.G 23)) λa b=> ?_;refine Rn.p rfl (Rn.cond _ (b.G 24) ?_);refine Rn.uc b λa b=> ?_;refine Rn.vv b (λo c=>cJ (n:=1) c (b.G 11) rfl o_) λa b=> ?_;refine Rn.uc b λa b=> ?_;exact Rn.p rfl (Rn.p rfl (h (i+1) _ o_ o_ b.O))
def Lz(f:g6 W)(c:w.rangeAt g off (W.map (Value.int .i64))):Calls lT 75 #[.slice (some ⟨g,off,none⟩) 85 cap] w λe w'=>e= .returned (.bool true)/\w'=w:=by
 refine eK lf75 TQ λh a b=> ?_
 iterate 2 refine Rn.uc b λa b=> ?_
 refine Rn.vv b (λo d=>lK d (b.G 4)) λa b=> ?_;refine Rn.uc b λa b=> ?_;refine Rn.p rfl (Rn.cond _ (b.G 6) ?_);refine Rn.uc b λa b=> ?_;exact Rn.p rfl (Rn.p rfl (Rn.p rfl (J7 f c (λa I b=>Rn.fi b ⟨rfl,rfl⟩) 85 0 _ rfl o_ b.O)))
end
section
variable{y:Operand}
def Sk{st le}(a:o.op= .build 45 #[(0,x),(2,y)])(c:ev x= .i st)(b:ev y= .i le):(execOp ev o).run lT w= .ok (.value (.agg (eR st le (.slice none 0 0) (.slice none 0 0)))) w:=by simp[execOp,a,c,b];kernel_rfl
def Si(a:o.op= .build 45 #[]):(execOp ev o).run lT w= .ok (.value (.agg (eR 0 0 (.slice none 0 0) (.slice none 0 0)))) w:=by simp[execOp,a];kernel_rfl
end
def kP{W:List Int}{g off}(d:W.length=85)(a:w.rangeAt g off (W.map (Value.int .i64)))(b:Bw w w')(i)(c:i<85):w'.cell? ⟨g,off+i,none⟩=some (.i (W.getD i 0)):=by refine bM b (a i _ ?_);simp_all
section
variable{W:List Int}{g off cap:Nat}{p2:Value}
def WI(hW:g6 W)(hr:w.rangeAt g off (W.map (Value.int .i64)))(hF:Has [(0, .slice (some ⟨g,off,none⟩) 85 cap),(2,p2)] 142 [] a)
 (next:∀a w1 b5,Bw w w1->w.heap.size<=b5->w1.heap[b5]?=some (.cells (eR (W.getD 0 0) (lF (sZ W)) (.slice none 0 0) (.slice none 0 0)) 45)->Has [(0, .slice (some ⟨g,off,none⟩) 85 cap),(2,p2),(5, .pt b5)] 142 [] a->Rn lT Goal ((base 101).atR a K) cs w1):
 Rn lT Goal ((base 101).atR a (.code (rD f101 4)::K)) cs w:=by
 have w2:=hW.2 2 o_;have w3:=hW.2 3 o_;have w4:=hW.2 4 o_;refine Rn.gu 15 hF ?_;refine n_ ?_;refine n_ ?_ (y:=λo a w ho z=>g7 0 k_ ho gx gx o_);refine n_ ?_ (y:=λo a w ho z=>(aO bH ho gx (kP hW.1 hr z.b 0 o_)).1);refine n_ ?_;refine n_ ?_ (y:=λo a w ho z=>g7 2 k_ ho gx gx o_);refine n_ ?_ (y:=λo a w ho z=>(aO bH ho gx (kP hW.1 hr z.b 2 o_)).1);refine n_ ?_;refine n_ ?_ (y:=λo a w ho z=>g7 3 k_ ho gx gx o_);refine n_ ?_ (y:=λo a w ho z=>(aO bH ho gx (kP hW.1 hr z.b 3 o_)).1);refine n_ ?_;refine n_ ?_ (y:=λo a w ho z=>g7 4 k_ ho gx gx o_);refine n_ ?_ (y:=λo a w ho z=>(aO bH ho gx (kP hW.1 hr z.b 4 o_)).1);refine p_ (v:= .i (lF (sZ W))) lf127 (λw _ _=> ?_) ?_
 .have:=Fa (p:=(W.getD 2 0).toNat) (q:=(W.getD 3 0).toNat) (r:=(W.getD 4 0).toNat) o_ o_ o_ w
  rwa [YO w2.1,YO w3.1,YO w4.1]at this
 refine n_ ?_ (y:=λo a w ho z=>Sk ho gx gx);refine f_ [] (V:=λb=> .pk b 0) (λu=>y_ λa w' hF hb hM rest hgo=> ?_) (y:=λo a w ho _=>zk ho);obtain⟨b7,rfl,q6,q7⟩:=hM.1 rfl;exact Rn.nn hF (λo ho=>qx ho (hF.G 5) (hF.G 32) q7 rfl) λa hF=>hgo _ _ (next a _ b7 (hb.trans (dK q6)) q6 (bZ q7) hF.O)
end
section
variable{W:List Int}{g off cap b5:Nat}{le:Int}{p2 pu:Value}{t:Bool}
def GE{Q:Act->WP}(h:g6 W)(f:w.rangeAt g off (W.map (Value.int .i64)))(next:∀a w1,Bw w w1->Has [(6, .bool (t&&(W.getD 0 0==255||W.getD 0 0==3855||W.getD 0 0==13107||W.getD 0 0==21845))),(0, .slice (some ⟨g,off,none⟩) 85 cap),(2,p2),(5, .pt b5)] 142 [] a->Q a w1):
 Gx lT (bP f101 5) w 142 37 [] Q 13 [(45, .bool t),(0, .slice (some ⟨g,off,none⟩) 85 cap),(2,p2),(5, .pt b5)] []:=by
 have c:∀{q:Bool} {F:List (Nat×Value)},F.lookup 45=some (.bool true)->F.lookup 67=some (.bool q)->F.lookup 0=some (.slice (some ⟨g,off,none⟩) 85 cap)->F.lookup 2=some p2->F.lookup 5=some (.pk b5 0)->q=(W.getD 0 0==255||W.getD 0 0==3855||W.getD 0 0==13107||W.getD 0 0==21845)->t=true->Gx lT (bP f101 5) w 142 37 [] Q 35 F []:=λ{q F} u s r p n x v=>by refine c_ (F:=[(45, .bool true),(67, .bool q),(0, .slice (some ⟨g,off,none⟩) 85 cap),(2,p2),(5, .pt b5)]) ⟨u,s,r,p,n,trivial⟩ ?_;refine n_ ?_ (y:=λo a w b z=>oJ b gx gx);refine n_ ?_;exact q_ λa w1 m l _=>next a w1 l (m.only ⟨by rw[x,v];rfl,rfl,rfl,rfl,trivial⟩)
 cases t with
 |false=>
  iterate 22 refine r_ ?_
  refine n_ ?_ (y:=λo a w b z=>mO b gx rfl);refine n_ ?_;exact q_ λa w1 m l _=>next a w1 l m.O
 |true=>
  refine n_ ?_;refine n_ ?_ (y:=λo a w b z=>g7 (t:=24) 0 k_ b gx rfl o_);refine n_ ?_ (y:=λo a w b z=>(aO bH b gx (kP h.1 f z.b 0 o_)).1)
  iterate 2 refine n_ ?_
  generalize e:W.getD 0 0=d at c⊢;by_cases k:d=255
  .rw[show(d==255)=true from by simpa using k]
   iterate 4 refine r_ ?_
   refine n_ ?_ (y:=λo a w b z=>oJ b gx rfl);refine n_ ?_
   iterate 4 refine r_ ?_
   refine n_ ?_ (y:=λo a w b z=>oJ b gx rfl);refine n_ ?_
   iterate 4 refine r_ ?_
   refine n_ ?_ (y:=λo a w b z=>oJ b gx rfl);exact c rfl rfl rfl rfl rfl (by simp[k]) rfl
  .rw[show(d==255)=false from by simpa using k];refine n_ ?_;refine n_ ?_ (y:=λo a w b z=>g7 (t:=24) 0 k_ b gx rfl o_);refine n_ ?_ (y:=λo a w b z=>(aO bH b gx (e▸kP h.1 f z.b 0 o_)).1);refine n_ ?_;refine n_ ?_ (y:=λo a w b z=>mO b gx gx);refine n_ ?_;by_cases j:d=3855
   .rw[show(d==3855)=true from by simpa using j]
    iterate 4 refine r_ ?_
    refine n_ ?_ (y:=λo a w b z=>oJ b gx rfl);refine n_ ?_
    iterate 4 refine r_ ?_
    refine n_ ?_ (y:=λo a w b z=>oJ b gx rfl);exact c rfl rfl rfl rfl rfl (by simp[j]) rfl
   .rw[show(d==3855)=false from by simpa using j];refine n_ ?_;refine n_ ?_ (y:=λo a w b z=>g7 (t:=24) 0 k_ b gx rfl o_);refine n_ ?_ (y:=λo a w b z=>(aO bH b gx (e▸kP h.1 f z.b 0 o_)).1);refine n_ ?_;refine n_ ?_ (y:=λo a w b z=>mO b gx gx);refine n_ ?_;by_cases i:d=13107
    .rw[show(d==13107)=true from by simpa using i]
     iterate 4 refine r_ ?_
     refine n_ ?_ (y:=λo a w b z=>oJ b gx rfl);exact c rfl rfl rfl rfl rfl (by simp[i]) rfl
    .rw[show(d==13107)=false from by simpa using i];refine n_ ?_;refine n_ ?_ (y:=λo a w b z=>g7 (t:=24) 0 k_ b gx rfl o_);refine n_ ?_ (y:=λo a w b z=>(aO bH b gx (e▸kP h.1 f z.b 0 o_)).1);refine n_ ?_;refine n_ ?_ (y:=λo a w b z=>mO b gx gx);exact c rfl rfl rfl rfl rfl (by simp[k,j,i]) rfl
def WH(d:g6 W)(c:w.rangeAt g off (W.map (Value.int .i64)))(f:w.heap[b5]?=some (.cells (eR (W.getD 0 0) le (.slice none 0 0) (.slice none 0 0)) 45))(e:Has [(0, .slice (some ⟨g,off,none⟩) 85 cap),(2,p2),(5, .pt b5)] 142 [] a)
 (next:∀a w1,Bw w w1->Has [(6, .bool (DT W&&decide (0<=le))),(0, .slice (some ⟨g,off,none⟩) 85 cap),(2,p2),(5, .pt b5)] 142 [] a->Rn lT Goal ((base 101).atR a K) cs w1):
 Rn lT Goal ((base 101).atR a (.code (rD f101 5)::K)) cs w:=by
 have h:(DT W&&decide (0<=le))=((W.getD 0 0==W.getD 1 0&&decide (le≥0))&&(W.getD 0 0==255||W.getD 0 0==3855||W.getD 0 0==13107||W.getD 0 0==21845)):=by
  unfold DT
  grind
 rw[h]at next
 refine Rn.gt e ?_;refine n_ ?_;refine n_ ?_ (y:=λo a w b z=>g7 (t:=24) 0 k_ b gx rfl o_);refine n_ ?_ (y:=λo a w b z=>(aO bH b gx (kP d.1 c z.b 0 o_)).1);refine n_ ?_;refine n_ ?_ (y:=λo a w b z=>g7 (t:=24) 1 k_ b gx rfl o_);refine n_ ?_ (y:=λo a w b z=>(aO bH b gx (kP d.1 c z.b 1 o_)).1)
 iterate 2 refine n_ ?_
 generalize i:(W.getD 0 0==W.getD 1 0)=y at next⊢
 cases y with
 |false=>
  iterate 3 refine r_ ?_
  refine n_ ?_ (y:=λo a w b z=>mO b gx rfl);refine n_ ?_;exact c_ (by exact⟨rfl,rfl,rfl,rfl,trivial⟩) (GE d c next)
 |true=>
  refine n_ ?_;refine n_ ?_;refine n_ ?_;refine n_ ?_ (y:=λo a w b z=>oJ b gx gx);refine n_ ?_;exact c_ (by exact⟨rfl,rfl,rfl,rfl,trivial⟩) (GE (t:=decide (le≥0)) d c next)
end
end L1
section
open Go.Conc Go.RowKit
def XW(a b:List UInt8):(ByteArray.mk a.toArray)++(ByteArray.mk b.toArray)=ByteArray.mk (a++b).toArray:=by apply ByteArray.ext;simp
def i8{base}{e}{xs}{cs}{fr}(h:w.ownsRow base e 1 v n xs)(a:w.heap[b]?=some (.cells cs t fr))(d:t≠e):some b≠v.ownBlock:=λc=>by
 obtain⟨rfl,_⟩|⟨g,j,i,rfl,_,f,_⟩:=h.2
 .cases c
 .cases c;simp_all
def pg{base}{e}{xs}(h:w.ownsRow base e 1 v n xs):∃p c,v= .slice p n c:=by
 obtain⟨rfl,rfl⟩|⟨g,b,a,rfl,_⟩:=h.2
 .simp_all
 .simp_all
def dL{base}{e}{xs}(h:w.ownsRow base e 1 v n xs)(b:Bw w w'):w'.ownsRow base e 1 v n xs:=ig h λ_ _ _ a=>bk b a
def gp{base}{e}{xs}{cs ds}{fr}(h:w.ownsRow base e 1 v n xs)(g:w.heap[b]?=some (.cells cs t fr))(a:t≠e):(gK w b ds t).ownsRow base e 1 v n xs:=ig h λc _ f d=>(cR (by rintro rfl;exact i8 h g a f.symm)).trans d
end
namespace L1
open Go.Conc Go.RowKit
structure Rf (w0:World) (b2 b5:Nat) (st le:Int) (U:List Bool) (H:List ByteArray) (vU vH:Value) (w:World):Prop where
 old:Bw w0 w
 n2:w0.heap.size<=b2
 n5:w0.heap.size<=b5
 ne:b2≠b5
 c2:w.heap[b2]?=some (.cells (eR 0 0 (.slice none 0 0) (.slice none 0 0)) 45)
 c5:w.heap[b5]?=some (.cells (eR st le vU vH) 45)
 ou:w.ownsRow w0.heap.size 4 1 vU U.length (U.map Value.bool)
 oh:w.ownsRow w0.heap.size 9 1 vH H.length (H.map Value.string)
section
variable{b2 b5:Nat}{st le:Int}{U:List Bool}{H:List ByteArray}{vU vH:Value}
def Rf.below(h:Rf w0 b2 b5 st le U H vU vH w)(a:Bw w w'):Rf w0 b2 b5 st le U H vU vH w':=⟨aD h.old h.old.size a,h.n2,h.n5,h.ne,bk a h.c2,bk a h.c5,dL h.ou a,dL h.oh a⟩
def Rf.use(h:Rf w0 b2 b5 st le U H vU vH w)(G:U.length<4){g}(y:w.heap[g]?=some (.cells #[.bool q] 4))(x:ev (.tmp k)=vU)(v:ev (.tmp j)= .sk g 1 1)(o)(d:o.op= .call {callee:= .builtin .append,args:=#[.tmp k, .tmp j],argTypes:=#[42,42]}):
 ∃v' w',(execOp ev o).run lT w= .ok (.value v') w'/\(∃p c,v'= .slice p (U.length+1) c)/\w'.heap[b5]?=some (.cells (eR st le vU vH) 45)/\Rf w0 b2 b5 st le (U++[q]) H v' vH (gK w' b5 (eR st le v' vH) 45):=by
 have⟨v',w',B,n,A,f⟩:=tO (z:= .bool false) (bytes:=1) (m:=1) (news:=[.bool q]) k_ k_ rfl h.ou (λj u i=>by
  obtain _|j:=j
  .cases i;rw[AS,aH y];rfl
  .simp at i) (by simp[Ic]) rfl x v (by unfold maxLen;omega) o_ h.old.size o d
 have a:=(f.block b5 (aK h.c5) (i8 h.ou h.c5 d_)).trans h.c5;have r:=ig h.oh λc F b l=>(f.block c (aK l) (by
  obtain⟨e,_⟩|⟨I,E,D,e,_,C,_⟩:=h.oh.2
  .rw[e]at b;cases b
  .rw[e]at b;cases b;exact i8 h.ou C d_)).trans l
 refine⟨v',w',B,pg n,a,(h.old.trans A).trans (dK h.n5),h.n2,h.n5,h.ne,(cR h.ne).trans ((f.block b2 (aK h.c2) (i8 h.ou h.c2 d_)).trans h.c2),bZ a, ?_,gp r a d_⟩;rw[V7,Q4];exact gp n a d_
def Rf.hash(h:Rf w0 b2 b5 st le U H vU vH w){q}(G:H.length<4){g}(y:w.heap[g]?=some (.cells #[.s q] 9))(x:ev (.tmp k)=vH)(v:ev (.tmp j)= .sk g 1 1)(o)(d:o.op= .call {callee:= .builtin .append,args:=#[.tmp k, .tmp j],argTypes:=#[43,43]}):
 ∃v' w',(execOp ev o).run lT w= .ok (.value v') w'/\(∃p c,v'= .slice p (H.length+1) c)/\w'.heap[b5]?=some (.cells (eR st le vU vH) 45)/\Rf w0 b2 b5 st le U (H++[q]) vU v' (gK w' b5 (eR st le vU v') 45):=by
 have⟨v',w',B,n,A,f⟩:=tO (z:= .string ⟨#[]⟩) (bytes:=16) (m:=1) (news:=[.s q]) k_ k_ rfl h.oh (λj u i=>by
  obtain _|j:=j
  .cases i;rw[AS,aH y];rfl
  .simp at i) (by simp[Ic]) rfl x v (by unfold maxLen;omega) o_ h.old.size o d
 have a:=(f.block b5 (aK h.c5) (i8 h.oh h.c5 d_)).trans h.c5;have r:=ig h.ou λc F b l=>(f.block c (aK l) (by
  obtain⟨e,_⟩|⟨I,E,D,e,_,C,_⟩:=h.ou.2
  .rw[e]at b;cases b
  .rw[e]at b;cases b;exact i8 h.oh C d_)).trans l
 refine⟨v',w',B,pg n,a,(h.old.trans A).trans (dK h.n5),h.n2,h.n5,h.ne,(cR h.ne).trans ((f.block b2 (aK h.c2) (i8 h.oh h.c2 d_)).trans h.c2),bZ a,gp r a d_, ?_⟩;rw[V7,Q4];exact gp n a d_
end
def M5(f:Func):Code:= .seq (.seq (rG f 16) (.cond (.tmp 118) .skip (.exit 2))) (.seq (.block 3 (.seq (rG f 18) (rG f 19))) (rG f 17))
def M6(f:Func):Code:= .seq (.seq (rG f 7) (.cond (.tmp 70) .skip (.exit 0))) (.seq (.block 1 (.seq (rG f 9) (.seq (rD f 10) (.seq (rD f 11) (.seq (rG f 12) (.seq (rG f 13) (.seq (rG f 14) (.seq (.seq (rG f 15) (.block 2 (.loop (M5 f)))) (rG f 20))))))))) (rG f 8))
def M1(f:Func):Code:= .seq (.seq (rG f 21) (.cond (.tmp 139) (.seq (rG f 22) .ret) .skip)) (.seq (rG f 23) .ret)
def TT:f101.body=some (.seq (rG f101 0) (.seq (rG f101 1) (.seq (.seq (rG f101 2) (.cond (.tmp 17) (.seq (rG f101 3) .ret) .skip)) (.seq (rD f101 4) (.seq (rD f101 5) (.seq (.seq (rG f101 6) (.block 0 (.loop (M6 f101)))) (M1 f101))))))):=k_
section
variable{W:List Int}{g off cap:Nat}{ok:Bool}{v2 v5:Value}
def PG(e:g6 W)(s:w.rangeAt g off (W.map (Value.int .i64)))(A:k<4)(r:∀a w' h,h=(⟨(ey ((jq W k).drop 4)).toArray⟩:ByteArray)->Bw w w'->Has [(11, .s h),(0, .slice (some ⟨g,off,none⟩) 85 cap),(2,v2),(5,v5),(6, .bool ok),(7, .i k)] 142 [] a->Rn lT Goal ((base 101).atR a (.code (rG f101 20)::K)) cs w'):
 ∀m i w' a,16- i=m->i<=16->Bw w w'->Has [(0, .slice (some ⟨g,off,none⟩) 85 cap),(2,v2),(5,v5),(6, .bool ok),(7, .i k),(8, .i ((5+20*k:Nat):Int)),(11, .string ⟨(ey (((jq W k).drop 4).take i)).toArray⟩),(12, .i i)] 142 [] a->Rn lT Goal ((base 101).atR a (.code (M5 f101):: .inLoop (M5 f101):: .inBlock 2:: .code (rG f101 20)::K)) cs w':=by
 have l:((jq W k).drop 4).length=16:=by simp[jq,e.1];omega
 intro m;induction m with
 |zero=>
  intro i w' a u v d b
  iterate 2 refine Rn.uc b λa b=> ?_
  refine Rn.p rfl (Rn.cond _ (b.G 118) ?_);rw[decide_eq_false o_];refine Rn.p rfl (r _ _ _ ?_ d b.O);rw[No o_]
 |succ m f=>
  intro i w' a u v d b
  iterate 2 refine Rn.uc b λa b=> ?_
  refine Rn.p rfl (Rn.cond _ (b.G 118) ?_);rw[decide_eq_true o_]
  iterate 2 refine Rn.uc b λa b=> ?_
  refine Rn.vv b (λo c=>cJ (n:=4) c (b.G 122) rfl o_) λa b=> ?_;refine Rn.uc b λa b=> ?_;refine Rn.vv b (λo c=>cJ c (b.G 123) (b.G 124) o_) λa b=> ?_;refine Rn.vv b (λo c=>g7 (t:=24) (5+20*k+4+i) k_ c (b.G 121) (b.G 125) o_) λa b=> ?_;refine Rn.vv b (λo c=>(aO bH c (b.G 126) (kP e.1 s d (5+20*k+4+i) o_)).1) λa b=> ?_;have j:=e.2 (5+20*k+4+i) o_;have p:((jq W k).drop 4)[i]?=some (W.getD (5+20*k+4+i) 0):=by rw[jq,ZY,List.getElem?_take,if_pos o_,ZY,as2,show 5+20*k+(4+i)=5+20*k+4+i by omega,EN (by rw[e.1];omega)];rfl
  generalize W.getD (5+20*k+4+i) 0=x at b j p;rw[←YO j.1]at b;refine Rn.cw b lf29 (fw x.toNat 2 w' d_ o_) λq z a b=> ?_
  iterate 3 refine Rn.uc b λa b=> ?_
  refine Rn.vv b (λo c=>rV c (b.G 129) (b.G 130) ?_) λa b=> ?_
  .have:(ByteArray.mk (ey (((jq W k).drop 4).take i)).toArray).size<=32:=by
    show(ey _).toArray.size<=32
    have:∀L:List Int,(ey L).length=2*L.length:=λL=>by
     induction L with
     |nil=>rfl
     |cons y L f=>simp only[ey,au_,V7,cO,List.length_cons]at f⊢;omega
    grind
   have B:(ByteArray.mk (dm x.toNat 2).toArray).size=2:=(by show(dm x.toNat 2).toArray.size=2;simp[cO]);omega
  rw[show(ByteArray.mk (ey (((jq W k).drop 4).take i)).toArray++ByteArray.mk (dm x.toNat 2).toArray)=⟨(ey (((jq W k).drop 4).take (i+1))).toArray⟩from by rw[aG9,p];simp only[ey,aF9,List.flatMap_append,au_,List.flatMap_nil,ax_];exact XW _ _]at b
  iterate 2 refine Rn.uc b λa b=> ?_
  refine Rn.vv b (λo c=>cJ (n:=1) c (b.G 119) rfl o_) λa b=> ?_;refine Rn.uc b λa b=> ?_;exact Rn.p rfl (Rn.p rfl (f (i+1) q _ o_ o_ (aD d d.size z) b.O))
end
end L1
section
open Go.RowKit
def qn(W:List Int)(k:Nat):Bool:=decide (0<=kL (W.getD (5+20*k) 0) (W.getD (5+20*k+1) 0))&&decide (0<=kL (W.getD (5+20*k+2) 0) (W.getD (5+20*k+3) 0))
def qm(W:List Int)(k:Nat):Bool:=(kL (W.getD (5+20*k) 0) (W.getD (5+20*k+1) 0)==1)&&(kL (W.getD (5+20*k+2) 0) (W.getD (5+20*k+3) 0)==0)
def jp{W}(a:i<20):(jq W k).getD i 0=W.getD (5+20*k+i) 0:=by simp[jq,as2];simp_all
def s9{W}:iM (jq W k)=qn W k:=by unfold iM qn;rw[zJ,zJ,jp o_,jp o_,jp o_,jp o_];rfl
def KX{W}(h:iM (jq W k)=true):io (jq W k)=qm W k:=by unfold iM at h;rw[Bool.and_eq_true]at h;have:=KY h.1 h.2;unfold io qm;rw[jp o_,jp o_,jp o_,jp o_]at this;rw[jp o_,jp o_];simp_all
def Pb{W}(a:g6 W):r9 W=(DT W&&decide (0<=lF (sZ W))&&(ar7 4).all (qn W)):=by
 unfold r9;rw[(xh a).1]
 congr 1
 simp[show ar7 4=[0,1,2,3]from rfl,List.all_cons,List.all_nil];rw[s9,s9,s9,s9]
def Su{W}(b:g6 W):(r9 W=true->UW W (W.getD 0 0) (lF (sZ W)) 0 ((ar7 4).map (qm W)) ((ar7 4).map λk=>⟨(ey ((jq W k).drop 4)).toArray⟩)):=λh=>by
 refine .inl ⟨h,rfl,rfl, ?_, ?_,rfl⟩
 .refine(xh b).2 ?_;unfold r9 at h;simp_all
 .unfold E3;apply List.map_congr_left;intro k a;refine(KX ?_).symm;unfold r9 at h;simp_all
end
namespace L1
open Go.Conc Go.RowKit
section
variable{W:List Int}{g off cap:Nat}{b2 b5:Nat}{st le:Int}{ok0:Bool}
def LD(s:g6 W)(K:w0.rangeAt g off (W.map (Value.int .i64)))(nt:∀a w h d,Rf w0 b2 b5 st le ((ar7 4).map (qm W)) ((ar7 4).map λk=>⟨(ey ((jq W k).drop 4)).toArray⟩) h d w->Has [(2, .pt b2),(5, .pt b5),(6, .bool (ok0&&(ar7 4).all (qn W)))] 142 [] a->Rn lT Goal ((base 101).atR a [.code (M1 f101)]) cs w):
 ∀m k w a h d,4- k=m->k<=4->Rf w0 b2 b5 st le ((ar7 k).map (qm W)) ((ar7 k).map λk=>⟨(ey ((jq W k).drop 4)).toArray⟩) h d w->Has [(0, .slice (some ⟨g,off,none⟩) 85 cap),(2, .pt b2),(5, .pt b5),(6, .bool (ok0&&(ar7 k).all (qn W))),(7, .i k)] 142 [] a->Rn lT Goal ((base 101).atR a [.code (M6 f101), .inLoop (M6 f101), .inBlock 0, .code (M1 f101)]) cs w:=by
 intro m;induction m with
 |zero=>
  intro k w a h d hm hk B b
  iterate 2 refine Rn.uc b λa b=> ?_
  refine Rn.p rfl (Rn.cond _ (b.G 70) ?_);rw[decide_eq_false o_];obtain rfl:k=4:=o_
  exact Rn.p rfl (nt _ _ _ _ B b.O)
 |succ m ih=>
  intro k w a h d hm hk B b;have L:k<4:=o_
  have p:w.rangeAt g off (W.map (Value.int .i64)):=λj v q=>bM B.old (K j v q)
  iterate 2 refine Rn.uc b λa b=> ?_
  refine Rn.p rfl (Rn.cond _ (b.G 70) ?_);rw[decide_eq_true o_];refine Rn.uc b λa b=> ?_;refine Rn.vv b (λo c=>rY (m:=20) c rfl (b.G 73) o_) λa b=> ?_;refine Rn.vv b (λo c=>cJ (m:=5) c rfl (b.G 74) o_) λa b=> ?_;refine Rn.uc b λa b=> ?_;have b:Has [(0, .slice (some ⟨g,off,none⟩) 85 cap),(2, .pt b2),(5, .pt b5),(6, .bool (ok0&&(ar7 k).all (qn W))),(7, .i k),(8, .i ((5+20*k:Nat):Int))] 142 [] a:=b.O;generalize J:kL (W.getD (5+20*k) 0) (W.getD (5+20*k+1) 0)=x;generalize I:kL (W.getD (5+20*k+2) 0) (W.getD (5+20*k+3) 0)=y
  iterate 2 refine Rn.p rfl ?_
  refine Rn.gt b ?_
  iterate 2 refine u_ ?_
  refine n_ ?_ (y:=λo a w c z=>g7 (t:=24) (5+20*k) k_ c gx gx o_);refine n_ ?_ (y:=λo a w c z=>(aO bH c gx (kP s.1 p z.b (5+20*k) o_)).1)
  iterate 2 refine u_ ?_
  refine n_ ?_;refine n_ ?_ (y:=λo a w c z=>g7 (t:=24) (5+20*k+1) k_ c gx gx o_);refine n_ ?_ (y:=λo a w c z=>(aO bH c gx (kP s.1 p z.b (5+20*k+1) o_)).1);refine p_ lf128 (λE hC _=>(yO (W.getD (5+20*k) 0) (W.getD (5+20*k+1) 0) E).mono λe D ⟨N,M⟩=>⟨N,M▸bR⟩) ?_;refine u_ ?_;rw[J];refine q_ λa w1 b b1 _=> ?_;have Y:=B.below b1;have l:w1.rangeAt g off (W.map (Value.int .i64)):=λj v q=>bM Y.old (K j v q);refine Rn.p rfl ?_;refine Rn.gt b ?_
  iterate 2 refine u_ ?_
  refine n_ ?_ (y:=λo a w c z=>cJ (n:=2) c gx rfl o_);refine n_ ?_ (y:=λo a w c z=>g7 (t:=24) (5+20*k+2) k_ c gx gx o_);refine n_ ?_ (y:=λo a w c z=>(aO bH c gx (kP s.1 l z.b (5+20*k+2) o_)).1)
  iterate 2 refine u_ ?_
  refine n_ ?_ (y:=λo a w c z=>cJ (n:=3) c gx rfl o_);refine n_ ?_ (y:=λo a w c z=>g7 (t:=24) (5+20*k+3) k_ c gx gx o_);refine n_ ?_ (y:=λo a w c z=>(aO bH c gx (kP s.1 l z.b (5+20*k+3) o_)).1);refine p_ lf128 (λE hC _=>(yO (W.getD (5+20*k+2) 0) (W.getD (5+20*k+3) 0) E).mono λe D ⟨N,M⟩=>⟨N,M▸bR⟩) ?_;refine u_ ?_;rw[I];refine q_ λa Q b O _=> ?_;have X:=Y.below O;have er:qn W k=(decide (x≥0)&&decide (y≥0)):=by unfold qn;rw[J,I]
  have C:qm W k=((x==1)&&(y==0)):=by unfold qm;rw[J,I]
  have next:∀{a:Act},Has [(6, .bool (ok0&&(ar7 (k+1)).all (qn W))),(9, .i x),(10, .i y),(0, .slice (some ⟨g,off,none⟩) 85 cap),(2, .pt b2),(5, .pt b5),(7, .i k),(8, .i ((5+20*k:Nat):Int))] 142 [] a->Rn lT Goal ((base 101).atR a [.code (.seq (rG f101 13) (.seq (rG f101 14) (.seq (.seq (rG f101 15) (.block 2 (.loop (M5 f101)))) (rG f101 20)))), .inBlock 1, .code (rG f101 8), .inLoop (M6 f101), .inBlock 0, .code (M1 f101)]) cs Q:=λ{a} b=>by
   refine Rn.uc b λa b=> ?_;refine Rn.vv b (λo c=>(aO jc c (b.G 106) ((aH X.c5 1).trans rfl)).1) λa b=> ?_
   iterate 3 refine Rn.uc b λa b=> ?_
   have r:∀{a:Act},Has [(113, .bool (qm W k)),(107,h),(6, .bool (ok0&&(ar7 (k+1)).all (qn W))),(0, .slice (some ⟨g,off,none⟩) 85 cap),(2, .pt b2),(5, .pt b5),(7, .i k),(8, .i ((5+20*k:Nat):Int))] 142 [] a->Rn lT Goal ((base 101).atR a (.inRegion (bP f101 13) [8,9,10,11]::[.code (.seq (rG f101 14) (.seq (.seq (rG f101 15) (.block 2 (.loop (M5 f101)))) (rG f101 20))), .inBlock 1, .code (rG f101 8), .inLoop (M6 f101), .inBlock 0, .code (M1 f101)])) cs Q:=λ{a} b=>by
    refine Rn.al b (λo c=>Sq c (b.G 113)) λw3 a b3 c3 z3 b=> ?_;have R3:=X.below b3;refine Rn.ve b (λo i=>R3.use (by simp;omega) c3 (b.G 107) (b.G 114) o i) λv4 Z ⟨⟨H,G,e4⟩,k4,A⟩ a b=> ?_;subst e4;refine Rn.uc b λa b=> ?_;refine Rn.nn b (λo c=>fe rfl rfl k_ c (b.G 116) (b.G 115) k4 (d_:1<4)) λa b=> ?_;rw[show(eR st le h d).setIfInBounds 1 (.slice H (((ar7 k).map (qm W)).length+1) G)=eR st le (.slice H (((ar7 k).map (qm W)).length+1) G) d from rfl];rw[show(ar7 k).map (qm W)++[qm W k]=(ar7 (k+1)).map (qm W)from by rw[av2,Q4];rfl]at A;revert A;generalize aK2 H (((ar7 k).map (qm W)).length+1) G=f;generalize gK Z b5 (eR st le f d) 45=P;intro A
    iterate 2 refine Rn.uc b λa b=> ?_
    refine Rn.p rfl (Rn.p rfl (Rn.p rfl ?_));have F:P.rangeAt g off (W.map (Value.int .i64)):=λj v q=>bM A.old (K j v q);refine PG s F L (λa w6 hh eh b6 b=> ?_) 16 0 P _ rfl o_ (bR) b.O;have V:=A.below b6;refine Rn.uc b λa b=> ?_;refine Rn.vv b (λo c=>(aO jb c (b.G 132) ((aH V.c5 3).trans rfl)).1) λa b=> ?_;refine Rn.uc b λa b=> ?_;refine Rn.al b (λo c=>YZ c (b.G 134)) λw7 a b7 c7 z7 b=> ?_;have R7:=V.below b7;refine Rn.ve b (λo i=>R7.hash (by simp;omega) c7 (b.G 133) (b.G 135) o i) λv8 w8 ⟨⟨S,R,e8⟩,k8,U⟩ a b=> ?_;subst e8;refine Rn.uc b λa b=> ?_;refine Rn.nn b (λo c=>fe rfl rfl k_ c (b.G 137) (b.G 136) k8 (d_:3<4)) λa b=> ?_;rw[show(eR st le f d).setIfInBounds 3 (.slice S (((ar7 k).map λk=>(⟨(ey ((jq W k).drop 4)).toArray⟩:ByteArray)).length+1) R)=eR st le f (.slice S (((ar7 k).map λk=>(⟨(ey ((jq W k).drop 4)).toArray⟩:ByteArray)).length+1) R)from rfl];rw[eh,show((ar7 k).map λk=>(⟨(ey ((jq W k).drop 4)).toArray⟩:ByteArray))++[⟨(ey ((jq W k).drop 4)).toArray⟩]=(ar7 (k+1)).map λk=>(⟨(ey ((jq W k).drop 4)).toArray⟩:ByteArray)from by rw[av2,Q4];rfl]at U;refine Rn.uc b λa b=> ?_;refine Rn.vv b (λo c=>cJ (n:=1) c (b.G 71) rfl o_) λa b=> ?_;refine Rn.uc b λa b=> ?_;exact Rn.p rfl (Rn.p rfl (ih (k+1) _ _ _ _ o_ o_ U b.O))
   by_cases T:x=1
   .rw[show(x==1)=true from by simpa using T]at b C
    iterate 2 refine Rn.uc b λa b=> ?_
    refine Rn.vv b (λo c=>oJ c (b.G 110) (b.G 112)) λa b=> ?_;rw[show(y==0)=qm W k from by rw[C];rfl]at b;exact r b.O
   .rw[show(x==1)=false from by simpa using T]at b C
    iterate 2 refine Rn.us b λa b=> ?_
    refine Rn.vv b (λo c=>mO c (b.G 110) rfl) λa b=> ?_;rw[show false=qm W k from by rw[C];rfl]at b;exact r b.O
  have ek:(ok0&&(ar7 (k+1)).all (qn W))=(((ok0&&(ar7 k).all (qn W))&&decide (x≥0))&&decide (y≥0)):=by grind
  rw[ek]at next
  generalize (ok0&&(ar7 k).all (qn W))=ok at b next
  iterate 2 refine Rn.uc b λa b=> ?_
  cases ok with
  |true=>
   iterate 2 refine Rn.uc b λa b=> ?_
   refine Rn.vv b (λo c=>oJ c (b.G 98) (b.G 100)) λa b=> ?_;refine Rn.uc b λa b=> ?_;generalize decide (x≥0)=u at b next
   cases u with
   |true=>
    iterate 2 refine Rn.uc b λa b=> ?_
    refine Rn.vv b (λo c=>oJ c (b.G 102) (b.G 104)) λa b=> ?_;refine Rn.uc b λa b=> ?_;exact Rn.p rfl (next b.O)
   |false=>
    iterate 2 refine Rn.us b λa b=> ?_
    refine Rn.vv b (λo c=>mO c (b.G 102) rfl) λa b=> ?_;refine Rn.uc b λa b=> ?_;exact Rn.p rfl (next b.O)
  |false=>
   iterate 2 refine Rn.us b λa b=> ?_
   refine Rn.vv b (λo c=>mO c (b.G 98) rfl) λa b=> ?_;refine Rn.uc b λa b=> ?_
   iterate 2 refine Rn.us b λa b=> ?_
   refine Rn.vv b (λo c=>mO c (b.G 102) rfl) λa b=> ?_;refine Rn.uc b λa b=> ?_;exact Rn.p rfl (next b.O)
end
def tr{base}{e}{xs}(h:w.ownsRow base e 1 v n xs):fm w v xs:=by
 have c:xs.length=n:=by have:=h.1;omega
 obtain⟨rfl,rfl⟩|⟨g,b,j,rfl,_,f,_,_,_,d⟩:=h.2
 .refine⟨none,0,by rw[c],λi u a=> ?_⟩;simp_all
 .refine⟨some ⟨g,0,none⟩,b,by rw[c],λi u a=>⟨_,rfl, ?_⟩⟩;have k:=(as4.1 a).1;rw[AS,as5,aH f]
  grind
def WS(W:List Int)(w:World)(v:Value)(w':World):Prop:=∃st le c pu lu qu ph lh qh us hs,v= .tuple #[.agg (eR st le (.slice pu lu qu) (.slice ph lh qh)), .int .i64 c]/\UW W st le c us hs/\Bw w w'/\w'.ownsRow w.heap.size 4 1 (.slice pu lu qu) us.length (us.map Value.bool)/\w'.ownsRow w.heap.size 9 1 (.slice ph lh qh) hs.length (hs.map Value.string)
def Ja{W:List Int}{g off cap:Nat}(f:g6 W)(p:w.rangeAt g off (W.map (Value.int .i64))):Calls lT 101 #[.slice (some ⟨g,off,none⟩) 85 cap] w λe w'=>∃v,e= .returned v/\WS W w v w':=by
 refine kj (t:=2) (u:=3) (ty:=45) (n:=4) lf101 rfl (by rw[bQ];exact underlying45) rfl Fh λL=>Rn.ent (N:=142) lf101 TT λa b=> ?_;refine Rn.al b (λo d=>zk d) λx a h A C b=> ?_;have i:x.rangeAt g off (W.map (Value.int .i64)):=λj v k=>bM h (p j v k)
 iterate 2 refine Rn.uc b λa b=> ?_
 refine Rn.cw b lf75 (Lz f i) λw' z a b=> ?_;rw[z]
 iterate 3 refine Rn.uc b λa b=> ?_
 refine Rn.p rfl (Rn.cond _ (b.G 17) ?_)
 iterate 2 refine Rn.p rfl ?_
 refine WI f i b.O λa s b5 b2 K r b=> ?_;have y:s.rangeAt g off (W.map (Value.int .i64)):=λj v k=>bM b2 (i j v k);refine Rn.p rfl ?_;refine WH f y r b λa m l b=> ?_;have B:Bw w m:=aD (aD h h.size b2) (as8 h.size b2.size) l;refine Rn.uc b λa b=> ?_;rw[show(DT W&&decide (0<=lF (sZ W)))=((DT W&&decide (0<=lF (sZ W)))&&(ar7 0).all (qn W))from(Bool.and_true _).symm]at b;refine Rn.p rfl (Rn.p rfl (Rn.p rfl ?_));refine LD (w0:=w) (b2:=w.heap.size) (b5:=b5) (st:=W.getD 0 0) (le:=lF (sZ W)) (ok0:=DT W&&decide (0<=lF (sZ W))) f p (λa D E F c b=> ?_) 4 0 m _ (.slice none 0 0) (.slice none 0 0) rfl o_ ⟨B,o_,o_,o_,bk l (bk b2 A),bk l r,⟨rfl, .inl ⟨rfl,rfl⟩⟩,rfl, .inl ⟨rfl,rfl⟩⟩ b.O;obtain⟨I,G,rfl⟩:=pg c.ou;obtain⟨J,H,rfl⟩:=pg c.oh;refine Rn.uc b λa b=> ?_;rw[←Pb f]at b;refine Rn.uc b λa b=> ?_;refine Rn.p rfl (Rn.cond _ (b.G 139) ?_);cases q:r9 W with
 |true=>
  refine Rn.vv b (λo d=>oZ d (b.G 5) c.c5) λa b=> ?_;refine Rn.nn b (λo d=>qx d (b.G 2) (b.G 141) c.c2 rfl) λa b=> ?_;refine Rn.uc b λa b=> ?_;exact Rn.runs 6 _ (Rn.ends rfl (.inr ⟨_,rfl⟩) (Rn.now ⟨_,_,w.heap.size,_,_,_,rfl,b.defers,b.slot 2 _ rfl,bZ c.c2,rfl,b.slot 3 _ rfl,_,rfl,_,_,_,_,_,_,_,_,_,_,_,rfl,Su f q,c.old.trans (dK (ar5 _)),gp c.ou c.c2 d_,gp c.oh c.c2 d_⟩))
 |false=>
  refine Rn.vv b (λo d=>Si d) λa b=> ?_;refine Rn.nn b (λo d=>qx d (b.G 2) (b.G 140) c.c2 rfl) λa b=> ?_;refine Rn.uc b λa b=> ?_;exact Rn.runs 6 _ (Rn.ends rfl (.inr ⟨_,rfl⟩) (Rn.now ⟨_,_,w.heap.size,_,_,_,rfl,b.defers,b.slot 2 _ rfl,bZ c.c2,rfl,b.slot 3 _ rfl,_,rfl,0,0,1,none,0,0,none,0,0,[],[],rfl, .inr ⟨q,rfl⟩,c.old.trans (dK (ar5 _)),⟨rfl, .inl ⟨rfl,rfl⟩⟩,rfl, .inl ⟨rfl,rfl⟩⟩))
def WX(K:List Int):Prop:=K.length=16/\∀i (h:i<K.length),0<=K[i]/\K[i]<256
def EG(K:List Int)(n:Int):List Int:=(K.set (1+(K.getD 0 0).toNat%15) (ZH.wrap n)).set 0 (ZH.wrap (K.getD 0 0+1))
def uJ(K ns:List Int):List Int:=ns.foldl EG K
def SH{K}(h:WX K)(n):WX (EG K n):=by
 refine⟨by simpa[EG]using h.1,λi b=> ?_⟩;have a:i<K.length:=by simpa[EG]using b
 simp[EG,List.getElem_set];split
 .rw[aA0];omega
 .split
  .rw[aA0];omega
  .exact h.2 i a
def nF(w:World)(cb:Nat)(fl:Value)(W K:List Int)(on:Bool)(sl:Int):Prop:=W.length=85/\WX K/\w.heap[cb]?=some (.cells (qj fl W K on sl) 149)
section
variable{cb:Nat}{fl:Value}{W K:List Int}{on:Bool}{sl:Int}{X:Nat->Prop}
def nF.to(h:nF w cb fl W K on sl):NM w cb fl W on sl:=⟨h.1,K,h.2.1.1,h.2.1.2,h.2.2⟩
def nF.ex(h:nF w cb fl W K on sl)(a:Ex X w w')(b:¬X cb):nF w' cb fl W K on sl:=⟨h.1,h.2.1,a.at b h.2.2⟩
def nF.lt(h:nF w cb fl W K on sl):cb<w.heap.size:=aK h.2.2
def Gi(h:nF w cb fl W K on sl):Calls lT 99 #[.pk cb 0] w λe w'=>e= .returned (.tuple #[])/\nF w' cb fl W K false 0/\Ex (· =cb) w w'/\w'.heap.size=w.heap.size:=by
 have⟨c,d,f⟩:=h;refine gW lf99 rfl λi=>Rn.ent lf99 TK λa b=> ?_
 iterate 4 refine Rn.uc b λa b=> ?_
 refine Rn.nn b (λo g=>Gk g (b.G 5) (b.G 3) f (vK c d.1)) λa b=> ?_;rw[I0 c d.1];exact Rn.g0 b ⟨rfl,⟨c,d,bZ f⟩,dn ..,dE⟩
def Wr(n)(h:nF w cb fl W K on sl):Calls lT 182 #[.pk cb 0, .i n] w λe w'=>e= .returned (.tuple #[])/\nF w' cb fl W K true n/\Ex (· =cb) w w'/\w'.heap.size=w.heap.size:=by
 have⟨c,d,f⟩:=h;refine gW lf182 rfl λi=>Rn.ent lf182 U1 λa b=> ?_
 iterate 5 refine Rn.uc b λa b=> ?_
 refine Rn.nn b (λo g=>Gk g (b.G 8) (b.G 6) f (vK c d.1)) λa b=> ?_;rw[I0 c d.1];exact Rn.g0 b ⟨rfl,⟨c,d,bZ f⟩,dn ..,dE⟩
def Wx(n)(h:nF w cb fl W K on sl):Calls lT 175 #[.pk cb 0, .int .u8 (ZH.wrap n)] w λe w'=>e= .returned (.tuple #[])/\nF w' cb fl W (EG K n) on sl/\Ex (· =cb) w w'/\w'.heap.size=w.heap.size:=by
 have⟨f,l,i⟩:=h;have q:=l.2;have p:=l.1;refine gW lf175 rfl λcs=>Rn.ent lf175 U8 λa b=> ?_;obtain⟨c,g,x⟩:∃c:Nat,K[0]=(c:Int)/\c<256:=⟨(K[0]).toNat,by grind,by simp_all⟩;have u:K.getD 0 0=(c:Int):=by simp_all
 have r:=WL (fl:=fl) (on:=on) (sl:=sl) f 0 (o_:0<K.length);rw[g]at r;have j:1+c%15<16:=o_
 have s:ZH.wrap (1+((c%15:Nat):Int))=((1+c%15:Nat):Int):=by rw[aA0];omega
 iterate 4 refine Rn.uc b λa b=> ?_
 refine Rn.vv b (λo d=>(aO ED d (b.G 8) ((aH i _).trans r)).1) λa b=> ?_
 iterate 3 refine Rn.uc b λa b=> ?_
 refine Rn.vv b (λo d=>OA (n:=15) d (b.G 11) rfl o_) λa b=> ?_;refine Rn.vv b (λo d=>GB d rfl (b.G 12)) λa b=> ?_;rw[s]at b
 iterate 3 refine Rn.uc b λa b=> ?_
 refine Rn.vv b (λo d=>VW j d (b.G 16) (b.G 13)) λa b=> ?_;refine Rn.nn b (λo d=>fe rfl rfl k_ d (b.G 17) (b.G 14) i (by rw[vK f p];omega)) λa b=> ?_;rw[HY f _ o_]
 iterate 2 refine Rn.uc b λa b=> ?_
 refine Rn.vv b (λo d=>GB d (b.G 19) rfl) λa b=> ?_
 iterate 3 refine Rn.uc b λa b=> ?_
 refine Rn.nn b (λo d=>fe rfl rfl k_ d (b.G 23) (b.G 20) (bZ (cs:=qj fl W (K.set (1+c%15) (ZH.wrap n)) on sl) (t:=149) i) (by rw[vK f (by simpa using p)];omega)) λa b=> ?_;rw[show(86:Nat)=86+0 from rfl,HY f _ (by simp;omega),GF];have y:EG K n=(K.set (1+c%15) (ZH.wrap n)).set 0 (ZH.wrap (c+1)):=by unfold EG;simp_all
 rw[←y];exact Rn.g0 b ⟨rfl,⟨f,SH l n,bZ i⟩,dn ..,dE⟩
def DO(cb rb:Nat)(fl:Value)(W K:List Int)(w:World)(e:Ending)(w':World):Prop:=∃(v:Value) (on:Bool) (sl room:Int),e= .panicked [{v:=v,recovered:=false}]/\nF w' cb fl W K on sl/\w'.heap[rb]?=some (.cells (pU cb room true) 151)/\Ex (XR cb rb) w w'
def DO.from{a}{e}(b:Ex (XR cb a) w0 w)(h:DO cb a fl W K w e w'):DO cb a fl W K w0 e w':=let ⟨v,on,sl,room,h1,h2,h3,h4⟩:=h;⟨v,on,sl,room,h1,h2,h3,b.trans h4 s_⟩
def NC(cb rb:Nat)(fl:Value)(W K:List Int)(room:Int)(v0:Value)(K':List Int)(on:Bool)(sl:Int)(w:World)(e:Ending)(w':World):Prop:=(∃v,e= .returned v/\(v=v0/\0<room/\nF w' cb fl W K' on sl/\w'.heap[rb]?=some (.cells (pU cb (room- 1) false) 151)/\Ex (XR cb rb) w w'))\/∃ch,e= .panicked ch/\(room<=0/\DO cb rb fl W K w (.panicked ch) w')
variable{rb:Nat}{room:Int}
def GQ(n)(p:room<9223372036854775808)(h:nF w cb fl W K on sl)(k:w.heap[rb]?=some (.cells (pU cb room false) 151)):Calls lT 157 #[.pk rb 0, .i n] w (NC cb rb fl W K room (.tuple #[]) (EG K n) on sl w):=by
 have i:=FK h.to k;by_cases q:0<room
 .refine gW lf157 rfl λcs=>Rn.ent lf157 MU λa c=> ?_
  iterate 5 refine Rn.uc c λa c=> ?_
  refine Rn.p rfl (Rn.cond _ (c.G 8) ?_);rw[decide_eq_false (o_:¬room<=0)]
  iterate 7 refine Rn.uc c λa c=> ?_
  refine Rn.nn c (λo g=>fe rfl rfl k_ g (c.G 19) (c.G 17) k (d_:1<3)) λa c=> ?_;rw[show(pU cb room false).setIfInBounds 1 (.i (room- 1))=pU cb (room- 1) false from rfl];have j:=bZ (cs:=pU cb (room- 1) false) (t:=151) k;have f:=dn (w:=w) rb (pU cb (room- 1) false) 151;have l:=h.ex f i;revert j f l;generalize gK w rb (pU cb (room- 1) false) 151=x;intro j f l
  iterate 5 refine Rn.uc c λa c=> ?_
  refine Rn.vv c (λo g=>wF g (c.G 24)) λa c=> ?_;refine Rn.cw c lf175 (Wx n l) λu ⟨r,m,s⟩ a c=> ?_;exact Rn.g0 c (.inl ⟨_,rfl,rfl,q,r,m.at (Ne.symm i) j,Ex.trans (Ex.wide f λ_ _ e=> .inr e) m λb _ e=> .inl e⟩)
 .refine Qo lf157 λcs=>Rn.ent lf157 MU λa c=> ?_
  iterate 5 refine Rn.uc c λa c=> ?_
  refine Rn.p rfl (Rn.cond _ (c.G 8) ?_);rw[decide_eq_true (o_:room<=0)]
  iterate 3 refine Rn.uc c λa c=> ?_
  refine Rn.nn c (λo g=>fe (v:= .bool true) rfl rfl k_ g (c.G 11) rfl k (d_:2<3)) λa c=> ?_;rw[show(pU cb room false).setIfInBounds 2 (.bool true)=pU cb room true from rfl];have f:=dn (w:=w) rb (pU cb room true) 151;refine Rn.vv c (λo g=>YA g rfl) λa c=> ?_;refine Rn.gr (Rn.pan c rfl rfl rfl rfl (Rn.now ⟨a,_,_,rfl,c.defers, .inr ⟨_,rfl,o_,_,on,sl,room,rfl,h.ex f i,bZ k,Ex.wide f λ_ _ e=> .inr e⟩⟩))
def Lc(n c)(j:room<9223372036854775808)(h:nF w cb fl W K on sl)(l:w.heap[rb]?=some (.cells (pU cb room false) 151)):Calls lT 159 #[.pk rb 0, .i n, .i c] w (NC cb rb fl W K room (.agg (d8 0 false 0 0 c)) (EG K n) on sl w):=by
 refine xy lf159 rfl (by rw[bQ];exact underlying100) rfl ka λG=>Rn.ent lf159 MR λa d=> ?_;refine Rn.al d (λo f=>jN f) λD a g B C d=> ?_;have F:=h.lt;have y:=aK l
 iterate 2 refine Rn.uc d λa d=> ?_
 refine Rn.cx d lf157 (GQ n j (h.ex (Ex.of_below (X:=λ_=>False) g) (λe=>e)) (bk g l)) (λv s u a d=> ?_) λq E p=>Rn.now (.inr ⟨a,_,q,rfl,d.defers, .inr ⟨q,rfl,p.1,p.2.from (Ex.of_below g)⟩⟩);obtain⟨rfl,x,z,k,m⟩:=u;have r:=m.at (by rintro(e|e)<;>omega) B;refine Rn.uc d λa d=> ?_;refine Rn.vv d (λo f=>vF f (d.G 10)) λa d=> ?_;refine Rn.nn d (λo f=>gn f (d.G 6) (d.G 11) r rfl) λa d=> ?_;have i:=dn (w:=s) w.heap.size (d8 0 false 0 0 c) 100;refine Rn.runs 6 _ (Rn.ends rfl (.inr ⟨_,rfl⟩) (Rn.now (.inl ⟨_,_,w.heap.size,_,_,rfl,d.defers,d.slot 6 _ rfl,bZ r,rfl, .inl ⟨_,rfl,rfl,x,z.ex i o_,i.at o_ k, ?_⟩⟩)));exact((Ex.of_below g).trans m s_).trans i o_
def Wy(n c)(l:room<9223372036854775808)(h:nF w cb fl W K on sl)(i:w.heap[rb]?=some (.cells (pU cb room false) 151)):Calls lT 161 #[.pk rb 0, .i n, .i c] w (NC cb rb fl W K room (.agg (d8 0 true n c 0)) (EG K 9) true n w):=by
 refine xy lf161 rfl (by rw[bQ];exact underlying100) rfl ka λQ=>Rn.ent lf161 MW λa d=> ?_;refine Rn.al d (λo f=>jN f) λM a j H J d=> ?_;have P:=h.lt;have C:=aK i;have m:=FK h.to i;have F:=h.ex (Ex.of_below (X:=λ_=>False) j) (λe=>e);have r:=bk j i
 iterate 5 refine Rn.uc d λa d=> ?_
 refine Rn.cw d lf182 (Wr n F) λL ⟨E,g,I⟩ a d=> ?_;have q:=g.at o_ r;have G:=g.at o_ H;refine Rn.uc d λa d=> ?_;refine Rn.cx d lf157 (GQ 9 l E q) (λv z A a d=> ?_) λx O u=>Rn.now (.inr ⟨a,_,x,rfl,d.defers, .inr ⟨x,rfl,u.1,u.2.from ((Ex.of_below j).trans g λb _ e=> .inl e)⟩⟩);obtain⟨rfl,B,D,p,s⟩:=A;have y:=s.at (by rintro(e|e)<;>omega) G
 iterate 2 refine Rn.uc d λa d=> ?_
 refine Rn.vv d (λo f=>Gr f rfl (d.G 15) (d.G 16)) λa d=> ?_;refine Rn.nn d (λo f=>gn f (d.G 6) (d.G 17) y rfl) λa d=> ?_;have k:=dn (w:=z) w.heap.size (d8 0 true n c 0) 100;refine Rn.runs 6 _ (Rn.ends rfl (.inr ⟨_,rfl⟩) (Rn.now (.inl ⟨_,_,w.heap.size,_,_,rfl,d.defers,d.slot 6 _ rfl,bZ y,rfl, .inl ⟨_,rfl,rfl,B,D.ex k o_,k.at o_ p, ?_⟩⟩)));exact(((Ex.of_below j).trans g λb _ e=> .inl e).trans s λb _ e=>e).trans k o_
end
def Uc:f105.body=some (.seq (rG f105 0) (.seq (.seq (rG f105 1) (.cond (.tmp 4) (.seq (rG f105 2) .ret) .skip)) (.seq (rG f105 3) .ret))):=k_
def Ua:f84.body=some (.seq (rG f84 0) (.seq (rG f84 1) .ret)):=k_
def TG:f85.body=some (.seq (rG f85 0) (.seq (rG f85 1) .ret)):=k_
def Qt:f59.body=some (.seq (rG f59 0) (.seq (rG f59 1) .ret)):=k_
def Qr:f60.body=some (.seq (rG f60 0) (.seq (rG f60 1) .ret)):=k_
def U6:f86.body=some (.seq (rG f86 0) (.seq (rG f86 1) .ret)):=k_
def Qs:f63.body=some (.seq (rG f63 0) (.seq (rG f63 1) .ret)):=k_
def UZ(W:List Int)(w:World)(e:Ending)(w':World):Prop:=∃v,e= .returned v/\(w'.ownsRow w.heap.size 3 1 v 85 (bS W)/\Bw w w')
section
variable{cb lb:Nat}{fl:Value}{W K:List Int}{on:Bool}{sl:Int}{L:ByteArray}
def FH{g off}(l:W.length=85)(k:w.rangeAt g off (W.map (Value.int .i64))):Calls lT 105 #[.slice (some ⟨g,off,none⟩) 85 85] w (UZ W w):=by
 refine eK lf105 Uc λv a b=> ?_
 iterate 2 refine Rn.uc b λa b=> ?_
 refine Rn.vv b (λo c=>OX c (b.G 3) rfl) λa b=> ?_;refine Rn.p rfl (Rn.cond _ (b.G 4) ?_);refine Rn.al b (λo c=>Sr c) λh a f n q b=> ?_;have c:h.ownsRow w.heap.size 3 1 (.sk w.heap.size 0 0) 0 []:=⟨rfl, .inr ⟨w.heap.size,0,_,rfl,o_,n,o_,o_,rfl,rfl⟩⟩;refine Rn.uc b λa b=> ?_;refine Rn.ve b (λo d=>tO (z:= .i 0) (bytes:=8) (m:=85) k_ k_ rfl c (λj u i=>by rw[AS];exact bM f (k j u i)) (tG W) (by simp[bS,l]) (b.G 5) (b.G 6) (by unfold maxLen;omega) o_ f.size o d) λs r ⟨e,p,_⟩ a b=> ?_;refine Rn.uc b λa b=> ?_;exact Rn.fi b ⟨_,rfl,e,f.trans p⟩
def RG(h:nF w cb fl W K on sl):Calls lT 85 #[.pk cb 0] w (UZ W w):=by
 refine eK lf85 TG λf a b=> ?_
 iterate 4 refine Rn.uc b λa b=> ?_
 refine Rn.vv b (λo d=>N2 d (b.G 5)) λa b=> ?_;refine Rn.cl b lf105 (FH h.1 (De h.to)) λv e c a b=> ?_;refine Rn.uc b λa b=> ?_;exact Rn.fi b ⟨_,rfl,c⟩
def RV(K:List Int):ByteArray:=⟨(K.map λx=>ZJ x.toNat).toArray⟩
def Ww(h:nF w cb fl W K on sl):Calls lT 86 #[.pk cb 0] w λe w'=>e= .returned (.s (RV K))/\w'=w:=by
 have⟨l,f,k⟩:=h;refine eK lf86 U6 λm a b=> ?_
 iterate 4 refine Rn.uc b λa b=> ?_
 refine Rn.vv b (λo d=>OY d (b.G 5)) λa b=> ?_;have g:(K.map λx=>ZJ x.toNat).length=16:=by simpa using f.1
 rw[show aK2 (some ⟨cb,86,none⟩) 16 16= .slice (some ⟨cb,86,none⟩) (K.map λx=>ZJ x.toNat).length 16 from by rw[g]]at b;refine Rn.vv b (λo d=>rW d (b.G 6) λj i=> ?_) λa b=> ?_
 .have c:j<K.length:=by simpa using i
  rw[aH k,WL l j c,az0];have:=f.2 j c
  congr 2
  rw[aM0];omega
 refine Rn.uc b λa b=> ?_;exact Rn.fi b ⟨rfl,rfl⟩
variable(hlb:w.heap[lb]?=some (.cells #[.pk cb 0] 127))
include hlb
def Gg(h:nF w cb fl W K on sl):Calls lT 60 #[.pk lb 0] w (UZ W w):=by
 refine eK lf60 Qr λe a b=> ?_
 iterate 5 refine Rn.uc b λa b=> ?_
 refine Rn.cl b lf85 (RG h) λv d c a b=> ?_;refine Rn.uc b λa b=> ?_;exact Rn.fi b ⟨_,rfl,c⟩
def Ta(h:nF w cb fl W K on sl):Calls lT 63 #[.pk lb 0] w λe w'=>e= .returned (.s (RV K))/\w'=w:=by
 refine eK lf63 Qs λf a b=> ?_
 iterate 5 refine Rn.uc b λa b=> ?_
 refine Rn.cw b lf86 (Ww h) λd c a b=> ?_;refine Rn.uc b λa b=> ?_;exact Rn.fi b ⟨rfl,c⟩
end
def qP(w:World)(fl:Value)(L:ByteArray):Prop:=L.size<4611686018427387904/\∃fb cap cells fr,fl= .sk fb L.size cap/\L.size<=cap/\w.heap[fb]?=some (.cells cells 5 fr)/\L.size<=fr.1/\∀j (h:j<L.data.toList.length),cells[j]?=some (.int .u8 (L.data.toList[j].toNat:Int))
def qP.keep{fl}{L}{X}(h:qP w fl L)(e:Ex X w w')(f:∀b cs fr,w.heap[b]?=some (.cells cs 5 fr)->¬X b):qP w' fl L:=by have⟨k,l,c,a,fr,j,i,d,g⟩:=h;exact⟨k,l,c,a,fr,j,i,e.at (f _ _ _ d) d,g⟩
section
variable{y z:Operand}
def Gy{g d cap}(b:o.op= .slice 83 x (some y) (some z) none)(i:ev x= .sk g d cap)(f:ev y= .i n)(e:ev z= .i n)(h:n<=cap):∃k c,(execOp ev o).run lT w= .ok (.value (.slice (some ⟨g,k,none⟩) 0 c)) w:=by
 have j:lT.underlying 83=some (.slice 5):=k_
 have a:(sizeOf 5).run lT w= .ok 1 w:=k_
 have m:(⟨g,0,none⟩:Addr).add n=⟨g,n,none⟩:=by rw[AS,as5]
 by_cases l:cap=n
 .exact⟨0,0,by simp[execOp,b,i,f,e,Mv,YT,Ng,run_underlying j,Tv,asIntOf,a,l]⟩
 .exact⟨n,cap- n,by simp[execOp,b,i,f,e,Mv,YT,Ng,run_underlying j,Tv,asIntOf,h,a,l,m]⟩
end
section
variable{cb rb:Nat}{fl:Value}{W K:List Int}{on:Bool}{sl room:Int}
def TC{L:ByteArray}(k:Nat)(H:k<2)(h:nF w cb fl W K on sl)(z:qP w fl L):Calls lT 160 #[.pk cb 0, .i k] w λe w'=>e= .returned (.s (L.extract (k*8192) (k*8192+8192)))/\w'=w:=by
 obtain⟨B,t,cap,d,O,rfl,s,p,_,q⟩:=z;obtain⟨J,M,I⟩:=h;refine eK (N:=31) lf160 Uf λP a b=> ?_
 iterate 2 refine Rn.uc b λa b=> ?_
 refine Rn.vv b (λo c=>rY (n:=8192) c (b.G 7) rfl o_) λa b=> ?_
 iterate 5 refine Rn.uc b λa b=> ?_
 refine Rn.vv b (λo c=>Eh (n:=L.size) c (b.G 8) (b.G 13)) λa b=> ?_
 iterate 2 refine Rn.uc b λa b=> ?_
 refine Rn.vv b (λo c=>cJ (n:=8192) c (b.G 15) rfl o_) λa b=> ?_
 iterate 5 refine Rn.uc b λa b=> ?_
 refine Rn.vv b (λo c=>Eh (n:=L.size) c (b.G 16) (b.G 21)) λa b=> ?_;have A:L.data.toList.length=L.size:=by simp_all
 have f:L.extract (k*8192) (k*8192+8192)=⟨(cq L.data.toList (min (k*8192) L.size) (min (min (k*8192) L.size+8192) L.size)).toArray⟩:=by
  rw[Yo]
  congr 2
  unfold cq;by_cases D:L.size<=k*8192
  .rw[aI_ D,ZS (by grind),ZS (by simp_all)]
  grind
 rw[f];generalize G:min (k*8192) L.size=m at b;generalize F:min (m+8192) L.size=n at b
 iterate 7 refine Rn.uc b λa b=> ?_
 have y:(cq L.data.toList m n).length=n- m:=jH _ _ _ o_;by_cases l:m=n
 .subst l;have E:cq L.data.toList m m=[]:=aD0 o_;refine Rn.ve (R:=λv w'=>w'=w/\∃i g,v= .slice (some ⟨t,i,none⟩) ([]:List UInt8).length g) b (λo c=>by
   obtain xQ:=Gy (w:=w) (cap:=cap) c (b.G 26) (b.G 27) (b.G 28) o_
   grind) λv w' u a b=> ?_
  obtain⟨rfl,i,g,rfl⟩:=u;refine Rn.vv b (λo c=>rW c (b.G 29) s_) λa b=> ?_;rw[E];refine Rn.uc b λa b=> ?_;exact Rn.fi b ⟨rfl,rfl⟩
 .refine Rn.vv b (λo c=>N3 c (b.G 26) (b.G 27) (b.G 28) o_ o_) λa b=> ?_;rw[←y]at b;refine Rn.vv b (λo c=>rW c (b.G 29) λj r=> ?_) λa b=> ?_
  .have e:(cq L.data.toList m n)[j]=L.data.toList[m+j]' o_:=(by simp[cq]);rw[e,show w.cell? ⟨t,m+j,none⟩=d[m+j]? from by simp[AT,p]]
   grind
  refine Rn.uc b λa b=> ?_;exact Rn.fi b ⟨rfl,rfl⟩
def Z1{L}(h:nF w cb fl W K on sl)(n:qP w fl L):Calls lT 84 #[.pk cb 0] w λe w'=>e= .returned (.s L)/\w'=w:=by
 obtain⟨_,i,d,c,s,rfl,k,f,_,g⟩:=n;have⟨q,r,p⟩:=h;refine eK lf84 Ua λt a b=> ?_
 iterate 5 refine Rn.uc b λa b=> ?_
 rw[show Value.sk i L.size d= .sk i L.data.toList.length d from by simp_all]at b;refine Rn.vv b (λo l=>Ef l (b.G 6) λj m=> ?_) λa b=> ?_
 .rw[show w.cell? ⟨i,j,none⟩=c[j]? from by simp[AT,f]];exact g j m
 refine Rn.uc b λa b=> ?_;exact Rn.fi b ⟨rfl,rfl⟩
def PN{L}{c}(f:w.heap[c]?=some (.cells #[.pk cb 0] 127))(h:nF w cb fl W K on sl)(g:qP w fl L):Calls lT 59 #[.pk c 0] w λe w'=>e= .returned (.s L)/\w'=w:=by
 refine eK lf59 Qt λj a b=> ?_
 iterate 5 refine Rn.uc b λa b=> ?_
 refine Rn.cw b lf84 (Z1 h g) λi d a b=> ?_;refine Rn.uc b λa b=> ?_;exact Rn.fi b ⟨rfl,d⟩
end
def iX(KS W:List Int)(L:ByteArray)(ns:List Int)(j:Bool)(s n c:Int):Prop:=∃st le cr us hs,UW W st le cr us hs/\
 ((cr≠0/\ns=[1,2]/\j=false/\s=0/\n=0/\c=1)\/(cr=0/\st≠255/\st≠3855/\ns=[1,3]/\j=false/\s=0/\n=0/\c=2)\/
  (cr=0/\(st=255\/st=3855)/\∃n0 c0,pP KS (L.extract 0 8192) le us hs n0 c0/\((c0=0/\ns=[1,16,9]/\j=true/\s=0/\n=n0/\c=0)\/
    (c0≠0/\∃n1 c1,pP KS (L.extract 8192 16384) le us hs n1 c1/\((c1=0/\ns=[1,16+c0,32,9]/\j=true/\s=1/\n=n1/\c=0)\/(c1≠0/\ns=[1,16+c0,32+c1,4]/\j=false/\s=0/\n=0/\c=max c0 c1))))))
def LB{W}{st le st' le' c'}{f a}{g b}(h:UW W st le c f g)(i:UW W st' le' c' a b):c=c'/\(c=0->st=st'/\le=le'/\f=a/\g=b):=by
 rcases h with⟨e,rfl,rfl,rfl,rfl,rfl⟩|⟨e,rfl⟩<;>obtain⟨d,rfl,rfl,rfl,rfl,rfl⟩|⟨d,rfl⟩:=i
 .simp_all
 .simp_all
 .simp_all
 .omega
def DZ(KS W)(L):∃ns j s n c,iX KS W L ns j s n c:=by
 cases l:r9 W with
 |false=>exact⟨_,_,_,_,_,0,0,1,[],[], .inr ⟨l,rfl⟩, .inl ⟨d_,rfl,rfl,rfl,rfl,rfl⟩⟩
 |true=>
  have b:UW W _ _ _ _ _:= .inl ⟨l,rfl,rfl,rfl,rfl,rfl⟩;by_cases a:W.getD 0 0=255\/W.getD 0 0=3855
  .have⟨f,d,h⟩:=pD KS (L.extract 0 8192) (uG (sZ W)) (E3 W) (Mn W);by_cases g:d=0
   .exact⟨_,_,_,_,_,_,_,_,_,_,b, .inr (.inr ⟨rfl,a,f,d,h, .inl ⟨g,rfl,rfl,rfl,rfl,rfl⟩⟩)⟩
   .have⟨k,i,o⟩:=pD KS (L.extract 8192 16384) (uG (sZ W)) (E3 W) (Mn W);by_cases m:i=0
    .exact⟨_,_,_,_,_,_,_,_,_,_,b, .inr (.inr ⟨rfl,a,f,d,h, .inr ⟨g,k,i,o, .inl ⟨m,rfl,rfl,rfl,rfl,rfl⟩⟩⟩)⟩
    .exact⟨_,_,_,_,_,_,_,_,_,_,b, .inr (.inr ⟨rfl,a,f,d,h, .inr ⟨g,k,i,o, .inr ⟨m,rfl,rfl,rfl,rfl,rfl⟩⟩⟩)⟩
  .exact⟨_,_,_,_,_,_,_,_,_,_,b, .inr (.inl ⟨rfl,o_,o_,rfl,rfl,rfl,rfl,rfl⟩)⟩
structure Nt (ns K0:List Int) (room:Int) (k:Nat) (K:List Int) (r:Int):Prop where
 kept:K=uJ K0 (ns.take k)
 left:r=room- k
 few:k<=room.toNat
section
variable{ns K0 K:List Int}{room r n:Int}
def Nt.start:Nt ns K room 0 K room:=⟨by simp[uJ],o_,o_⟩
def Nt.next(h:Nt ns K0 room k K r)(b:0<r)(a:ns[k]?=some n):Nt ns K0 room (k+1) (EG K n) (r- 1):=by have c:=h.left;refine⟨?_,o_,o_⟩;rw[h.kept,aG9,a];simp[uJ]
def Nt.cut(h:Nt ns K0 room k K r)(c:r<=0)(a:ns[k]?=some n):K=uJ K0 (ns.take room.toNat)/\room<ns.length:=by
 have f:=h.left;have e:=h.few;have d:=(as4.1 a).1;have b:k=room.toNat:=o_
 exact⟨b▸h.kept,o_⟩
def Nt.all(h:Nt ns K0 room k K r)(a:ns.length=k):K=uJ K0 ns/\(ns.length:Int)<=room\/ns=[]:=by
 have b:=h.few;by_cases c:k=0
 .simp_all
 .left;refine⟨?_,o_⟩;rw[h.kept,←a,List.take_length]
end
section
variable{y z u v t:Operand}
def Al(a:o.op= .build 87 #[]):(execOp ev o).run lT w= .ok (.value (.agg fp.toArray)) w:=by simp[execOp,a];kernel_rfl
def YY{a b d e}{k}(f:o.op= .build 87 #[(0,x),(1,y),(2,z),(3,u),(4,v),(5,t)])(n:ev x= .i a)(m:ev y= .i b)(l:ev z= .i c)(j:ev u= .i d)(i:ev v= .i e)(h:ev t= .s k):(execOp ev o).run lT w= .ok (.value (.agg #[.i a, .i b, .i c, .i d, .i e, .s k])) w:=by simp[execOp,f,n,m,l,j,i,h];kernel_rfl
def W0{m}{t}(a:o.op= .binOp .rem 3 x y t)(c:ev x= .i m)(b:ev y= .i 4)(d:0<=m):(execOp ev o).run lT w= .ok (.value (.i (m%4))) w:=by have:m.tmod 4=m%4:=Int.tmod_eq_emod_of_nonneg d;simp[execOp,a,c,b,go_sem,this]
def YX{cs:List Value}{c}(a:o.op= .load 87 x)(d:ev x= .pk b 0)(h:w.heap[b]?=some (.cells cs.toArray c))(f:cs.length=6):(execOp ev o).run lT w= .ok (.value (.agg cs.toArray)) w:=by
 have e:w.rangeAt b 0 cs:=λj v g=>by rw[as5,aH h];simpa using g
 have i:=run_loadVar_mid (P:=aI true tP) w b 0 87 cs _ e (by rw[bQ];exact underlying87) rfl (by rw[Mm,f]);simp[execOp,a,d,as_,VJ,i]
end
def Z4:f41.body=some (.seq (rG f41 0) (.seq (.seq (rG f41 1) (.cond (.tmp 7) (.seq (rG f41 2) .ret) .skip)) (.seq (.seq (rG f41 3) (.cond (.tmp 11) (.seq (rG f41 4) .ret) .skip)) (.seq (rD f41 5) (.seq (.seq (rG f41 6) (.cond (.tmp 48) (.seq (rG f41 7) .ret) .skip)) (.seq (.seq (rG f41 8) (.cond (.tmp 65) (.seq (rG f41 9) .ret) .skip)) (.seq (rG f41 10) .ret))))))):=k_
section
variable{v2:Value}{v sg en at_ l:Int}{k:List UInt8}
def hd6(h4:w.heap[b4]?=some (.cells (rm v sg en at_ l k).toArray 87))(hq: -9223372036854775808<=at_+l/\at_+l<=9223372036854775807)(hF:Has [(2,v2),(4, .pt b4)] 68 [] a)
 (next:∀a,Has [(48, .bool (decide (sg<78\/8192<sg\/at_<sg\/8192<at_+l))),(2,v2),(4, .pt b4)] 68 [] a->Rn lT Goal (fr.atR a K) cs w):Rn lT Goal (fr.atR a (.code (rG f41 6)::K)) cs w:=by
 iterate 4 refine Rn.uu hF λa hF=> ?_
 by_cases c1:sg<78
 .rw[decide_eq_true c1]at hF
  iterate 3 refine Rn.us hF λa hF=> ?_
  refine Rn.vv hF (λo ho=>oJ ho (hF.G 29) rfl) λa hF=> ?_;refine Rn.uu hF λa hF=> ?_
  iterate 5 refine Rn.us hF λa hF=> ?_
  refine Rn.vv hF (λo ho=>oJ ho (hF.G 34) rfl) λa hF=> ?_;refine Rn.uu hF λa hF=> ?_
  iterate 6 refine Rn.us hF λa hF=> ?_
  refine Rn.vv hF (λo ho=>oJ ho (hF.G 41) rfl) λa hF=> ?_;exact Rn.p rfl (next a (hF.only ⟨by show some (Value.bool true)=_;simp[c1],rfl,rfl,trivial⟩))
 rw[decide_eq_false c1]at hF
 iterate 3 refine Rn.uu hF λa hF=> ?_
 by_cases c2:sg>8192
 .rw[decide_eq_true c2]at hF;refine Rn.vv hF (λo ho=>mO ho (hF.G 29) (hF.G 32)) λa hF=> ?_;refine Rn.uu hF λa hF=> ?_
  iterate 5 refine Rn.us hF λa hF=> ?_
  refine Rn.vv hF (λo ho=>oJ ho (hF.G 34) rfl) λa hF=> ?_;refine Rn.uu hF λa hF=> ?_
  iterate 6 refine Rn.us hF λa hF=> ?_
  refine Rn.vv hF (λo ho=>oJ ho (hF.G 41) rfl) λa hF=> ?_;exact Rn.p rfl (next a (hF.only ⟨by show some (Value.bool true)=_;simp_all,rfl,rfl,trivial⟩))
 rw[decide_eq_false c2]at hF;refine Rn.vv hF (λo ho=>mO ho (hF.G 29) (hF.G 32)) λa hF=> ?_
 iterate 6 refine Rn.uu hF λa hF=> ?_
 by_cases c3:at_<sg
 .rw[decide_eq_true c3]at hF;refine Rn.vv hF (λo ho=>mO ho (hF.G 34) (hF.G 39)) λa hF=> ?_;refine Rn.uu hF λa hF=> ?_
  iterate 6 refine Rn.us hF λa hF=> ?_
  refine Rn.vv hF (λo ho=>oJ ho (hF.G 41) rfl) λa hF=> ?_;exact Rn.p rfl (next a (hF.only ⟨by show some (Value.bool true)=_;simp[c3],rfl,rfl,trivial⟩))
 rw[decide_eq_false c3]at hF;refine Rn.vv hF (λo ho=>mO ho (hF.G 34) (hF.G 39)) λa hF=> ?_
 iterate 7 refine Rn.uu hF λa hF=> ?_
 refine Rn.vv hF (λo ho=>mO ho (hF.G 41) (hF.G 47)) λa hF=> ?_;exact Rn.p rfl (next a (hF.only ⟨by grind,rfl,rfl,trivial⟩))
def hd8(h4:w.heap[b4]?=some (.cells (rm v sg en at_ l k).toArray 87))(hq:0<=en)(hF:Has [(2,v2),(4, .pt b4)] 68 [] a)
 (next:∀a,Has [(65, .bool (decide (en%4≠0\/en<78\/sg<=en))),(2,v2),(4, .pt b4)] 68 [] a->Rn lT Goal (fr.atR a K) cs w):Rn lT Goal (fr.atR a (.code (rG f41 8)::K)) cs w:=by
 iterate 2 refine Rn.uu hF λa hF=> ?_
 refine Rn.vv hF (λo ho=>W0 ho (hF.G 51) rfl hq) λa hF=> ?_
 iterate 2 refine Rn.uu hF λa hF=> ?_
 by_cases c1:en%4≠0
 .rw[show(en%4 !=0)=true from by simp_all]at hF
  iterate 3 refine Rn.us hF λa hF=> ?_
  refine Rn.vv hF (λo ho=>oJ ho (hF.G 54) rfl) λa hF=> ?_;refine Rn.uu hF λa hF=> ?_
  iterate 5 refine Rn.us hF λa hF=> ?_
  refine Rn.vv hF (λo ho=>oJ ho (hF.G 59) rfl) λa hF=> ?_;exact Rn.p rfl (next a (hF.only ⟨by show some (Value.bool true)=_;simp[c1],rfl,rfl,trivial⟩))
 rw[show(en%4 !=0)=false from by simp_all]at hF
 iterate 3 refine Rn.uu hF λa hF=> ?_
 by_cases c2:en<78
 .rw[decide_eq_true c2]at hF;refine Rn.vv hF (λo ho=>mO ho (hF.G 54) (hF.G 57)) λa hF=> ?_;refine Rn.uu hF λa hF=> ?_
  iterate 5 refine Rn.us hF λa hF=> ?_
  refine Rn.vv hF (λo ho=>oJ ho (hF.G 59) rfl) λa hF=> ?_;exact Rn.p rfl (next a (hF.only ⟨by show some (Value.bool true)=_;simp[c2],rfl,rfl,trivial⟩))
 rw[decide_eq_false c2]at hF;refine Rn.vv hF (λo ho=>mO ho (hF.G 54) (hF.G 57)) λa hF=> ?_
 iterate 6 refine Rn.uu hF λa hF=> ?_
 refine Rn.vv hF (λo ho=>mO ho (hF.G 59) (hF.G 64)) λa hF=> ?_;exact Rn.p rfl (next a (hF.only ⟨by grind,rfl,rfl,trivial⟩))
end
def C4(s:ByteArray)(w:World)(Q:s.size<=281474976000000):
 Calls (aI true tP) 41 #[.s s] w λe w'=>e= .returned (.tuple #[.agg (lz s.data.toList).1.toArray, .int .i64 (lz s.data.toList).2])/\Bw w w':=by
 have k:s.data.toList.length=s.size:=by simp_all
 refine kj (t:=2) (u:=3) (ty:=87) (n:=6) lf41 rfl (by rw[bQ];exact underlying87) rfl Mm λR=>Rn.ent (N:=68) lf41 Z4 λa f=> ?_;refine Rn.al f (λo g=>GW g) λM a i j H f=> ?_
 iterate 4 refine Rn.uu f λa f=> ?_
 refine Rn.p rfl (Rn.cond _ (f.get (d:=7) rfl) ?_);by_cases v:s.size<8192
 .rw[decide_eq_true o_,show lz s.data.toList=(fp,3) by rw[lz,if_pos (by exact k▸v)]];refine Rn.vv f (λo g=>Al g) λa f=> ?_;refine Rn.nn f (λo g=>cZ g (f.get (d:=2) rfl) (f.get (d:=8) rfl) j Mm rfl (by simp[fp,rm,Ic])) λa f=> ?_;refine Rn.uu f λa f=> ?_;exact Rn.p rfl (Rn.ends rfl (.inr ⟨_,rfl⟩) (Rn.now ⟨a,_,_,_,_,_,rfl,f.defers,f.slot 2 _ rfl,setRow_heap _ _ _ _ _ _ j,rfl,f.slot 3 _ rfl,rfl,i.trans (dD _ _ _ (ar5 _))⟩))
 rw[decide_eq_false o_];refine Rn.uu f λa f=> ?_;refine Rn.vv f (λo g=>s8 (n:=4) g (f.get (d:=9) rfl) rfl o_) λa f=> ?_;refine Rn.vv f (λo g=>vG g (f.get (d:=10) rfl) rfl) λa f=> ?_;refine Rn.p rfl (Rn.cond _ (f.get (d:=11) rfl) ?_);by_cases r:s.data.toList.take 4≠[76,78,84,76]
 .rw[show((s.extract 0 4).data.toList !=[76,78,84,76])=true by rw[Yo];simpa[cq]using r,show lz s.data.toList=(fp,4) by rw[lz,if_neg (by exact k▸v),if_pos r]];refine Rn.vv f (λo g=>Al g) λa f=> ?_;refine Rn.nn f (λo g=>cZ g (f.get (d:=2) rfl) (f.get (d:=12) rfl) j Mm rfl (by simp[fp,rm,Ic])) λa f=> ?_;refine Rn.uu f λa f=> ?_;exact Rn.p rfl (Rn.ends rfl (.inr ⟨_,rfl⟩) (Rn.now ⟨a,_,_,_,_,_,rfl,f.defers,f.slot 2 _ rfl,setRow_heap _ _ _ _ _ _ j,rfl,f.slot 3 _ rfl,rfl,i.trans (dD _ _ _ (ar5 _))⟩))
 rw[show((s.extract 0 4).data.toList !=[76,78,84,76])=false by rw[Yo];simpa[cq]using r,lz,if_neg (by exact k▸v),if_neg r];have p:∀a n b w,n<=4->b<=8192->b=a+n->Calls (aI true tP) 37 #[.s s, .int .i64 (a:Nat), .int .i64 (n:Nat)] w λe w'=>e= .returned (.int .i64 (dC (cq s.data.toList a b)))/\Bw w w':=λa n b w v r K=>(ie s a n w v o_ o_).mono λ_ _ h=>⟨K▸h.1,h.2▸bR⟩;have D:∀a b,b<=8192->b- a<=4->0<=dC (cq s.data.toList a b)/\dC (cq s.data.toList a b)<4294967296:=λa b h L=>jY _ 4 (by rw[jH s.data.toList a b (by rw[k];omega)];exact L);have F:=D 10 14 o_ o_;have P:=D 14 18 o_ o_;have O:=D 18 22 o_ o_;refine Rn.p rfl (Rn.p rfl (Rn.gu 14 (f.only (G:=[(0, .s s),(2, .pt w.heap.size)]) ⟨rfl,rfl,trivial⟩) ?_));refine n_ ?_;refine p_ lf37 (λw _ _=>p 4 2 6 w d_ d_ rfl) ?_;refine n_ ?_;refine p_ lf37 (λw _ _=>p 6 4 10 w d_ d_ rfl) ?_;refine n_ ?_;refine p_ lf37 (λw _ _=>p 10 4 14 w d_ d_ rfl) ?_;refine n_ ?_;refine p_ lf37 (λw _ _=>p 14 4 18 w d_ d_ rfl) ?_;refine n_ ?_;refine p_ lf37 (λw _ _=>p 18 4 22 w d_ d_ rfl) ?_;refine n_ ?_;refine n_ ?_ (y:=λo a w g z=>(eC (m:=22) (n:=78) g gx rfl rfl o_ o_).1);refine n_ ?_ (y:=λo a w g z=>YY g gx gx gx gx gx gx);refine f_ [] (V:=λb=> .pk b 0) (λu=>y_ λa A f q J E B=> ?_) (y:=λo a w g _=>GW g);obtain⟨x,rfl,I,l⟩:=J.1 rfl;rw[Yo s 22 78]at f;refine Rn.nn f (λo g=>cZ g (f.get (d:=4) rfl) (f.get (d:=25) rfl) l Mm rfl (by simp[Ic])) λa f=>B _ _ ?_;have j:=λC=>(setRow_other A x w.heap.size C o_).trans (bk q j);have i:=λC=>(aD i o_ q).trans (dD A x C (show w.heap.size<=x by omega));have l:=λC=>setRow_heap A x _ C _ _ l;refine Rn.p rfl (Rn.p rfl (hd6 (l _) o_ f.O λa f=> ?_));refine Rn.cond _ (f.get (d:=48) rfl) ?_;by_cases c:dC (cq s.data.toList 6 10)<78\/8192<dC (cq s.data.toList 6 10)\/dC (cq s.data.toList 14 18)<dC (cq s.data.toList 6 10)\/8192<dC (cq s.data.toList 14 18)+dC (cq s.data.toList 18 22)
 .rw[decide_eq_true c,mY,if_pos c];refine Rn.vv f (λo g=>Al g) λa f=> ?_;refine Rn.nn f (λo g=>cZ g (f.get (d:=2) rfl) (f.get (d:=49) rfl) (j _) Mm rfl (by simp[fp,rm,Ic])) λa f=> ?_;refine Rn.uu f λa f=> ?_;exact Rn.p rfl (Rn.ends rfl (.inr ⟨_,rfl⟩) (Rn.now ⟨a,_,_,_,_,_,rfl,f.defers,f.slot 2 _ rfl,setRow_heap _ _ _ _ _ _ (j _),rfl,f.slot 3 _ rfl,rfl,(i _).trans (dD _ _ _ (ar5 _))⟩))
 rw[decide_eq_false c,mY,if_neg c];refine Rn.p rfl (Rn.p rfl (Rn.p rfl (hd8 (l _) F.1 f.O λa f=> ?_)));refine Rn.cond _ (f.get (d:=65) rfl) ?_;by_cases c:dC (cq s.data.toList 10 14)%4≠0\/dC (cq s.data.toList 10 14)<78\/dC (cq s.data.toList 6 10)<=dC (cq s.data.toList 10 14)
 .rw[decide_eq_true c,if_pos c];refine Rn.vv f (λo g=>Al g) λa f=> ?_;refine Rn.nn f (λo g=>cZ g (f.get (d:=2) rfl) (f.get (d:=66) rfl) (j _) Mm rfl (by simp[fp,rm,Ic])) λa f=> ?_;refine Rn.uu f λa f=> ?_;exact Rn.p rfl (Rn.ends rfl (.inr ⟨_,rfl⟩) (Rn.now ⟨a,_,_,_,_,_,rfl,f.defers,f.slot 2 _ rfl,setRow_heap _ _ _ _ _ _ (j _),rfl,f.slot 3 _ rfl,rfl,(i _).trans (dD _ _ _ (ar5 _))⟩))
 rw[decide_eq_false c,if_neg c];refine Rn.vv f (λo g=>YX g (f.get (d:=4) rfl) (l _) rfl) λa f=> ?_;refine Rn.nn f (λo g=>cZ g (f.get (d:=2) rfl) (f.get (d:=67) rfl) (j _) Mm rfl (by simp[Ic])) λa f=> ?_;refine Rn.uu f λa f=> ?_;exact Rn.p rfl (Rn.ends rfl (.inr ⟨_,rfl⟩) (Rn.now ⟨a,_,_,_,_,_,rfl,f.defers,f.slot 2 _ rfl,setRow_heap _ _ _ _ _ _ (j _),rfl,f.slot 3 _ rfl,rfl,(i _).trans (dD _ _ _ (ar5 _))⟩))
def KW(KS)(b:KS.length=64)(a:lB KS)(g)(key msg sig)(h:msg.size<=281474976706560)(i:key.size<=1125899906842624)(hs:sig.size<=1125899906842624):∃c,vA KS key msg sig c/\∀w,sY KS g w->Calls lT 15 #[.agg g, .s key, .s msg, .s sig] w λe w'=>e= .returned (.i c)/\Bw w w':=by have⟨c,f⟩:=vT KS key msg sig;exact⟨c,f,λw j=>(BE b a key msg sig h i hs w j).mono λe w' ⟨d,m,l,k⟩=>⟨by rw[m,Ac l f],k⟩⟩
def Qx:f19.body=some (.seq (rG f19 0) (.seq (rG f19 1) (.seq (.seq (rG f19 2) (.cond (.tmp 17) (.seq (rG f19 3) .ret) .skip)) (.seq (.seq (rG f19 4) (.cond (.tmp 23) (.seq (rG f19 5) .ret) .skip)) (.seq (rD f19 6) (.seq (.seq (rG f19 7) (.cond (.tmp 31) (.seq (rG f19 8) .ret) .skip)) (.seq (rD f19 9) (.seq (.seq (rG f19 10) (.cond (.tmp 50) (.seq (rG f19 11) .ret) .skip)) (.seq (rG f19 12) .ret))))))))):=k_
def FI(KS)(I:KS.length=64)(H:lB KS)(Q)(s)(st le)(S T)(A)(M)(w)(hU:fm w S (A.map .bool))(hH:fm w T (M.map .string))(W:A.length<4611686018427387904)(V:s.size<=281474976000000)(hC:sY KS Q w):
 Calls lT 19 #[.agg Q, .s s, .agg (eR st le S T)] w λe w'=>∃n c,e= .returned (.tuple #[.i n, .i c])/\pP KS s le A M n c/\Bw w w':=by
 refine ki lf19 rfl λcs=>Rn.ent lf19 Qx λa b=> ?_;refine Rn.zz b λw0 a b0 j z0 b=> ?_;refine Rn.zz b λw1 a x m z1 b=> ?_;have j:=(x.block _ o_).trans j;have x:=aD b0 b0.size x;rw[z0]at b m
 iterate 3 refine Rn.uu b λa b=> ?_
 refine Rn.cw b lf41 ((C4 s w1 V)) λg K a b=> ?_;have B2:=aD x x.size K;have z2:=K.size;have j:=(K.block _ o_).trans j;have m:=(K.block _ o_).trans m
 iterate 3 refine Rn.uu b λa b=> ?_
 refine Rn.al b (λo F=>GW F) λR a r Z _ b=> ?_;have j:=(r.block _ o_).trans j;have m:=(r.block _ o_).trans m;have i:=Hh s.data.toList;have E:=Hg s.data.toList;refine Rn.nn b (λo F=>cZ F (b.G 8) (b.G 14) Z (by rw[Mm,JR,i]) (by rw[JR,JR,i];rfl) (by simp_all)) λa b=> ?_;have h:=setRow_heap R g.heap.size _ (lz s.data.toList).1.toArray _ _ Z;have f:Bw g (R.setRow g.heap.size (lz s.data.toList).1.toArray):=r.trans (dD _ _ _ o_);have q:=(f.block _ (o_:w.heap.size<g.heap.size)).trans o_;have Y:=(f.block _ (o_:w.heap.size+1<g.heap.size)).trans o_;revert h f q Y;generalize R.setRow g.heap.size (lz s.data.toList).1.toArray=w4;intro h f q Y;have f:=aD B2 B2.size f;refine Rn.uu b λa b=> ?_;clear b0 x K r j m Z
 iterate 2 refine Rn.uu b λa b=> ?_
 refine Rn.p rfl (Rn.cond _ (b.G 17) ?_);by_cases P:(lz s.data.toList).2=0
 .rw[show((lz s.data.toList).2 !=0)=false from by simpa using P];have⟨v,J,B,d,l,k,G,g1,g2,g3,g4,g5⟩:=Fo s P;rw[G]at h;have e3:=o_;have a0:(⟨k.toArray⟩:ByteArray).size<=56:=by show k.toArray.size<=_;omega
  iterate 5 refine Rn.uu b λa b=> ?_
  refine Rn.p rfl (Rn.cond _ (b.G 23) ?_);by_cases X:v<le
  .rw[decide_eq_true X]
   iterate 2 refine Rn.uu b λa b=> ?_
   exact Rn.fj b ⟨0,7,rfl, .inr ⟨v,J,B,d,l,k,G, o_⟩,f⟩
  rw[decide_eq_false X];have b:Has [(8, .pt g.heap.size),(5, .pt (w.heap.size+1)),(3, .pt w.heap.size),(1, .s s)] 54 [] a:=b.O;have U:=(gA h).1;have l5:=(gA Y).1;have l3:=(gA q).1;have hX:kH KS [⟨k.toArray⟩]=⟨(iu KS (⟨k.toArray⟩:ByteArray).data.toList).toArray⟩:=by simp[kH]
  refine Rn.p rfl (Rn.p rfl ?_);refine Rn.gt b ?_
  iterate 4 refine n_ ?_
  refine p_ lf12 (λw p _=>hX▸pR KS I H Q ⟨k.toArray⟩ w (hC.mono (aD f f.size p)) o_) ?_;refine p_ lf42 (λw p _=>A8 _ st le S T A M w (hU.below (aD f f.size p)) (hH.below (aD f f.size p)) W) ?_;refine n_ ?_;refine q_ λa w5 b b5 _=> ?_;have L:Bw w w5:=aD f f.size b5;have h:=(b5.block _ U).trans h;have q:=(b5.block _ l3).trans q;have U:=(gA h).1;have l3:=(gA q).1
  iterate 2 refine Rn.uu b λa b=> ?_
  refine Rn.p rfl (Rn.cond _ (b.G 31) ?_);cases C:eE A M (kH KS [⟨k.toArray⟩])with
  |false=>
   iterate 2 refine Rn.uu b λa b=> ?_
   exact Rn.fj b ⟨0,8,rfl, .inr ⟨v,J,B,d,l,k,G, .inr (.inl ⟨o_,C,rfl,rfl⟩)⟩,L⟩
  |true=>
   obtain⟨c,hc,D⟩:=KW KS I H Q ⟨k.toArray⟩ (s.extract 0 B) (s.extract d (d+l)) (by rw[as6];omega) o_ (by rw[as6];omega);refine Rn.p rfl (Rn.p rfl ?_);refine Rn.gt b ?_
   iterate 14 refine n_ ?_
   refine n_ ?_ (y:=λo a w F z=>cJ F gx gx o_);refine n_ ?_;refine p_ lf15 (λw p _=>D w (hC.mono (aD L L.size p))) ?_;refine n_ ?_;refine q_ λa w6 b b6 _=> ?_;have B6:Bw w w6:=aD L L.size b6;have h:=(b6.block _ U).trans h
   iterate 2 refine Rn.uu b λa b=> ?_
   refine Rn.p rfl (Rn.cond _ (b.G 50) ?_);by_cases O:c=0
   .rw[show(c !=0)=false from by simpa using O]
    iterate 4 refine Rn.uu b λa b=> ?_
    exact Rn.fj b ⟨J,0,rfl, .inr ⟨v,J,B,d,l,k,G, .inr (.inr ⟨o_,C,c,hc, o_⟩)⟩,B6⟩
   .rw[show(c !=0)=true from by simpa using O]
    iterate 3 refine Rn.uu b λa b=> ?_
    exact Rn.fj b ⟨0,c,rfl, .inr ⟨v,J,B,d,l,k,G, .inr (.inr ⟨o_,C,c,hc, o_⟩)⟩,B6⟩
 .rw[show((lz s.data.toList).2 !=0)=true from by simpa using P]
  iterate 3 refine Rn.uu b λa b=> ?_
  exact Rn.fj b ⟨0,_,rfl, .inl ⟨P,rfl,rfl⟩,f⟩
def oP(c0 c1 fl wd kp:Value)(up:Bool)(sl:Int):Array Value:=#[c0,c1,fl,wd,kp, .bool up, .int .i64 sl]
section
variable{y z:Operand}
def OL(a:o.op= .fieldAddr 107 x 0)(c:ev x= .pk b 0):(execOp ev o).run lT w= .ok (.value (.pk b 0)) w:=by simp[execOp,a,c];kernel_rfl
def OK(a:o.op= .fieldAddr 107 x 1)(c:ev x= .pk b 0):(execOp ev o).run lT w= .ok (.value (.pk b 2)) w:=by simp[execOp,a,c];kernel_rfl
def OJ(a:o.op= .fieldAddr 107 x 2)(c:ev x= .pk b 0):(execOp ev o).run lT w= .ok (.value (.pk b 3)) w:=by simp[execOp,a,c];kernel_rfl
def Gt(a:o.op= .fieldAddr 107 x 3)(c:ev x= .pk b 0):(execOp ev o).run lT w= .ok (.value (.pk b 4)) w:=by simp[execOp,a,c];kernel_rfl
def OI(a:o.op= .fieldAddr 107 x 4)(c:ev x= .pk b 0):(execOp ev o).run lT w= .ok (.value (.pk b 5)) w:=by simp[execOp,a,c];kernel_rfl
def OH(a:o.op= .fieldAddr 107 x 5)(c:ev x= .pk b 0):(execOp ev o).run lT w= .ok (.value (.pk b 6)) w:=by simp[execOp,a,c];kernel_rfl
def AC:Bn lT 24:=λw=>⟨k_,k_⟩
end
def og{p:Prop}(h:p:=by
 first
 |exact oc
 |exact OL ho gx
 |exact OK ho gx
 |exact OJ ho gx
 |exact Gt ho gx
 |exact OI ho gx
 |exact OH ho gx
 |exact(aO (by first|exact AC|exact tv|exact pi) ho gx ((aH (by assumption) _).trans rfl)).1
 |exact lK ho gx):p:=h
section
variable{b:Frame}{k:List Item}{C:World->Prop}{Q:Act->Prop}
def Rn.ug{k':List Item}{d:Tmp}{p:Op}{v:Value}{gd:Option (Nat×Bool)}(hF:Has F N ds a)(next:∀a',Has ((d,v)::F) N ds a'->Rn P Goal (b.atR a' (.inRegion ops rest::k')) cs w)(h0:fV 6 (b.atR a k)= .inRegion ops (m::rest)::k':=by rfl)
 (h:(ops[m]?).map (λo=>(o.dst,o.op,o.guard))=some (some d,p,gd):=by rfl) (hw:gV ops F gd=some true:=by rfl) (hy:∀o:Oper,o.op=p->(execOp a.eval o).run P w= .ok (.value v) w:=by intro o ho;exact og) (hd:d<N:=by decide) (hnd:nd p=true:=by rfl):Rn P Goal (b.atR a k) cs w:=Rn.gr (Rn.qq hF next h hw hy hd hnd) h0
end
section
variable{W:World}{df:List Deferred}{Q:Act->WP}{M:List (Nat×WP)}{d:Tmp}{p:Op}{gd:Option (Nat×Bool)}
def i_(next:Gx P ops W N n df Q (m+1) ((d,v)::F) M)(h:Is ops m d p gd:=by rfl)(hw:gV ops F gd=some true:=by rfl)(hk0:A5 ops (Z8 ops n m) gd=true:=by kernel_rfl)(y:∀(o:Oper) (a:Act) (w:World),o.op=p->At ops W n m F M a w->(execOp a.eval o).run P w= .ok (.value v) w:=by intro o a w ho z;have hC:=z.b;exact og):Gx P ops W N n df Q m F M:=n_ next h hw hk0 y
end
def PQ(L:ByteArray)(k):L.extract (k*8192) (k*8192+8192)=⟨(cq L.data.toList (min (k*8192) L.size) (min (k*8192+8192) L.size)).toArray⟩:=by
 have a:L.data.toList.length=L.size:=by simp_all
 rw[Yo]
 congr 2
 unfold cq
 grind
def TM:f102.body=some (.seq (rG f102 0) (.seq (rG f102 1) (.seq (rG f102 2) (.seq (.seq (rG f102 3) (.cond (.tmp 17) (rG f102 4) .skip)) (.seq (.seq (rG f102 5) (.cond (.tmp 29) (rG f102 6) .skip)) (.seq (rG f102 7) .ret)))))):=k_
section
variable{rb:Nat}{c0 c1 fl wd kp:Value}{up:Bool}{sl:Int}{L:ByteArray}
def IQ(k:Nat)(hk:k<2)(hc:w.heap[rb]?=some (.cells (oP c0 c1 fl wd kp up sl) 107))(hf:qP w fl L):Calls lT 102 #[.pk rb 0, .i k] w λe w'=>e= .returned (.s (L.extract (k*8192) (k*8192+8192)))/\w'=w:=by
 obtain⟨h62,fb,cap,cells,fr,rfl,hcap,hfb,_,hcl⟩:=hf;refine eK lf102 TM λcs a hF=> ?_;have hLl:L.data.toList.length=L.size:=by simp_all
 rw[PQ]
 iterate 2 refine Rn.ug hF λa hF=> ?_
 refine Rn.vv hF (λo ho=>rY (m:=8192) ho rfl (hF.G 7) o_) λa hF=> ?_;rw[Nat.mul_comm 8192 k]at hF
 iterate 2 refine Rn.ug hF λa hF=> ?_
 refine Rn.vv hF (λo ho=>cJ (n:=8192) ho (hF.G 9) rfl o_) λa hF=> ?_
 iterate 8 refine Rn.ug hF λa hF=> ?_
 refine Rn.p rfl (Rn.cond _ (hF.G 17) ?_);have last:∀{m n:Nat} {a:Act},m<=n->n<=L.size->Has [(0, .pt rb),(5, .i m),(6, .i n)] 43 [] a->Rn lT (λg w'=>∃(a:Act) (I:List Item) (v:Value),g=cD {(base 102).atR a I with mode:= .returning} cs/\a.defers=[]/\a.tmps[4]?=some v/\(Zo v= .returned (.string ⟨(cq L.data.toList m n).toArray⟩)/\w'=w)) ((base 102).atR a [.code (.seq (rG f102 7) .ret)]) cs w:=λ{m n a} hmn hn hF=>by
  iterate 6 refine Rn.ug hF λa hF=> ?_
  have hl:(cq L.data.toList m n).length=n- m:=jH _ _ _ o_;by_cases hmn:m=n
  .subst hmn;have e0:cq L.data.toList m m=[]:=aD0 o_;refine Rn.ve (R:=λv w'=>w'=w/\∃c0 q0,v= .slice (some ⟨fb,c0,none⟩) ([]:List UInt8).length q0) hF (λo ho=>by
    obtain xQ:=Gy (w:=w) (cap:=cap) ho (hF.G 38) (hF.G 39) (hF.G 40) o_
    grind) λv w' hv a hF=> ?_
   obtain⟨rfl,c0,q0,rfl⟩:=hv;refine Rn.vv hF (λo ho=>rW ho (hF.G 41) s_) λa hF=> ?_;rw[e0];refine Rn.ug hF λa hF=> ?_;exact Rn.fi hF ⟨rfl,rfl⟩
  .refine Rn.vv hF (λo ho=>N3 ho (hF.G 38) (hF.G 39) (hF.G 40) o_ o_) λa hF=> ?_;rw[←hl]at hF;refine Rn.vv hF (λo ho=>rW ho (hF.G 41) λj hj=> ?_) λa hF=> ?_
   .have e:(cq L.data.toList m n)[j]=L.data.toList[m+j]' o_:=(by simp[cq]);rw[e,show w.cell? ⟨fb,m+j,none⟩=cells[m+j]? from by simp[AT,hfb]]
    grind
   refine Rn.ug hF λa hF=> ?_;exact Rn.fi hF ⟨rfl,rfl⟩
 have mid:∀{m:Nat} {a:Act},m=min (k*8192) L.size->Has [(0, .pt rb),(5, .i m),(6, .i ((k*8192+8192:Nat):Int))] 43 [] a->Rn lT (λg w'=>∃(a:Act) (I:List Item) (v:Value),g=cD {(base 102).atR a I with mode:= .returning} cs/\a.defers=[]/\a.tmps[4]?=some v/\(Zo v= .returned (.string ⟨(cq L.data.toList m (min (k*8192+8192) L.size)).toArray⟩)/\w'=w)) ((base 102).atR a [.code (.seq (.seq (rG f102 5) (.cond (.tmp 29) (rG f102 6) .skip)) (.seq (rG f102 7) .ret))]) cs w:=λ{m a} em hF=>by
  iterate 7 refine Rn.ug hF λa hF=> ?_
  refine Rn.p rfl (Rn.cond _ (hF.G 29) ?_);by_cases h1:L.size<k*8192+8192
  .rw[decide_eq_true o_]
   iterate 6 refine Rn.ug hF λa hF=> ?_
   rw[aI_ o_];exact Rn.p rfl (last o_ o_ hF.O)
  .rw[decide_eq_false o_,ax0 o_];exact Rn.p rfl (last o_ o_ hF.O)
 by_cases h1:L.size<k*8192
 .rw[decide_eq_true o_]
  iterate 6 refine Rn.ug hF λa hF=> ?_
  rw[aI_ (o_:L.size<=k*8192)];exact Rn.p rfl (mid o_ hF.O)
 .rw[decide_eq_false o_,ax0 (o_:k*8192<=L.size)];exact Rn.p rfl (mid o_ hF.O)
end
end L1
section
open Go.Conc Go.RowKit
def ym{R}{t u}{ty}{d}(s:P.funcs[f]?=some fn)(c:fn.results=#[.tmp u, .cell t ty])(m:P.underlying ty=some d)(y:d.isRow=true)(r:(P.info? ty).map (·.size)=some n)
 (h:∀cs,Rn P (λg w'=>∃a k b cells e v,g=cD {(base f).atR a k with mode:= .returning} cs/\a.defers=[]/\a.tmps[t]?=some (.pk b 0)/\w'.heap[b]?=some (.cells cells e)/\cells.size=n/\a.tmps[u]?=some v/\R (.returned (.tuple #[v, .agg cells])) w') (as7 P f args .normal) cs w):Calls P f args w R:=λcs=>by
 obtain⟨G,w',F,a,k,b,cells,e,v,rfl,E,D,C,B,A,z⟩:=h cs;refine⟨.returned (.tuple #[v, .agg cells]),w',{(base f).atR a k with mode:= .returning},z,StepsIn.steps F,rfl,rfl,E,rfl,fn,s, ?_⟩;have p:a.tmps[t]?.getD undef= .pk b 0:=by rw[D];rfl
 have l:a.tmps[u]?.getD undef=v:=by rw[A];rfl
 have o:w'.rangeAt b 0 cells.toList:=λj x i=>by
  rw[as5];have:w'.cell? ⟨b,j,none⟩=cells[j]?:=by simp[AT,C]
  simp_all
 have q:=run_loadVar_mid w' b 0 ty cells.toList d o m y (by rw[r];simp[B]);show(results fn a.tmps).run P w'=_;simp[results,c,p,l,asAddr,q]
end
namespace L1
open Go.Conc Go.RowKit
structure Wh (w0:World) (ob zb:Nat) (st le:Int) (us:List Bool) (hs:List ByteArray) (vu vh nv:Value) (ns:List Int) (w:World):Prop where
 old:Bw w0 w
 no:w0.heap.size<=ob
 out:w.heap[ob]?=some (.cells (d8 0 false 0 0 0) 100)
 fus:w.heap[zb]?=some (.cells (eR st le vu vh) 45)
 ou:w.ownsRow w0.heap.size 4 1 vu us.length (us.map Value.bool)
 oh:w.ownsRow w0.heap.size 9 1 vh hs.length (hs.map Value.string)
 nt:w.ownsRow w0.heap.size 3 1 nv ns.length (bS ns)
def sx{base base'}{e}{xs}(h:w.ownsRow base e 1 v n xs)(c:base'<=base):w.ownsRow base' e 1 v n xs:=⟨h.1,h.2.imp id λ⟨g,b,a,i,f,d⟩=>⟨g,b,a,i,o_,d⟩⟩
def pX{base}{e d}{v'}{xs f}(h:w.ownsRow base e 1 v n xs)(k:w.ownsRow base d 1 v' m f)(j:e≠d)(i:w.grownBy w' v'.ownBlock):w'.ownsRow base e 1 v n xs:=ig h λc q b a=>(i.block c (aK a) (by
 obtain⟨rfl,_⟩|⟨g,p,o,rfl,_,l,_⟩:=h.2
 .cases b
 .cases b;exact i8 k l j)).trans a
section
variable{ob zb:Nat}{st le:Int}{us:List Bool}{hs:List ByteArray}{vu vh nv:Value}{ns:List Int}
def Wh.below(h:Wh w0 ob zb st le us hs vu vh nv ns w)(a:Bw w w'):Wh w0 ob zb st le us hs vu vh nv ns w':=⟨aD h.old h.old.size a,h.no,bk a h.out,bk a h.fus,dL h.ou a,dL h.oh a,dL h.nt a⟩
def Wh.app{g}{x}(h:Wh w0 ob zb st le us hs vu vh nv ns w)(p:ns.length<100)(f:w.heap[g]?=some (.cells #[.i x] 3))(e:ev (.tmp k)=nv)(d:ev (.tmp j)= .sk g 1 1)(o)(b:o.op= .call {callee:= .builtin .append,args:=#[.tmp k, .tmp j],argTypes:=#[24,24]}):
 ∃v' w',(execOp ev o).run lT w= .ok (.value v') w'/\Wh w0 ob zb st le us hs vu vh v' (ns++[x]) w':=by
 have⟨v',w',n,l,i,a⟩:=tO (z:= .i 0) (bytes:=8) (m:=1) (news:=[.i x]) k_ k_ rfl h.nt (λj u c=>by
  obtain _|j:=j
  .cases c;rw[AS,aH f];rfl
  .simp at c) (by simp[Ic]) rfl e d (by unfold maxLen;omega) o_ h.old.size o b
 refine⟨v',w',n,h.old.trans i,h.no,(a.block ob (aK h.out) (i8 h.nt h.out d_)).trans h.out,(a.block zb (aK h.fus) (i8 h.nt h.fus d_)).trans h.fus,pX h.ou h.nt d_ a,pX h.oh h.nt d_ a, ?_⟩;rw[V7,show bS (ns++[x])=bS ns++[.i x]from Q4 ..];exact l
end
section
variable{c0 c1 fl wd kp:Value}{up:Bool}{sl:Int}
def J4(a:o.op= .load 26 x)(c:ev x= .pk b 0)(h:w.heap[b]?=some (.cells (oP c0 c1 fl wd kp up sl) 107)):(execOp ev o).run lT w= .ok (.value (.agg #[c0,c1])) w:=by
 have e:(isAgg 26).run lT w= .ok true w:=k_
 simp[execOp,a,c,as_,loadVar,e,loadCells,loadCellsFrom,Y1,(aH h),oP,go_sem]
end
def OE{y}{m n}(a:o.op= .binOp .gtr 36 x y u)(c:ev x= .i m)(b:ev y= .i n):(execOp ev o).run lT w= .ok (.value (.bool (decide (m>n)))) w:=by simp[execOp,a,c,b,go_sem]
def MQ(KS)(k:KS.length=64)(j:lB KS)(l)(s)(st le)(b d)(a)(g)(i:a.length<4611686018427387904)(f:s.size<=281474976000000){n}(h:pP KS s le a g n c)(w)(m:fm w b (a.map .bool))(o:fm w d (g.map .string))(p:sY KS l w):
 Calls lT 19 #[.agg l, .s s, .agg (eR st le b d)] w λe w'=>e= .returned (.tuple #[.i n, .i c])/\Bw w w':=
 (FI KS k j l s st le b d a g w m o i f p).mono λe w' ⟨u,v,t,r,q⟩=>⟨by obtain⟨rfl,rfl⟩:=ju r h;exact t,q⟩
def ER(f:Func):Code:= .seq (.seq (rG f 9) (.cond (.tmp 39) .skip (.exit 0))) (.seq (.block 1 (.seq (rD f 11) (.seq (rG f 12) (.seq (.seq (rG f 13) (.cond (.tmp 63) (.seq (rG f 14) .ret) .skip)) (.seq (rG f 15) (.cond (.tmp 72) (rG f 16) .skip)))))) (rG f 10))
def LZ(f:Func):Code:= .seq (rG f 17) .ret
def TI:f77.body=some (.seq (rG f77 0) (.seq (rG f77 1) (.seq (rG f77 2) (.seq (.seq (rG f77 3) (.cond (.tmp 21) (.seq (rG f77 4) .ret) .skip)) (.seq (.seq (rG f77 5) (.cond (.tmp 33) (.seq (rG f77 6) .ret) .skip)) (.seq (rG f77 7) (.seq (.seq (rG f77 8) (.block 0 (.loop (ER f77)))) (LZ f77)))))))):=k_
section
variable{rb ob zb:Nat}{c0 c1 fl wd kp:Value}{up:Bool}{sl st le:Int}{L:ByteArray}{us:List Bool}{hs:List ByteArray}{vu vh:Value}
def Ll(q:KS.length=64)(p:lB KS)(hu:us.length=4)(K:w0.heap[rb]?=some (.cells (oP c0 c1 fl wd kp up sl) 107))(M:sY KS #[c0,c1] w0)(H:qP w0 fl L)(G:k<2){gr n}{l}{ns}(hl:ns.length<50)(v:pP KS (L.extract (k*8192) (k*8192+8192)) le us hs n c)(j:Wh w0 ob zb st le us hs vu vh l ns w)
 (b:Has [(0, .pt rb),(3, .pt ob),(4,l),(5, .pt zb),(7, .i gr),(8, .i k)] 79 [] a)
 (F:c=0->∀a' w' f I,Wh w0 ob zb st le us hs vu vh f (ns++[16+16*(k:Int)]++[9]) w'->Has [(2,f),(3, .pt ob)] 79 [] a'->Rn lT Goal ((base 77).atR a' (.code .ret::I)) cs (gK w' ob (d8 0 true k n 0) 100))
 (E:c≠0->∀a' w' f,Wh w0 ob zb st le us hs vu vh f (ns++[16+16*(k:Int)+c]) w'->Has [(0, .pt rb),(3, .pt ob),(4,f),(5, .pt zb),(7, .i (max gr c)),(8, .i ((k+1:Nat):Int))] 79 [] a'->Rn lT Goal ((base 77).atR a' [.code (ER f77), .inLoop (ER f77), .inBlock 0, .code (LZ f77)]) cs w'):
 Rn lT Goal ((base 77).atR a [.code (ER f77), .inLoop (ER f77), .inBlock 0, .code (LZ f77)]) cs w:=by
 have J:=tM v;have x:∀{w'},Bw w w'->w'.heap[rb]?=some (.cells (oP c0 c1 fl wd kp up sl) 107):=λg=>bk g (bk j.old K);have P:∀{w'},Bw w w'->qP w' fl L:=λg=>(H.keep (Ex.of_below (X:=λ_=>False) j.old) s_).keep (Ex.of_below (X:=λ_=>False) g) s_
 iterate 2 refine Rn.ug b λa b=> ?_
 refine Rn.p rfl (Rn.cond _ (b.G 39) ?_);rw[decide_eq_true o_];have b:Has [(0, .pt rb),(3, .pt ob),(4,l),(5, .pt zb),(7, .i gr),(8, .i k)] 79 [] a:=b.O
 iterate 4 refine Rn.p rfl ?_
 refine Rn.gt b ?_
 iterate 3 refine i_ ?_
 refine n_ ?_ (y:=λo a w d z=>J4 d gx (x z.b))
 iterate 2 refine i_ ?_
 refine p_ lf102 (λw' g _=>(IQ k G (x g) (P g)).mono λe C ⟨O,N⟩=>⟨O,N▸bR⟩) ?_;refine n_ ?_ (y:=λo a w d z=>oZ d gx (bk z.b j.fus));refine p_ lf19 (λw' g _=>MQ KS q p #[c0,c1] _ st le vu vh us hs o_ (by rw[as6];omega) v w' (tr (dL j.ou g)) (tr (dL j.oh g)) ((M.mono j.old).mono g)) ?_
 iterate 5 refine i_ ?_
 refine q_ λa w1 b V _=> ?_
 iterate 2 refine Rn.ug b λa b=> ?_
 refine Rn.vv b (λo d=>rY (m:=16) d rfl (b.G 55) o_) λa b=> ?_;refine Rn.vv b (λo d=>cJ (m:=16) d rfl (b.G 56) o_) λa b=> ?_
 iterate 2 refine Rn.ug b λa b=> ?_
 rw[show((16+16*k:Nat):Int)+c=16+16*(k:Int)+c by omega]at b;refine Rn.al b (λo d=>qZ d (b.G 59)) λw2 a U S z2 b=> ?_;have Y:=(j.below V).below U;refine Rn.ve b (λo i=>Y.app o_ S (b.G 54) (b.G 60) o i) λD B t a b=> ?_
 iterate 3 refine Rn.ug b λa b=> ?_
 refine Rn.p rfl (Rn.cond _ (b.G 63) ?_);by_cases r:c=0
 .subst r;rw[show 16+16*(k:Int)+0=16+16*(k:Int) by omega]at t;refine Rn.ug b λa b=> ?_;refine Rn.al b (λo d=>qZ (m:=9) d rfl) λw4 a T R z4 b=> ?_;have W:=t.below T;refine Rn.ve b (λo i=>W.app (by simp;omega) R (b.G 64) (b.G 65) o i) λv5 w5 A a b=> ?_
  iterate 2 refine Rn.ug b λa b=> ?_
  refine Rn.vv b (λo d=>Gr d rfl (b.G 67) (b.G 68)) λa b=> ?_;refine Rn.ug b λa b=> ?_;refine Rn.nn b (λo d=>gn d (b.G 3) (b.G 69) A.out rfl) λa b=> ?_;exact Rn.p rfl (F rfl _ _ _ _ A b.O)
 .rw[show(c==0)=false from by simpa using r]
  iterate 2 refine Rn.ug b λa b=> ?_
  refine Rn.vv b (λo d=>OE d (b.G 70) (b.G 71)) λa b=> ?_;refine Rn.p rfl (Rn.cond _ (b.G 72) ?_);have h:∀{s:Int} {a:Act},s=max gr c->Has [(0, .pt rb),(3, .pt ob),(4,D),(5, .pt zb),(7, .i s),(8, .i k)] 79 [] a->Rn lT Goal ((base 77).atR a [.inBlock 1, .code (rG f77 10), .inLoop (ER f77), .inBlock 0, .code (LZ f77)]) cs B:=λ{s a} Q b=>by subst Q;refine Rn.ug b λa b=> ?_;refine Rn.vv b (λo d=>cJ (n:=1) d (b.G 40) rfl o_) λa b=> ?_;refine Rn.ug b λa b=> ?_;exact Rn.p rfl (Rn.p rfl (E r _ _ _ t b.O))
  by_cases u:c>gr
  .rw[decide_eq_true u]
   iterate 2 refine Rn.ug b λa b=> ?_
   exact Rn.p rfl (h o_ (b.only ⟨rfl,rfl,rfl,rfl,rfl,rfl,trivial⟩))
  .rw[decide_eq_false u];exact Rn.p rfl (h o_ (b.only ⟨rfl,rfl,rfl,rfl,rfl,rfl,trivial⟩))
end
def XY(KS W:List Int)(L:ByteArray)(w:World)(v:Value)(w':World):Prop:=∃nv ns j s n c,v= .tuple #[nv, .agg (d8 0 j s n c)]/\iX KS W L ns j s n c/\w'.ownsRow w.heap.size 3 1 nv ns.length (bS ns)/\Bw w w'
section
variable{rb wb qw:Nat}{c0 c1 fl kp:Value}{up:Bool}{sl:Int}{L:ByteArray}{W:List Int}
def E0(hKl:KS.length=64)(hKw:lB KS)(hc:w.heap[rb]?=some (.cells (oP c0 c1 fl (.sk wb 85 qw) kp up sl) 107))(hC:sY KS #[c0,c1] w)(hf:qP w fl L)(hW:g6 W)(hr:w.rangeAt wb 0 (W.map (Value.int .i64))):
 Calls lT 77 #[.pk rb 0] w λe w'=>∃v,e= .returned v/\XY KS W L w v w':=by
 refine ym (t:=3) (u:=2) (ty:=100) (n:=5) lf77 rfl (by rw[bQ];exact underlying100) rfl ka λcs=>Rn.ent (N:=79) lf77 TI λa hF=> ?_;refine Rn.ug hF λa hF=> ?_;refine Rn.al hF (λo ho=>jN ho) λw1 a b1 o1 z1 hF=> ?_;refine Rn.al hF (λo ho=>qZ (m:=1) ho rfl) λw2 a b2 n2 z2 hF=> ?_;have B2:Bw w w2:=aD b1 b1.size b2;have hc2:=bk B2 hc
 iterate 5 refine Rn.ug hF λa hF=> ?_
 refine Rn.cl hF lf101 (Ja (cap:=qw) hW λj v hv=>bM B2 (hr j v hv)) λv w3 hv a hF=> ?_;obtain⟨st,le,cr,pu,lu,qu,ph,lh,qh,us,hs,rfl,hP,b3,hz⟩:=hv
 iterate 3 refine Rn.ug hF λa hF=> ?_
 refine Rn.al hF (λo ho=>zk ho) λw4 a b4 c4 z4 hF=> ?_;refine Rn.nn hF (λo ho=>qx ho (hF.G 5) (hF.G 18) c4 rfl) λa hF=> ?_;have B3:Bw w w3:=aD B2 B2.size b3;have B4:Bw w w4:=aD B3 B3.size b4;have o3:=bk b4 (bk b3 (bk b2 o1));have n3:=bk b4 (bk b3 n2);have n5:w.heap.size<=w3.heap.size:=B3.size;have hone:w4.ownsRow w.heap.size 3 1 (.sk w1.heap.size 1 1) 1 (bS [1]):=⟨rfl, .inr ⟨w1.heap.size,1,_,rfl,b1.size,n3,o_,by unfold maxLen;omega,rfl,rfl⟩⟩;have out5:=(cR (cs:=eR st le (.slice pu lu qu) (.slice ph lh qh)) (t:=45) (cX o3 c4 d_)).trans o3;have S5:Wh w w.heap.size w3.heap.size st le us hs (.slice pu lu qu) (.slice ph lh qh) (.sk w1.heap.size 1 1) [1] (gK w4 w3.heap.size (eR st le (.slice pu lu qu) (.slice ph lh qh)) 45):=⟨B4.trans (dK n5),o_,out5,bZ c4,gp (sx (dL hz.1 b4) B2.size) c4 d_,gp (sx (dL hz.2 b4) B2.size) c4 d_,gp hone c4 d_⟩;revert S5;generalize gK w4 w3.heap.size (eR st le (.slice pu lu qu) (.slice ph lh qh)) 45=w5;intro S5
 iterate 2 refine Rn.ug hF λa hF=> ?_
 refine Rn.ug hF λa hF=> ?_;refine Rn.p rfl (Rn.cond _ (hF.G 21) ?_);have fin:∀{ns:List Int} {j:Bool} {s n c:Int} {us:List Bool} {hs:List ByteArray} {vu vh nv:Value} {zb:Nat} {st le:Int} {w':World} {a:Act} {I:List Item},iX KS W L ns j s n c->Wh w w.heap.size zb st le us hs vu vh nv ns w'->Has [(2,nv),(3, .pt w.heap.size)] 79 [] a->Rn lT (λg w'=>∃(a:Act) (k:List Item) (bk:Nat) (cells:Array Value) (tt:TypeId) (v:Value),g=cD {(base 77).atR a k with mode:= .returning} cs/\a.defers=[]/\a.tmps[3]?=some (.pk bk 0)/\w'.heap[bk]?=some (.cells cells tt)/\cells.size=5/\a.tmps[2]?=some v/\∃v',Zo (.tuple #[v, .agg cells])= .returned v'/\XY KS W L w v' w') ((base 77).atR a (.code .ret::I)) cs (gK w' w.heap.size (d8 0 j s n c) 100):=λ{ns j s n c us hs vu vh nv zb st le w' a I} hq hS hF=>
  Rn.ends rfl s_ (Rn.now ⟨_,_,w.heap.size,_,_,_,rfl,hF.defers,hF.slot 3 _ rfl,bZ hS.out,rfl,hF.slot 2 _ rfl,_,rfl,nv,ns,j,s,n,c,rfl,hq,gp hS.nt hS.out d_,hS.old.trans (dK (ar5 _))⟩)
 by_cases h0:cr=0
 .subst h0;have l4:us.length=4:=by
   rcases hP with⟨_,_,_,_,rfl,_⟩|⟨_,e⟩
   .simp[E3]
   .cases e
  have c5:=S5.fus
  iterate 3 refine Rn.ug hF λa hF=> ?_
  refine Rn.ug hF λa hF=> ?_;have go:(st=255\/st=3855)->∀{a:Act},Has [(0, .pt rb),(3, .pt w.heap.size),(4, .sk w1.heap.size 1 1),(5, .pt w3.heap.size)] 79 [] a->Rn lT (λg w'=>∃(a:Act) (k:List Item) (bk:Nat) (cells:Array Value) (tt:TypeId) (v:Value),g=cD {(base 77).atR a k with mode:= .returning} cs/\a.defers=[]/\a.tmps[3]?=some (.pk bk 0)/\w'.heap[bk]?=some (.cells cells tt)/\cells.size=5/\a.tmps[2]?=some v/\∃v',Zo (.tuple #[v, .agg cells])= .returned v'/\XY KS W L w v' w') ((base 77).atR a [.code (.seq (rG f77 7) (.seq (.seq (rG f77 8) (.block 0 (.loop (ER f77)))) (LZ f77)))]) cs w5:=λhst a hF=>by
   iterate 2 refine Rn.ug hF λa hF=> ?_
   refine Rn.p rfl (Rn.p rfl (Rn.p rfl ?_));obtain⟨n0,c0',hP0⟩:=pD KS (L.extract 0 8192) le us hs;obtain⟨n1,c1',hP1⟩:=pD KS (L.extract 8192 16384) le us hs;have d0:=tM hP0;have d1:=tM hP1;refine Ll (k:=0) hKl hKw l4 hc hC hf o_ d_ hP0 S5 hF.O (λe a w' nv' I hS hF=>fin (j:=true) (s:=0) (n:=n0) (c:=0) ⟨st,le,0,us,hs,hP, .inr (.inr ⟨rfl,hst,n0,c0',hP0, .inl ⟨e,rfl,rfl,rfl,rfl,rfl⟩⟩)⟩ hS hF) λe0 a w' nv' hS hF=>Ll (k:=1) hKl hKw l4 hc hC hf o_ s_ hP1 hS hF (λe a w' nv' I hS hF=>fin (j:=true) (s:=1) (n:=n1) (c:=0) ⟨st,le,0,us,hs,hP, .inr (.inr ⟨rfl,hst,n0,c0',hP0, .inr ⟨e0,n1,c1',hP1, .inl ⟨e,s_,rfl,rfl,rfl,rfl⟩⟩⟩)⟩ hS hF) λe1 a w' nv' hS hF=> ?_
   iterate 2 refine Rn.ug hF λa hF=> ?_
   refine Rn.p rfl (Rn.cond _ (hF.G 39) ?_);rw[decide_eq_false o_];refine Rn.ug hF λa hF=> ?_;refine Rn.al hF (λo ho=>qZ (m:=4) ho rfl) λw6 a b6 c6 z6 hF=> ?_;have S6:=hS.below b6;refine Rn.ve hF (λo hop=>S6.app s_ c6 (hF.G 74) (hF.G 75) o hop) λv7 w7 S7 a hF=> ?_;refine Rn.ug hF λa hF=> ?_;refine Rn.vv hF (λo ho=>vF ho (hF.G 77)) λa hF=> ?_;refine Rn.ug hF λa hF=> ?_;refine Rn.nn hF (λo ho=>gn ho (hF.G 3) (hF.G 78) S7.out rfl) λa hF=> ?_;rw[show max (max 0 c0') c1'=max c0' c1' by omega];exact Rn.p rfl (fin ⟨st,le,0,us,hs,hP, .inr (.inr ⟨rfl,hst,n0,c0',hP0, .inr ⟨e0,n1,c1',hP1, .inr ⟨e1,s_,rfl,rfl,rfl,rfl⟩⟩⟩)⟩ S7 hF.O)
  by_cases e1:st=255
  .rw[show(st !=255)=false from by grind]at hF
   iterate 3 refine Rn.us hF λa hF=> ?_
   refine Rn.vv hF (λo ho=>mO ho (hF.G 29) rfl) λa hF=> ?_;refine Rn.p rfl (Rn.cond _ (hF.G 33) ?_);exact Rn.p rfl (go (.inl e1) hF.O)
  .rw[show(st !=255)=true from by grind]at hF
   iterate 3 refine Rn.ug hF λa hF=> ?_
   refine Rn.vv hF (λo ho=>oJ ho (hF.G 29) (hF.G 32)) λa hF=> ?_;refine Rn.p rfl (Rn.cond _ (hF.G 33) ?_);by_cases e2:st=3855
   .rw[show(st !=3855)=false from by grind];exact Rn.p rfl (go (.inr e2) hF.O)
   .rw[show(st !=3855)=true from by grind];refine Rn.ug hF λa hF=> ?_;refine Rn.al hF (λo ho=>qZ (m:=3) ho rfl) λw6 a b6 c6 z6 hF=> ?_;have S6:=S5.below b6;refine Rn.ve hF (λo hop=>S6.app d_ c6 (hF.G 34) (hF.G 35) o hop) λv7 w7 S7 a hF=> ?_;refine Rn.vv hF (λo ho=>vF (c:=2) ho rfl) λa hF=> ?_;refine Rn.ug hF λa hF=> ?_;refine Rn.nn hF (λo ho=>gn ho (hF.G 3) (hF.G 37) S7.out rfl) λa hF=> ?_;exact Rn.p rfl (fin ⟨st,le,0,us,hs,hP, .inr (.inl ⟨rfl,e1,e2,rfl,rfl,rfl,rfl,rfl⟩)⟩ S7 hF.O)
 .rw[show(cr !=0)=true from by grind];refine Rn.ug hF λa hF=> ?_;refine Rn.al hF (λo ho=>qZ (m:=2) ho rfl) λw6 a b6 c6 z6 hF=> ?_;have S6:=S5.below b6;refine Rn.ve hF (λo hop=>S6.app d_ c6 (hF.G 22) (hF.G 23) o hop) λv7 w7 S7 a hF=> ?_;refine Rn.vv hF (λo ho=>vF (c:=1) ho rfl) λa hF=> ?_;refine Rn.ug hF λa hF=> ?_;refine Rn.nn hF (λo ho=>gn ho (hF.G 3) (hF.G 25) S7.out rfl) λa hF=> ?_;exact Rn.p rfl (fin ⟨st,le,cr,us,hs,hP, .inl ⟨h0,rfl,rfl,rfl,rfl,rfl⟩⟩ S7 hF.O)
end
end L1
section
open Go.Conc Go.RowKit
def Ec{cs}{fr}(v)(h:w.heap[b]?=some (.cells cs t fr)):(w.setCell ⟨b,k,none⟩ v).heap[b]?=some (.cells (cs.setIfInBounds k v) t fr):=by
 unfold JX
 grind
def wq(b k)(v):Ex (· =b) w (w.setCell ⟨b,k,none⟩ v):=⟨rfl,rfl,rfl,by simp_all,λc _ a=>by
 unfold JX
 grind⟩
end
namespace L1
open Go.Conc Go.RowKit
def Bo(w:World)(kb cap:Nat)(K:List Int):Prop:=WX K/\16<=cap/\∃cells fr,w.heap[kb]?=some (.cells cells 5 fr)/\16<=fr.1/\∀j (h:j<K.length),cells[j]?=some (Value.int .u8 K[j])
def Vt(w:World)(v:Value)(ns:List Int):Prop:=∃p cap,v= .slice p ns.length cap/\∀(i:Nat) x,ns[i]?=some x->∃g cur,p=some ⟨g,0,none⟩/\w.heap[g]?=some (.cells cur 3)/\cur[i]?=some (Value.int .i64 x)
section
variable{kb cap:Nat}{K ns:List Int}{X:Nat->Prop}
def Bo.keep(h:Bo w kb cap K)(a:Ex X w w')(b:¬X kb):Bo w' kb cap K:=let ⟨h1,h2,c,f,h3,h4⟩:=h;⟨h1,h2,c,f,a.at b h3,h4⟩
def Vt.keep(h:Vt w v ns)(a:Ex X w w')(d:∀b cs fr,w.heap[b]?=some (.cells cs 3 fr)->¬X b):Vt w' v ns:=let ⟨p,c,h1,h2⟩:=h;⟨p,c,h1,λi x e=>let ⟨g,cur,e1,e2,e3⟩:=h2 i x e;⟨g,cur,e1,a.at (d _ _ _ e2) e2,e3⟩⟩
def GI{base}(h:w.ownsRow base 3 1 v n (bS ns)):Vt w v ns:=by
 have e:ns.length=n:=by have:=h.1;simp[bS]at this;omega
 obtain⟨rfl,rfl⟩|⟨g,c,b,rfl,_,j,_,_,_,f⟩:=h.2
 .refine⟨none,0,by rw[e],λi x a=> ?_⟩;simp_all
 .refine⟨some ⟨g,0,none⟩,c,by rw[e],λi x a=>⟨g,b,rfl,j, ?_⟩⟩;have k:=(as4.1 a).1;have d:(bS ns)[i]?=some (.i x):=by simp[bS,a]
  grind
def Bo.set(h:Bo w kb cap K)(i)(q:i<16){x}(f:0<=x/\x<256):Bo (w.setCell ⟨kb,i,none⟩ (.int .u8 x)) kb cap (K.set i x):=by
 have⟨⟨n,m⟩,l,a,o,k,g,d⟩:=h;refine⟨⟨by simpa using n,λj c=> ?_⟩,l,_,o,Ec _ k,g,λj c=> ?_⟩
 .grind
 .grind
variable{y:Operand}
def Ei{g a cap}(b:o.op= .indexAddr 83 x y)(d:ev x= .sk g a cap)(c:ev y= .i n)(f:n<a):eX ev o w (.pk g n):=by
 have:=(dI (ql:=true) (w:=w) (e:=5) k_ s_ b d c f).1
 rwa [AS,as5]at this
def P3(f:m<256)(a:o.op= .convert 5 3 x)(b:ev x= .int .u8 m):(execOp ev o).run lT w= .ok (.value (.i m)) w:=by
 have d:lT.underlying 5=some (.int .u8):=k_
 have c:lT.underlying 3=some (.int .i64):=k_
 have e:DN.wrap (m:Int)=m:=by rw[as3];omega
 simp[execOp,a,b,go_sem,d,c,e]
def QT(h:Bo w kb cap K)(g:i<16){n}(a:o.op= .store 5 x y)(e:ev x= .pk kb i)(d:ev y= .int .u8 n):(execOp ev o).run lT w= .ok .skip (w.setCell ⟨kb,i,none⟩ (.int .u8 n)):=by have⟨⟨k,_⟩,_,b,l,c,j,f⟩:=h;exact(ff rfl rfl k_ a e d (by simp[AT,c];exact f i o_) (by simp[If,c];grind)).1
def I2(h:Bo w kb cap K)(b:i<K.length):w.cell? ⟨kb,i,none⟩=some (.int .u8 K[i]):=by have⟨_,_,a,e,d,_,c⟩:=h;simp[AT,d];exact c i b
end
def SZ(f:Func):Code:= .seq (.seq (rG f 1) (.cond (.tmp 9) .skip (.exit 0))) (.seq (.block 1 (.seq (rG f 3) (.seq (rD f 4) (rG f 5)))) (rG f 2))
def TR:f78.body=some (.seq (rG f78 0) (.block 0 (.loop (SZ f78)))):=k_
section
variable{rb kb qk:Nat}{c0 c1 fl wd lv:Value}{up:Bool}{sl:Int}{K0 ns:List Int}
def EH(k:w0.heap[rb]?=some (.cells (oP c0 c1 fl wd (.sk kb 16 qk) up sl) 107))(h8:∃cs fr,w0.heap[kb]?=some (.cells cs 5 fr))(hL:Vt w0 lv ns)(hn:ns.length<1000)(U:∀a w,Bo w kb qk (uJ K0 ns)->Ex (· =kb) w0 w->Has [] 40 [] a->Rn (aI true tP) Goal ((base 78).atR a []) cs w):
 ∀m i w a,ns.length- i=m->i<=ns.length->Bo w kb qk (uJ K0 (ns.take i))->Ex (· =kb) w0 w->Has [(0, .pt rb),(1,lv),(4, .int .i64 i)] 40 [] a->Rn (aI true tP) Goal ((base 78).atR a [.code (SZ f78), .inLoop (SZ f78), .inBlock 0]) cs w:=by
 obtain⟨p,L,rfl,s⟩:=id hL;obtain xQ:=h8;have u:¬rb=kb:=λe=>by simp_all
 intro m;induction m with
 |zero=>
  intro i w a Y hi h v b
  iterate 3 refine Rn.ug b λa b=> ?_
  refine Rn.ug b λa b=> ?_;refine Rn.p rfl (Rn.cond _ (b.get rfl) ?_);rw[decide_eq_false o_];rw[No o_]at h;exact Rn.p rfl (U _ _ h v (b.only trivial))
 |succ m W=>
  intro i w a Y hi h v b;have q:i<ns.length:=o_
  obtain⟨g,a1,rfl,r,F⟩:=s i ns[i] s_;have V:g≠kb:=λe=>by simp_all
  have H:=v.at V r;have J:=v.at u k
  iterate 3 refine Rn.ug b λa b=> ?_
  refine Rn.ug b λa b=> ?_;refine Rn.p rfl (Rn.cond _ (b.get rfl) ?_);rw[decide_eq_true o_];rw[show uJ K0 (ns.take i)=uJ K0 (ns.take i)from rfl]at h;have O:uJ K0 (ns.take (i+1))=EG (uJ K0 (ns.take i)) ns[i]:=by
   rw[aG9,EN q,aF9];unfold uJ
   grind
  generalize uJ K0 (ns.take i)=K at h O;have Z:=h.1.1;obtain⟨c,B,I⟩:∃c:Nat,K[0]=(c:Int)/\c<256:=⟨(K[0]).toNat,by have:=h.1.2 0 o_;omega,by have:=h.1.2 0 o_;omega⟩;have G:K.getD 0 0=(c:Int):=by simp_all
  have P:=I2 h (i:=0) o_;rw[B]at P
  iterate 4 refine Rn.ug b λa b=> ?_
  refine Rn.vv b (λo f=>Ei (n:=0) f (b.get (d:=15) rfl) rfl o_) λa b=> ?_;refine Rn.vv b (λo f=>(aO ED f (b.get (d:=16) rfl) P).1) λa b=> ?_;refine Rn.vv b (λo f=>P3 I f (b.get (d:=17) rfl)) λa b=> ?_;refine Rn.ug b λa b=> ?_;have b:Has [(0, .pt rb),(1, .sk g ns.length L),(4, .int .i64 i),(5, .int .i64 c)] 40 [] a:=b.O;have l:1+c%15<16:=o_
  refine Rn.p rfl (Rn.p rfl ?_);refine Rn.gu 13 b ?_
  iterate 3 refine i_ ?_
  refine n_ ?_ (y:=λo a w f z=>(aO tv f gx ((aH (bk z.b J) 4).trans rfl)).1);refine i_ ?_;refine n_ ?_ (y:=λo a w f z=>Gq (n:=15) f gx rfl o_);refine n_ ?_ (y:=λo a w f z=>cJ (m:=1) f rfl gx o_)
  iterate 2 refine i_ ?_
  refine n_ ?_ (y:=λo a w f z=>(g7 (t:=24) (off:=0) i k_ f gx gx q).trans (by rw[as5]));refine n_ ?_ (y:=λo a w f z=>(aO bH f gx ((aH (bk z.b H) i).trans F)).1);refine n_ ?_ (y:=λo a w f z=>wF f gx);refine n_ ?_ (y:=λo a w f z=>Ei f gx gx l);refine q_ λa T b Q _ N E=> ?_;have D:=h.keep (Ex.of_below (X:=λ_=>False) Q) (λe=>e);refine Rn.nn b (λo f=>QT D l f (b.get (d:=31) rfl) (b.get (d:=30) rfl)) λa b=>E _ _ ?_;have j:=D.set (1+c%15) l (x:=ZH.wrap ns[i]) (by rw[aA0];omega);have S:=(v.trans (Ex.of_below (X:=(· =kb)) Q) o_).trans (wq kb (1+c%15) (.int .u8 (ZH.wrap ns[i]))) o_;revert j S;generalize T.setCell ⟨kb,1+c%15,none⟩ (.int .u8 (ZH.wrap ns[i]))=w2;intro j M;have a0:=M.at u k
  iterate 5 refine Rn.ug b λa b=> ?_
  refine Rn.vv b (λo f=>cJ (n:=1) f (b.get (d:=36) rfl) rfl o_) λa b=> ?_;refine Rn.vv b (λo f=>wF f (b.get (d:=37) rfl)) λa b=> ?_;refine Rn.vv b (λo f=>Ei (n:=0) f (b.get (d:=35) rfl) rfl o_) λa b=> ?_;refine Rn.nn b (λo f=>QT j o_ f (b.get (d:=39) rfl) (b.get (d:=38) rfl)) λa b=> ?_;have C:=j.set 0 o_ (x:=ZH.wrap ((c+1:Nat):Int)) (by rw[aA0];omega);have R:=M.trans (wq kb 0 (.int .u8 (ZH.wrap ((c+1:Nat):Int)))) o_;rw[show(K.set (1+c%15) (ZH.wrap ns[i])).set 0 (ZH.wrap ((c+1:Nat):Int))=EG K ns[i]from by unfold EG;simp_all,←O]at C;refine Rn.ug b λa b=> ?_;refine Rn.vv b (λo f=>cJ (n:=1) f (b.get (d:=10) rfl) rfl o_) λa b=> ?_;refine Rn.ug b λa b=> ?_;exact Rn.p rfl (Rn.p rfl (W (i+1) _ _ o_ o_ C R b.O))
def Jl{g}(k:w.heap[rb]?=some (.cells (oP c0 c1 fl wd (.sk kb 16 qk) up sl) 107))(d:Bo w kb qk K0)(l:Vt w g ns)(j:ns.length<1000):
 Calls lT 78 #[.pk rb 0,g] w λe w'=>e= .returned (.tuple #[])/\Bo w' kb qk (uJ K0 ns)/\Ex (· =kb) w w':=by refine gW lf78 rfl λm=>Rn.ent lf78 TR λa b=> ?_;refine Rn.ug b λa b=> ?_;refine Rn.p rfl (Rn.p rfl (Rn.p rfl ?_));exact EH k (let ⟨_,_,c,f,h,_⟩:=d;⟨c,f,h⟩) l j (λa w' d i b=>Rn.g0 b ⟨rfl,d,i⟩) ns.length 0 w _ o_ o_ d Ex.refl b.O
end
def iH(w:World)(v:Value)(m:Int):Prop:=∃p n cap,v= .slice p n cap/\∀i:Nat,i<n->∃b cur,p=some ⟨b,0,none⟩/\w.heap[b]?=some (.cells cur 3)/\cur[i]?=some (Value.int .i64 m)
def yx(w:World)(g n cap:Nat)(m:Int):Prop:=∃cur:Array Value,w.heap[g]?=some (.cells cur 3)/\n<=cap/\cap<=maxLen/\cur.size=cap/\∀i:Nat,i<n->cur[i]?=some (Value.int .i64 m)
section
variable{m:Int}{g cap:Nat}
def yx.own(h:yx w g n cap m):w.ownsRow 0 3 1 (.sk g n cap) n (ar9 n (.i m)):=by
 have⟨b,f,e,d,j,c⟩:=h;refine⟨s_, .inr ⟨g,cap,b,rfl,o_,f,e,d,o_, ?_⟩⟩;apply List.ext_getElem?
 grind
def yx.is(h:yx w g n cap m):iH w (.sk g n cap) m:=let ⟨cur,h1,_,_,_,h5⟩:=h;⟨_,n,cap,rfl,λi a=>⟨g,cur,rfl,h1,h5 i a⟩⟩
def iH.grow{cur a}(h:iH w v m)(t:w.heap[g]?=some (.cells cur 3))(d:w'.heap[g]?=some (.cells a 3))(r:∀b o,b≠g->w.heap[b]?=some o->w'.heap[b]?=some o)(q:∀i:Nat,cur[i]?=some (Value.i m)->a[i]?=some (Value.i m)):iH w' v m:=by
 obtain⟨p,n,j,rfl,h⟩:=h;refine⟨p,n,j,rfl,λi s=> ?_⟩
 grind
def iH.keep(h:iH w v m)(d:∀b cur,v.ownBlock=some b->w.heap[b]?=some (.cells cur 3)->w'.heap[b]?=some (.cells cur 3)):iH w' v m:=by obtain⟨p,n,a,rfl,h⟩:=h;refine⟨p,n,a,rfl,λi e=> ?_⟩;obtain⟨b,c,rfl,g,f⟩:=h i e;exact⟨b,c,rfl,d b _ rfl g,f⟩
def Bd{q:Nat}{ad:Addr}{r:Nat}(Q:yx w g n cap m)(C:∀i:Nat,i<r->w.cell? (ad.add i)=some (.i m))(hn:n+r<=1000)(Y:ev (.tmp k)= .sk g n cap)(X:ev (.tmp j)= .slice (some ad) r q)(o:Oper)(J:o.op= .call {callee:= .builtin .append,args:=#[.tmp k, .tmp j],argTypes:=#[24,24]}):
 ∃v' w',(execOp ev o).run lT w= .ok (.value v') w'/\iH w' v' m/\(∃b,v'.ownBlock=some b/\(b=g\/w.heap.size<=b)/\b<w'.heap.size)/\(∃p c,v'= .slice p (n+r) c)/\yx w' g n cap m/\(∀u,iH w u m->iH w' u m)/\Ex (· =g) w w':=by
 have x:=Q.own;obtain⟨f,E,S,R,h4,K⟩:=id Q;obtain⟨i,y,a⟩:=IT.1 (show(lT.info? 3).map (λi=>(i.zero,i.size,i.bytes))=some (some (.i 0),1,8) by kernel_rfl);simp only[Prod.mk.injEq]at a;have v:lT.underlying 24=some (.slice 3):=k_
 have B:∀(j:Nat) u,(ar9 r (Value.i m))[j]?=some u->w.cell? (ad.add j)=some u:=λj u v=>by grind
 have e:execOp ev o=(do pure (.value (←Zn #[24,24] o.type #[.sk g n cap, .slice (some ad) r q]))):=by simp[execOp,J,resolve,Y,X,invoke,builtin]
 by_cases A:n+r<=cap
 .have d:=run_append_room (P:=aI true tP) w 24 o.type 3 i v y g n cap f E ad r q (ar9 r (.i m)) (by simp[a.2.1]) B (by simp[Ic]) A (by simp_all);rw[a.2.1,lR E,Nat.mul_one,ax4]at d;have z:(f.toList.take n++ar9 r (Value.i m)++f.toList.drop (n+r)).toArray.size=cap:=by simp;omega
  have l:∀i:Nat,(f.toList.take n++ar9 r (Value.i m)++f.toList.drop (n+r)).toArray[i]?=if n<=i/\i<n+r then some (.i m)else f[i]?:=λi=>by
   rw[Va,List.append_assoc,aK3,List.length_take,au3,ax0 o_];by_cases M:i<n
   .grind
   .rw[if_neg M,aK3,ax4];by_cases L:i- n<r
    .grind
    .rw[if_neg L,if_neg o_,ZY,ax5]
     congr 1
     omega
  revert d z l;generalize (f.toList.take n++ar9 r (Value.i m)++f.toList.drop (n+r)).toArray=s;intro d z l;have I:=bZ (cs:=s) (t:=3) E;have N:∀i:Nat,f[i]?=some (Value.i m)->s[i]?=some (Value.i m):=λi h=>by simp_all
  have H:=aK E;refine⟨_,_,by simp_all,⟨_,n+r,cap,rfl,λi y=>⟨g,s,rfl,I, ?_⟩⟩,⟨g,rfl, .inl rfl,by grind⟩,⟨_,_,rfl⟩,⟨s,I,S,R,z,λi y=>N i (K i y)⟩,λu v=>v.grow E I (λb o Z G=>(cR Z).trans G) N,dn _ _ _⟩;simp_all
 .have d:=run_append_grow (P:=aI true tP) w 24 o.type 3 i (.i 0) v y a.1 ⟨g,0,none⟩ n cap (ar9 n (.i m)) (by simp[a.2.1]) (x.cells (g:=g) rfl) ad r q (ar9 r (.i m)) (by simp[a.2.1]) B o_ o_ (growslice_fits o_ (by grind));obtain⟨v',w',F,O,r3,_⟩:=run_append_own (P:=aI true tP) w 0 24 o.type 3 i (.i 0) 1 8 v y a.1 a.2.1 a.2.2 rfl o_ _ n _ x ad r q (ar9 r (.i m)) s_ B (by simp[Ic]) (by unfold maxLen;omega) o_ (aB0 _);rw[d]at F;injection F with F r1';have D:Bw w w':=by rw[←r1'];exact(fS w).trans (aR w.drew _)
  subst F;refine⟨_,w',by rw[e,←r1'];exact pS d, ?_,⟨_,rfl, .inr (ar5 _),by rw[←r1',aJ];simp_all⟩,⟨_,_,rfl⟩,⟨f,bk D E,S,R,h4,K⟩,λu v=>v.keep λb o _ G=>(D.block b (aK G)).trans G,Ex.of_below D⟩;have:=GI (ns:=ar9 (n+r) m) (by rw[List.replicate_append_replicate]at O;have e3:bS (ar9 (n+r) m)=ar9 (n+r) (Value.i m):=(by simp[bS]);exact e3▸O)
  obtain⟨p,c,T,e2⟩:=this;rw[ax4]at T;refine⟨p,n+r,c,T,λi y=> ?_⟩;simp_all
end
structure Ls (w:World) (Z:Nat->Prop) (lv mv:Value) (ls:List Value) (ms:List Int):Prop where
 ol:w.ownsRow 0 24 1 lv ls.length ls
 om:w.ownsRow 0 3 1 mv ms.length (bS ms)
 len:ls.length=ms.length
 all:∀(i:Nat) v m,ls[i]?=some v->ms[i]?=some m->iH w v m
 apart:∀v b,v∈ls->v.ownBlock=some b->mv.ownBlock≠some b/\¬Z b/\b<w.heap.size
 mw:∀b,mv.ownBlock=some b->¬Z b
 small:∀v,v∈ls->∃p n c,v= .slice p n c/\n<=1000
def xZ(lb rb:Nat)(lv mv:Value):Array Value:=#[.pk lb 0, .pk rb 0,lv,mv]
def wU{base}{e}{xs}(h:w.ownsRow base e 1 v n xs)(a:v.ownBlock=some b):b<w.heap.size:=by
 obtain⟨rfl,_⟩|⟨g,f,d,rfl,_,c,_⟩:=h.2
 .cases a
 .cases a;grind
section
variable{Z:Nat->Prop}{pb lb rb:Nat}{lv mv:Value}{ls:List Value}{ms:List Int}{X:Nat->Prop}
def Ls.keep(h:Ls w Z lv mv ls ms)(k:Ex X w w')(r:∀b cs fr,w.heap[b]?=some (.cells cs 3 fr)->¬X b\/Z b)(s:∀b cs fr,w.heap[b]?=some (.cells cs 24 fr)->¬X b):Ls w' Z lv mv ls ms:=by
 refine⟨ig h.ol λc o a d=> ?_,ig h.om λc o a d=> ?_,h.len,λi v m f j=>(h.all i v m f j).keep λb o t d=> ?_,λv b f j=>⟨(h.apart v b f j).1,(h.apart v b f j).2.1,ar4 (h.apart v b f j).2.2 k.size⟩,h.mw,h.small⟩
 .obtain⟨e,_⟩|⟨g,p,n,e,_,l,_⟩:=h.ol.2
  .rw[e]at a;cases a
  .rw[e]at a;cases a;exact k.at (s _ _ _ l) d
 .obtain⟨e,_⟩|⟨g,p,n,e,_,l,_⟩:=h.om.2
  .rw[e]at a;cases a
  .have q:=h.mw;rw[e]at a q;cases a;exact k.at ((r _ _ _ l).resolve_right (q _ rfl)) d
 .exact k.at ((r _ _ _ d).resolve_right (h.apart v b (mG f) t).2.1) d
def Ls.below(h:Ls w Z lv mv ls ms)(a:Bw w w'):Ls w' Z lv mv ls ms:=h.keep (Ex.of_below (X:=λ_=>False) a) s_ s_
end
section
variable{y:Operand}
def OP(a:o.op= .fieldAddr 60 x 0)(c:ev x= .pk b 0):(execOp ev o).run lT w= .ok (.value (.pk b 0)) w:=by simp[execOp,a,c];kernel_rfl
def OO(a:o.op= .fieldAddr 60 x 1)(c:ev x= .pk b 0):(execOp ev o).run lT w= .ok (.value (.pk b 1)) w:=by simp[execOp,a,c];kernel_rfl
def ON(a:o.op= .fieldAddr 60 x 2)(c:ev x= .pk b 0):(execOp ev o).run lT w= .ok (.value (.pk b 2)) w:=by simp[execOp,a,c];kernel_rfl
def OM(a:o.op= .fieldAddr 60 x 3)(c:ev x= .pk b 0):(execOp ev o).run lT w= .ok (.value (.pk b 3)) w:=by simp[execOp,a,c];kernel_rfl
def LI:Bn lT 58:=λw=>⟨k_,k_⟩
def Yv:Bn lT 56:=λw=>⟨k_,k_⟩
def Yu:Bn lT 57:=λw=>⟨k_,k_⟩
def P7{m}(a:o.op= .buildSlice 24 2 #[(0,x),(1,y)])(c:ev x= .i m)(b:ev y= .i m):(execOp ev o).run lT w= .ok (.value (.sk w.heap.size 2 2)) (w.alloc (.cells #[.i m, .i m] 3)):=by simp[execOp,a,c,b];kernel_rfl
def P6{z}{m}(a:o.op= .buildSlice 24 3 #[(0,x),(1,y),(2,z)])(d:ev x= .i m)(c:ev y= .i m)(b:ev z= .i m):(execOp ev o).run lT w= .ok (.value (.sk w.heap.size 3 3)) (w.alloc (.cells #[.i m, .i m, .i m] 3)):=by simp[execOp,a,d,c,b];kernel_rfl
def P5{z u}{m}(a:o.op= .buildSlice 24 4 #[(0,x),(1,y),(2,z),(3,u)])(d:ev x= .i m)(c:ev y= .i m)(b:ev z= .i m)(f:ev u= .i m):(execOp ev o).run lT w= .ok (.value (.sk w.heap.size 4 4)) (w.alloc (.cells #[.i m, .i m, .i m, .i m] 3)):=by simp[execOp,a,d,c,b,f];kernel_rfl
def P4{z u}{i h g f}{m l k j d c b a}(n:o.op= .buildSlice 58 4 #[(0,x),(1,y),(2,z),(3,u)])(r:ev x= .slice i m d)(q:ev y= .slice h l c)(p:ev z= .slice g k b)(s:ev u= .slice f j a):(execOp ev o).run lT w= .ok (.value (.sk w.heap.size 4 4)) (w.alloc (.cells #[.slice i m d, .slice h l c, .slice g k b, .slice f j a] 24)):=by simp[execOp,n,r,q,p,s];kernel_rfl
end
def ol{p:Prop}(h:p:=by
 first
 |exact og
 |exact OP ho gx
 |exact OO ho gx
 |exact ON ho gx
 |exact OM ho gx
 |exact(aO (by first|exact LI|exact Yv|exact Yu) ho gx ((aH (by assumption) _).trans rfl)).1
 |exact jV (ty:=58) (e:=24) k_ ho gx):p:=h
section
variable{b:Frame}{k:List Item}{C:World->Prop}{Q:Act->Prop}
def Rn.ul{k':List Item}{d:Tmp}{p:Op}{v:Value}{gd:Option (Nat×Bool)}(hF:Has F N ds a)(next:∀a',Has ((d,v)::F) N ds a'->Rn P Goal (b.atR a' (.inRegion ops rest::k')) cs w)(h0:fV 6 (b.atR a k)= .inRegion ops (m::rest)::k':=by rfl)
 (h:(ops[m]?).map (λo=>(o.dst,o.op,o.guard))=some (some d,p,gd):=by rfl) (hw:gV ops F gd=some true:=by rfl) (hy:∀o:Oper,o.op=p->(execOp a.eval o).run P w= .ok (.value v) w:=by intro o ho;exact ol) (hd:d<N:=by decide) (hnd:nd p=true:=by rfl):Rn P Goal (b.atR a k) cs w:=Rn.gr (Rn.qq hF next h hw hy hd hnd) h0
end
section
variable{W:World}{df:List Deferred}{Q:Act->WP}{M:List (Nat×WP)}{d:Tmp}{p:Op}{gd:Option (Nat×Bool)}
def j_(next:Gx P ops W N n df Q (m+1) ((d,v)::F) M)(h:Is ops m d p gd:=by rfl)(hw:gV ops F gd=some true:=by rfl)(hk0:A5 ops (Z8 ops n m) gd=true:=by kernel_rfl)(y:∀(o:Oper) (a:Act) (w:World),o.op=p->At ops W n m F M a w->(execOp a.eval o).run P w= .ok (.value v) w:=by intro o a w ho z;have hC:=z.b;exact ol):Gx P ops W N n df Q m F M:=n_ next h hw hk0 y
end
section
variable{Z:Nat->Prop}{pb lb rb g:Nat}{lv mv:Value}{ls:List Value}{ms:List Int}
def Ls.apartG{X}(h:Ls w Z lv mv ls ms)(f:Ex X w w')(l:∀b,lv.ownBlock=some b->¬X b)(k:∀b,mv.ownBlock=some b->¬X b)(g:∀v b,v∈ls->v.ownBlock=some b->¬X b):Ls w' Z lv mv ls ms:=
 ⟨ig h.ol λc _ j d=>f.at (l c j) d,ig h.om λc _ j d=>f.at (k c j) d,h.len,λi v m a e=>(h.all i v m a e).keep λb _ n d=>f.at (g v b (mG a) n) d,λv b a e=>⟨(h.apart v b a e).1,(h.apart v b a e).2.1,ar4 (h.apart v b a e).2.2 f.size⟩,h.mw,h.small⟩
end
def Nh{base q bytes}{e}{z v'}{L news:List Value}{ad}(y:lT.underlying t=some (.slice e))(r:(lT.info? e).map (λi=>(i.zero,i.size,i.bytes))=some (some z,1,bytes))(d:w.ownsRow base e 1 v n L)(B:∀j u,news[j]?=some u->w.cell? (ad.add j)=some u)(C:∀u∈news,u.oneCell'=true)(N:news.length=m)(J:0<m)(H:ev (.tmp k)=v)(G:ev (.tmp j)= .slice (some ad) m q)(I:n+m<=maxLen)(s:(n+m)*bytes<=140737488355328)(A:o.op= .call {callee:= .builtin .append,args:=#[.tmp k, .tmp j],argTypes:=#[t,t]})(c:(execOp ev o).run lT w= .ok (.value v') w'):∀b,v'.ownBlock=some b->v.ownBlock=some b\/b=w.heap.size:=by
 have⟨i,r,a⟩:=IT.1 r;simp at a;have M:execOp ev o=(do pure (.value (←Zn #[t,t] o.type #[v, .slice (some ad) m q]))):=by simp[execOp,A,resolve,H,G,invoke,builtin]
 rw[M]at c;have l:∀{E:Value} {F:World},(Zn #[t,t] o.type #[v, .slice (some ad) m q]).run lT w= .ok E F->E=v':=λh=>by simp_all
 unfold maxLen at I;obtain⟨rfl,rfl⟩|⟨g,p,D,rfl,_,K,S,R,Q,O⟩:=d.2
 .have:=l (run_append_nil w t o.type e i z y r a.1 ad m q news (by simp_all) B o_ o_ (by grind));subst this;intro b x;cases x;simp_all
 .by_cases f:n+m<=p
  .have:=l (run_append_room w t o.type e i y r g n p D K ad m q news (by simp_all) B C f (by simp_all));subst this;intro b x;exact .inl x
  .have:=l (run_append_grow w t o.type e i z y r a.1 ⟨g,0,none⟩ n p L (by grind) (d.cells rfl) ad m q news (by simp_all) B o_ o_ (growslice_fits o_ (by simp_all)));subst this;intro b x;cases x;simp_all
def Oy{y}(d:n<1000000000000)(a:o.op= .binOp .sub 3 x y u)(c:ev x= .i (-1000))(b:ev y= .i n):(execOp ev o).run lT w= .ok (.value (.i (-1000-(n:Int)))) w:=by
 have e:DN.wrap (-1000-(n:Int))= -1000-(n:Int):=by rw[as3];omega
 simp[execOp,a,c,b,go_sem,e]
def SV(f:Func):Code:= .seq (.seq (rG f 2) (.cond (.tmp 18) .skip (.exit 0))) (.seq (.block 1 (rG f 4)) (rG f 3))
def SQ(f:Func):Code:= .seq (rG f 5) (.seq (rG f 6) (.seq (rG f 7) (.seq (rG f 8) (rG f 9))))
def TL:f62.body=some (.seq (rG f62 0) (.seq (.seq (rG f62 1) (.block 0 (.loop (SV f62)))) (SQ f62))):=k_
section
variable{Z:Nat->Prop}{pb lb rb g cap:Nat}{lv mv:Value}{ls:List Value}{ms:List Int}{m:Int}{p0:Value}
def IH(l:85<=cap)(h:cap<=maxLen)(s:∀a w,yx w g 85 cap m->Ex (· =g) w0 w->Has [(0,p0),(1, .sk g 85 cap),(4, .i m)] 66 [] a->Rn lT Goal ((base 62).atR a [.code (SQ f62)]) cs w):
 ∀q i w a,85- i=q->i<=85->(∃cur,w.heap[g]?=some (.cells cur 3)/\cur.size=cap/\∀j:Nat,j<i->cur[j]?=some (Value.i m))->Ex (· =g) w0 w->Has [(0,p0),(1, .sk g 85 cap),(4, .i m),(5, .i i)] 66 [] a->Rn lT Goal ((base 62).atR a [.code (SV f62), .inLoop (SV f62), .inBlock 0, .code (SQ f62)]) cs w:=by
 intro q;induction q with
 |zero=>
  intro i w a x z k f b;have⟨cur,d,r,p⟩:=k
  iterate 4 refine Rn.ug b λa b=> ?_
  refine Rn.p rfl (Rn.cond _ (b.G 18) ?_);rw[decide_eq_false o_];exact Rn.p rfl (s _ _ ⟨cur,d,l,h,r,λj y=>p j o_⟩ f b.O)
 |succ q u=>
  intro i w a x z k f b;have⟨cur,d,r,p⟩:=k
  iterate 4 refine Rn.ug b λa b=> ?_
  refine Rn.p rfl (Rn.cond _ (b.G 18) ?_);rw[decide_eq_true o_]
  iterate 3 refine Rn.ug b λa b=> ?_
  refine Rn.vv b (λo c=>g7 i k_ c (b.G 21) (b.G 22) o_) λa b=> ?_;rw[as5]at b;refine Rn.nn b (λo c=>fe rfl rfl k_ c (b.G 24) (b.G 23) d o_) λa b=> ?_;refine Rn.ug b λa b=> ?_;refine Rn.vv b (λo c=>cJ (n:=1) c (b.G 19) rfl o_) λa b=> ?_;refine Rn.ug b λa b=> ?_;refine Rn.p rfl (Rn.p rfl (u (i+1) _ _ o_ o_ ⟨_,bZ d,by simpa using r,λj y=> ?_⟩ (f.trans (dn ..) o_) b.O));rw[Array.getElem?_setIfInBounds];by_cases e:i=j
  .rw[if_pos e,if_pos o_]
  grind
def La{W:List Int}(K:w.heap[pb]?=some (.cells (xZ lb rb lv mv) 60))(C:Ls w Z lv mv ls ms)(c9:ms.length<=1000000000)(l:w.ownsRow 0 3 1 (.sk g 85 cap) 85 (bS W))(ao:mv.ownBlock≠some g)(b3:∀b,Z b->b<w.heap.size)(bl:¬Z g)(b5:∀v,v∈ls->v.ownBlock≠some g):
 Calls (aI true tP) 62 #[.pk pb 0, .sk g 85 cap] w λe w'=>e= .returned (.tuple #[])/\∃al ak b1 az,w'.heap[pb]?=some (.cells (xZ lb rb al ak) 60)/\Ls w' Z al ak b1 az/\az.length=ms.length+4/\(∀b,al.ownBlock=some b->lv.ownBlock=some b\/w.heap.size<=b)/\(∀b,ak.ownBlock=some b->mv.ownBlock=some b\/w.heap.size<=b)/\(∀v b,v∈b1->v.ownBlock=some b->v∈ls\/b=g\/w.heap.size<=b)/\Ex (λb=>b=pb\/b=g\/lv.ownBlock=some b\/mv.ownBlock=some b) w w':=by
 refine gW lf62 rfl λcs=>Rn.ent (N:=66) lf62 TL λa f=> ?_;obtain⟨O,cm,Y⟩:=pg C.om;obtain xQ:=pg C.ol;obtain⟨hg,af⟩:(∃aa:Array Value,w.heap[g]?=some (.cells aa 3)/\aa.size=cap)/\85<=cap/\cap<=maxLen:=by
  rcases l.2 with⟨e,_⟩|⟨g',bs,aa,e,_,e2,e3,e4,e5,_⟩
  .cases e
  .cases e;exact⟨⟨aa,e2,o_⟩,e3,e4⟩
 obtain⟨gc,a9,bj⟩:=hg;have ax:pb≠g:=λe=>by rw[e,a9]at K;injection K with K;injection K with _ K;cases K
 have ai:∀{e:TypeId} {v:Value} {n:Nat} {xs:List Value} {b:Nat} {c:Array Value} {t:TypeId},w.ownsRow 0 e 1 v n xs->w.heap[b]?=some (.cells c t)->t≠e->v.ownBlock≠some b:=λB A h3 e=>i8 B A h3 e.symm;have c3:=ai C.ol K d_;have be:=ai C.om K d_;have lg:=ai C.ol a9 d_;have ca:=aK a9;have c0:=aK K;rw[Y]at K
 iterate 4 refine Rn.ul f λa f=> ?_
 refine Rn.ul f λa f=> ?_;refine Rn.vv f (λo l=>Oy (n:=ms.length) o_ l rfl (f.get (d:=13) rfl)) λa f=> ?_
 iterate 2 refine Rn.ul f λa f=> ?_
 generalize-1000-(ms.length:Int)=m at f;refine Rn.p rfl (Rn.p rfl (Rn.p rfl ?_));refine IH (g:=g) (w0:=w) af.1 af.2 (λa w1 F1 x1 f=> ?_) 85 0 w _ rfl o_ ⟨gc,a9,bj,λj hj=>o_⟩ Ex.refl f.O;have c7:=x1.at ax K;have L1:=C.apartG x1 (λb k e=>lg (e▸k)) (λb k e=>ao (e▸k)) (λv b B A e=>b5 v B (e▸A));have A1:=F1.is;have s1:=x1.size
 iterate 2 refine Rn.ul f λa f=> ?_
 refine Rn.al f (λo l=>qZ l (f.get (d:=26) rfl)) λw2 a b2 c2 z2 f=> ?_;have bz:∀u,iH w1 u m->iH w2 u m:=λu p=>p.keep λb o _ l=>bk b2 l;have F2:yx w2 g 85 cap m:=let ⟨c,B,A⟩:=F1;⟨c,bk b2 B,A⟩
 refine Rn.ve f (λo s=>Bd (r:=1) F2 (λi hi=>by rcases(o_:i=0)with rfl;rw[AS,aH c2];rfl) o_ (f.get (d:=25) rfl) (f.get (d:=27) rfl) o s) λva w3 ⟨Aa,⟨ba,ea,na,la⟩,⟨pa,qa,bo⟩,F3,bx,x3⟩ a f=> ?_
 subst bo
 iterate 4 refine Rn.ul f λa f=> ?_
 refine Rn.al f (λo l=>P7 l (f.get (d:=30) rfl) (f.get (d:=31) rfl)) λw4 a b4 c4 z4 f=> ?_;have b9:∀u,iH w3 u m->iH w4 u m:=λu p=>p.keep λb o _ l=>bk b4 l;have F4:yx w4 g 85 cap m:=let ⟨c,B,A⟩:=F3;⟨c,bk b4 B,A⟩
 refine Rn.ve f (λo s=>Bd (r:=2) F4 (λi hi=>by rcases(o_:i=0\/i=1)with rfl|rfl<;>(rw[AS,aH c4];rfl)) o_ (f.get (d:=29) rfl) (f.get (d:=32) rfl) o s) λvb w5 ⟨Ab,⟨bb,eb,nb,c5⟩,⟨F,qb,bn⟩,F5,b7,x5⟩ a f=> ?_
 subst bn
 iterate 5 refine Rn.ul f λa f=> ?_
 refine Rn.al f (λo l=>P6 l (f.get (d:=35) rfl) (f.get (d:=36) rfl) (f.get (d:=37) rfl)) λw6 a b6 c6 z6 f=> ?_;have au:∀u,iH w5 u m->iH w6 u m:=λu p=>p.keep λb o _ l=>bk b6 l;have F6:yx w6 g 85 cap m:=let ⟨c,B,A⟩:=F5;⟨c,bk b6 B,A⟩
 refine Rn.ve f (λo s=>Bd (r:=3) F6 (λi hi=>by rcases(o_:i=0\/i=1\/i=2)with rfl|rfl|rfl<;>(rw[AS,aH c6];rfl)) o_ (f.get (d:=34) rfl) (f.get (d:=38) rfl) o s) λvd w7 ⟨Ad,⟨bd,ed,nd,ld⟩,⟨pd,qd,bm⟩,F7,ar,x7⟩ a f=> ?_
 subst bm;have z3:=x3.size;have z5:=x5.size;have z7:=x7.size;have X7:Ex (· =g) w w7:=(((((x1.trans (Ex.of_below (X:=(· =g)) b2) λ_ _ e=>e).trans x3 λ_ _ e=>e).trans (Ex.of_below (X:=(· =g)) b4) λ_ _ e=>e).trans x5 λ_ _ e=>e).trans (Ex.of_below (X:=(· =g)) b6) λ_ _ e=>e).trans x7 λ_ _ e=>e;have L7:=C.apartG X7 (λb k e=>lg (e▸k)) (λb k e=>ao (e▸k)) (λv b B A e=>b5 v B (e▸A));have bg:=X7.at ax K;have A7:iH w7 (.sk g 85 cap) m:=F7.is;have br:iH w7 (.slice pa (85+1) qa) m:=ar _ (au _ (b7 _ (b9 _ Aa)));have bq:iH w7 (.slice F (85+2) qb) m:=ar _ (au _ Ab)
 iterate 6 refine Rn.ul f λa f=> ?_
 iterate 4 refine Rn.ul f λa f=> ?_
 refine Rn.al f (λo l=>P4 l (f.get (d:=45) rfl) (f.get (d:=46) rfl) (f.get (d:=47) rfl) (f.get (d:=48) rfl)) λw8 a b8 c8 z8 f=> ?_;have L8:=L7.below b8;have an:=bk b8 bg;have a8:∀u,iH w7 u m->iH w8 u m:=λu p=>p.keep λb o _ l=>bk b8 l;have nw:∀(j:Nat) u,([.sk g 85 cap, .slice pa (85+1) qa, .slice F (85+2) qb, .slice pd (85+3) qd]:List Value)[j]?=some u->w8.cell? ((⟨w7.heap.size,0,none⟩:Addr).add j)=some u:=λj u p=>by rw[AS,as5,aH c8];simpa using p
 refine Rn.ve (R:=λv' w'=>w'.ownsRow 0 24 1 v' (ls.length+4) (ls++[.sk g 85 cap, .slice pa (85+1) qa, .slice F (85+2) qb, .slice pd (85+3) qd])/\w8.grownBy w' lv.ownBlock/\∀b,v'.ownBlock=some b->lv.ownBlock=some b\/b=w8.heap.size) f (λo s=>by obtain⟨v',w',r1,r2,_,r4⟩:=tO (t:=58) (z:= .slice none 0 0) (bytes:=24) (m:=4) (q:=4) k_ k_ rfl L8.ol nw (by simp[Ic]) rfl (f.get (d:=44) rfl) (f.get (d:=49) rfl) (by unfold maxLen;have:=C.len;omega) (by have:=C.len;omega) (aB0 _) o s;exact⟨v',w',r1,r2,r4,Nh (t:=58) (z:= .slice none 0 0) (bytes:=24) (m:=4) (q:=4) k_ k_ L8.ol nw (by simp[Ic]) rfl o_ (f.get (d:=44) rfl) (f.get (d:=49) rfl) (by unfold maxLen;have:=C.len;omega) (by have:=C.len;omega) s r1⟩) λv9 w9 ⟨o9,g9,k9⟩ a f=> ?_
 obtain⟨I,H,rfl⟩:=pg o9;have U:=(g9.block pb (aK an) (i8 L8.ol an d_)).trans an;have a7:∀u,iH w8 u m->iH w9 u m:=λu p=>p.keep λb o _ l=>(g9.block b (aK l) (i8 L8.ol l d_)).trans l
 iterate 2 refine Rn.ul f λa f=> ?_
 refine Rn.nn f (λo l=>fe rfl rfl k_ l (f.get (d:=52) rfl) (f.get (d:=50) rfl) U (d_:2<4)) λa f=> ?_;rw[show(xZ lb rb lv (.slice O ms.length cm)).setIfInBounds 2 (.slice I (ls.length+4) H)=xZ lb rb (.slice I (ls.length+4) H) (.slice O ms.length cm)from rfl];have ah:=gp (ds:=xZ lb rb (.slice I (ls.length+4) H) (.slice O ms.length cm)) o9 U d_;have bc:=pX (Y▸L8.om) L8.ol d_ g9;have S:=gp (ds:=xZ lb rb (.slice I (ls.length+4) H) (.slice O ms.length cm)) bc U d_;have V:=bZ (cs:=xZ lb rb (.slice I (ls.length+4) H) (.slice O ms.length cm)) (t:=60) U;have a4:=dn (w:=w9) pb (xZ lb rb (.slice I (ls.length+4) H) (.slice O ms.length cm)) 60;have ac:∀{b:Nat} {c:Array Value},w9.heap[b]?=some (.cells c 3)->¬b=pb:=λk e=>by rw[e,U]at k;injection k with k;injection k with _ k;cases k
 have G:∀(i:Nat) v J,ls[i]?=some v->ms[i]?=some J->iH (gK w9 pb (xZ lb rb (.slice I (ls.length+4) H) (.slice O ms.length cm)) 60) v J:=λi v J B A=>((L8.all i v J B A).keep λb o _ l=>(g9.block b (aK l) (i8 L8.ol l d_)).trans l).keep λb o _ l=>a4.at (ac l) l;have y:∀u,iH w9 u m->iH (gK w9 pb (xZ lb rb (.slice I (ls.length+4) H) (.slice O ms.length cm)) 60) u m:=λu p=>p.keep λb o _ l=>a4.at (ac l) l;have z9:=g9.size;have aq:=a4.size;have ap:Ex (λb=>b=pb\/b=g\/lv.ownBlock=some b\/mv.ownBlock=some b) w (gK w9 pb (xZ lb rb (.slice I (ls.length+4) H) (.slice O ms.length cm)) 60):=(((Ex.wide X7 λb _ e=> .inr (.inl e)).trans (Ex.of_below (X:=λ_=>False) b8) λ_ _ e=>e.elim).trans (⟨g9.os,g9.output,g9.tape,g9.size,λb k hx=>g9.block b k λe=>hx e.symm⟩:Ex (λb=>lv.ownBlock=some b) w8 w9) λb _ e=> .inr (.inr (.inl e))).trans a4 λb _ e=> .inl e;revert ah S V G y aq ap;generalize gK w9 pb (xZ lb rb (.slice I (ls.length+4) H) (.slice O ms.length cm)) 60=a6;intro ah S V G y aq ap
 iterate 5 refine Rn.ul f λa f=> ?_
 iterate 4 refine Rn.ul f λa f=> ?_
 refine Rn.al f (λo l=>P5 l (f.get (d:=58) rfl) (f.get (d:=59) rfl) (f.get (d:=60) rfl) (f.get (d:=61) rfl)) λL a a0 bp bv f=> ?_;have Q:=dL S a0;have ae:=bk a0 V;have aw:∀(j:Nat) u,(bS [m,m,m,m])[j]?=some u->L.cell? ((⟨a6.heap.size,0,none⟩:Addr).add j)=some u:=λj u p=>by rw[AS,as5,aH bp];simpa[bS]using p
 refine Rn.ve (R:=λv' w'=>w'.ownsRow 0 3 1 v' (ms.length+4) (bS ms++bS [m,m,m,m])/\L.grownBy w' mv.ownBlock/\∀b,v'.ownBlock=some b->mv.ownBlock=some b\/b=L.heap.size) f (λo s=>by obtain⟨v',w',r1,r2,_,r4⟩:=tO (t:=24) (z:= .int .i64 0) (bytes:=8) (m:=4) (q:=4) k_ k_ rfl Q aw (tG _) rfl (f.get (d:=57) rfl) (f.get (d:=62) rfl) (by unfold maxLen;omega) o_ (aB0 _) o s;rw[←Y]at r4;refine⟨v',w',r1,r2,r4, ?_⟩;have:=Nh (t:=24) (z:= .int .i64 0) (bytes:=8) (m:=4) (q:=4) k_ k_ Q aw (tG _) rfl o_ (f.get (d:=57) rfl) (f.get (d:=62) rfl) (by unfold maxLen;omega) o_ s r1;exact Y▸this) λbw a5 ⟨av,D,am⟩ a f=> ?_
 obtain⟨P,M,rfl⟩:=pg av;have bf:∀b,mv.ownBlock=some b->b<w.heap.size:=λb k=>wU C.om k;have E:=(D.block pb (aK ae) (λe=>be e.symm)).trans ae
 iterate 2 refine Rn.ul f λa f=> ?_
 refine Rn.nn f (λo l=>fe rfl rfl k_ l (f.get (d:=65) rfl) (f.get (d:=63) rfl) E (d_:3<4)) λa f=> ?_;rw[show(xZ lb rb (.slice I (ls.length+4) H) (.slice O ms.length cm)).setIfInBounds 3 (.slice P (ms.length+4) M)=xZ lb rb (.slice I (ls.length+4) H) (.slice P (ms.length+4) M)from rfl];have ag:=dn (w:=a5) pb (xZ lb rb (.slice I (ls.length+4) H) (.slice P (ms.length+4) M)) 60;have aj:∀{b:Nat} {c:Array Value},a5.heap[b]?=some (.cells c 3)->¬b=pb:=λk e=>by rw[e,E]at k;injection k with k;injection k with _ k;cases k
 have ab:∀u J,(∀b,u.ownBlock=some b->mv.ownBlock≠some b)->iH a6 u J->iH (gK a5 pb (xZ lb rb (.slice I (ls.length+4) H) (.slice P (ms.length+4) M)) 60) u J:=λu J bh p=>by refine((p.keep λb o _ l=>bk a0 l).keep λb o k l=> ?_).keep λb o _ l=>ag.at (aj l) l;exact(D.block b (aK l) λe=>bh b k e.symm).trans l
 have T:∀{u:Value} {b:Nat},u∈([.sk g 85 cap, .slice pa (85+1) qa, .slice F (85+2) qb, .slice pd (85+3) qd]:List Value)->u.ownBlock=some b->(b=g\/w.heap.size<=b)/\b<a6.heap.size:=λ{u b} p k=>by
  simp only[V4,PI,or_false]at p;rcases p with rfl|rfl|rfl|rfl
  .have k:some g=some b:=k;cases k;exact⟨.inl rfl,o_⟩
  .rw[ea]at k;cases k;exact⟨na.imp id λh=>o_,o_⟩
  .rw[eb]at k;cases k;exact⟨nb.imp id λh=>o_,o_⟩
  .rw[ed]at k;cases k;exact⟨nd.imp id λh=>o_,o_⟩
 have ad:∀{u:Value} {b:Nat},u∈([.sk g 85 cap, .slice pa (85+1) qa, .slice F (85+2) qb, .slice pd (85+3) qd]:List Value)->u.ownBlock=some b->mv.ownBlock≠some b:=λ{u b} p k e=>by
  have:=bf b e;rcases(T p k).1 with rfl|h
  .exact ao e
  .omega
 have ay:∀{u:Value},u∈([.sk g 85 cap, .slice pa (85+1) qa, .slice F (85+2) qb, .slice pd (85+3) qd]:List Value)->iH a6 u m:=λ{u} p=>by
  simp only[V4,PI,or_false]at p;rcases p with rfl|rfl|rfl|rfl
  .exact y _ (a7 _ (a8 _ A7))
  .exact y _ (a7 _ (a8 _ br))
  .exact y _ (a7 _ (a8 _ bq))
  .exact y _ (a7 _ (a8 _ Ad))
 have bu:=D.size;have bt:=ag.size;refine Rn.g0 f ⟨rfl,_,_,ls++[.sk g 85 cap, .slice pa (85+1) qa, .slice F (85+2) qb, .slice pd (85+3) qd],ms++[m,m,m,m],bZ E,⟨?_, ?_, ?_, ?_, ?_, ?_, ?_⟩,s_,λb k=>(k9 b k).imp id λh=>o_,λb k=>(am b k).imp id λh=>o_, ?_, ?_⟩
 .rw[V7];exact gp (pX (dL ah a0) (Y.symm▸Q) d_ D) E d_
 .rw[V7,show bS (ms++[m,m,m,m])=bS ms++bS [m,m,m,m]from Q4 ..];exact gp av E d_
 .rw[V7,V7,C.len];rfl
 .intro i v J B A;by_cases hi:i<ls.length
  .rw[as9 hi]at B;rw[as9 (by exact C.len▸hi)]at A;exact ab v J (λb k=>(C.apart v b (mG B) k).1) (G i v J B A)
  .rw[as1 o_]at B;rw[as1 (by rw[←C.len];omega)]at A;have x:=mG B;have bi:J=m:=by have:=mG A;simpa using this
   rw[bi];exact ab v m (λb k=>ad x k) (ay x)
 .intro v b x k;have b0:∀b,b<L.heap.size->mv.ownBlock≠some b->(aK2 P (ms.length+4) M).ownBlock≠some b:=λb B A e=>(am b e).elim A λh=>o_
  rcases av1.1 x with x|x
  .obtain⟨a1,a2,a3⟩:=C.apart v b x k;exact⟨b0 b o_ a1,a2,o_⟩
  .obtain⟨a1,a2⟩:=T x k;exact⟨b0 b o_ (ad x k),λhz=>a1.elim (λh=>bl (h▸hz)) λh=>by have:=b3 b hz;omega,o_⟩
 .exact λb e hz=>(am b e).elim (λh=>C.mw b h hz) λh=>by have:=b3 b hz;omega
 .intro v x;rcases av1.1 x with x|x
  .exact C.small v x
  .simp only[V4,PI,or_false]at x;rcases x with rfl|rfl|rfl|rfl<;>exact⟨_,_,_,rfl,o_⟩
 .intro v b x k;rcases av1.1 x with x|x
  .exact .inl x
  .exact .inr (T x k).1
 .exact((ap.trans (Ex.of_below (X:=λ_=>False) a0) λ_ _ e=>e.elim).trans (⟨D.os,D.output,D.tape,D.size,λb k hx=>D.block b k λe=>hx e.symm⟩:Ex (λb=>mv.ownBlock=some b) L a5) λb _ e=> .inr (.inr (.inr e))).trans ag λb _ e=> .inl e
end
def SX(f:Func):Code:= .seq (.seq (rG f 4) (.cond (.tmp 14) .skip (.exit 0))) (.seq (.block 1 (.seq (rD f 6) (.cond (.tmp 25) (.seq (rG f 7) .ret) .skip))) (rG f 5))
def Wl(f:Func):Code:= .seq (rG f 8) .ret
def TN:f61.body=some (.seq (rG f61 0) (.seq (.seq (rG f61 1) (.cond (.tmp 10) (.seq (rG f61 2) .ret) .skip)) (.seq (.seq (rG f61 3) (.block 0 (.loop (SX f61)))) (Wl f61)))):=k_
section
variable{W:List Int}{va vb:Value}
def IZ{r p}{h g}(K:W.length<=1000)(D:fm w0 (.slice r W.length h) (bS W))(C:fm w0 (.slice p W.length g) (bS W))(v:∀a w I,Bw w0 w->Has [(4, .bool true)] 26 [] a->Rn lT Goal ((base 61).atR a (.code .ret::I)) cs w):
 ∀q i w a,W.length- i=q->i<=W.length->Bw w0 w->Has [(0, .slice r W.length h),(1, .slice p W.length g),(5, .i i)] 26 [] a->Rn lT Goal ((base 61).atR a [.code (SX f61), .inLoop (SX f61), .inBlock 0, .code (Wl f61)]) cs w:=by
 have⟨_,_,k,H⟩:=D;have⟨_,_,j,G⟩:=C;injection k with k;injection j with j;subst k j;intro q;induction q with
 |zero=>
  intro i w a A B f b
  iterate 4 refine Rn.ul b λa b=> ?_
  refine Rn.p rfl (Rn.cond _ (b.G 14) ?_);rw[decide_eq_false o_];refine Rn.ul b λa b=> ?_;exact Rn.p rfl (v _ _ _ f b.O)
 |succ q x=>
  intro i w a A B f b;have d:i<W.length:=o_
  have s:(bS W)[i]?=some (.i W[i]):=by simp[bS,d]
  obtain⟨m,rfl,F⟩:=H i _ s;obtain⟨l,rfl,E⟩:=G i _ s
  iterate 4 refine Rn.ul b λa b=> ?_
  refine Rn.p rfl (Rn.cond _ (b.G 14) ?_);rw[decide_eq_true o_];have b:Has [(0, .slice (some m) W.length h),(1, .slice (some l) W.length g),(5, .i i)] 26 [] a:=b.O
  iterate 4 refine Rn.p rfl ?_
  refine Rn.gt b ?_
  iterate 2 refine j_ ?_
  refine n_ ?_ (y:=λo a w c z=>(dI (e:=3) k_ s_ c gx gx d).1);refine n_ ?_ (y:=λo a w c z=>(aO bH c gx (bM z.b (bM f F))).1)
  iterate 2 refine j_ ?_
  refine n_ ?_ (y:=λo a w c z=>(dI (e:=3) k_ s_ c gx gx d).1);refine n_ ?_ (y:=λo a w c z=>(aO bH c gx (bM z.b (bM f E))).1);refine j_ ?_;rw[show(W[i] !=W[i])=false from s_];refine q_ λa u b J _=>Rn.cond _ (b.G 25) ?_;refine Rn.ul b λa b=> ?_;refine Rn.vv b (λo c=>cJ (n:=1) c (b.G 15) rfl o_) λa b=> ?_;refine Rn.ul b λa b=> ?_;exact Rn.p rfl (Rn.p rfl (x (i+1) u _ o_ o_ (aD f f.size J) b.O))
def rR(j:W.length<=1000)(d:fm w va (bS W))(c:fm w vb (bS W)):Calls lT 61 #[va,vb] w λe w'=>e= .returned (.bool true)/\Bw w w':=by
 have⟨n,l,g,_⟩:=id d;have⟨m,k,f,_⟩:=id c;have h:(bS W).length=W.length:=by simp[bS]
 rw[h]at g f;subst g f;refine eK lf61 TN λo a b=> ?_
 iterate 6 refine Rn.ul b λa b=> ?_
 rw[show(((W.length:Nat):Int) !=(W.length:Nat))=false from s_]at b;refine Rn.p rfl (Rn.cond _ (b.G 10) ?_);refine Rn.ul b λa b=> ?_;exact Rn.p rfl (Rn.p rfl (Rn.p rfl (IZ j d c (λa w' I i b=>Rn.fi b ⟨rfl,i⟩) W.length 0 w _ o_ o_ (bR) b.O)))
end
def HT(f:Func):Code:= .seq (.seq (rG f 5) (.cond (.tmp 23) .skip (.exit 2))) (.seq (.block 3 (.seq (rD f 7) (.cond (.tmp 43) (.seq (rG f 8) .ret) .skip))) (rG f 6))
def T0(f:Func):Code:= .seq (.seq (rG f 2) (.cond (.tmp 11) .skip (.exit 0))) (.seq (.block 1 (.seq (rG f 4) (.block 2 (.loop (HT f))))) (rG f 3))
def Wn(f:Func):Code:= .seq (rG f 9) .ret
def U7:f26.body=some (.seq (rG f26 0) (.seq (.seq (rG f26 1) (.block 0 (.loop (T0 f26)))) (Wn f26))):=k_
section
variable{Z:Nat->Prop}{pb lb rb:Nat}{lv mv:Value}{ls:List Value}{ms:List Int}
def PE{pl}{ql}{l}{A}{p}{B}{m}{I}(r:w0.heap[pb]?=some (.cells (xZ lb rb (.slice pl ls.length ql) (.slice p ms.length B)) 60))(s:i<ls.length)(j:i<ms.length)(h g)(L:pl=some h)(K:p=some g)(v:w0.cell? (h.add i)=some (.slice l n A))(M:w0.cell? (g.add i)=some (.i m))(P:n<=1000)(H:∀k,k<n->∃ad,l=some ad/\w0.cell? (ad.add k)=some (.i m))
 (D:∀a w,Bw w0 w->Has [(0, .pt pb),(3, .i i)] 44 [] a->Rn lT Goal ((base 26).atR a (.inBlock 1::I)) cs w):
 ∀q k w a,n- k=q->k<=n->Bw w0 w->Has [(0, .pt pb),(3, .i i),(4, .i k)] 44 [] a->Rn lT Goal ((base 26).atR a (.code (HT f26):: .inLoop (HT f26):: .inBlock 2:: .inBlock 1::I)) cs w:=by
 subst L K;have u:∀{w:World} {a:Act} {k:Nat} {J:List Item},Bw w0 w->Has [(0, .pt pb),(3, .i i),(4, .i k)] 44 [] a->(∀a,Has [(23, .bool (decide ((k:Int)<n))),(0, .pt pb),(3, .i i),(4, .i k)] 44 [] a->Rn lT Goal ((base 26).atR a (.inRegion (bP f26 5) []:: .code (.cond (.tmp 23) .skip (.exit 2))::J)) cs w)->Rn lT Goal ((base 26).atR a (.code (.seq (rG f26 5) (.cond (.tmp 23) .skip (.exit 2)))::J)) cs w:=λ{w a k J} d b C=>by
  have f:=bk d r
  iterate 6 refine Rn.ul b λa b=> ?_
  refine Rn.vv b (λo c=>(dI (e:=24) k_ s_ c (b.G 18) (b.G 19) s).1) λa b=> ?_;refine Rn.vv b (λo c=>(aO AC c (b.G 20) (bM d v)).1) λa b=> ?_
  iterate 2 refine Rn.ul b λa b=> ?_
  exact C _ b.O
 intro q;induction q with
 |zero=>
  intro k w a F G d b;refine Rn.p rfl (u d b λa b=> ?_);refine Rn.p rfl (Rn.cond _ (b.G 23) ?_);rw[decide_eq_false o_];exact Rn.p rfl (D _ _ d b.O)
 |succ q E=>
  intro k w a F G d b;obtain⟨ad,rfl,N⟩:=H k o_;have f:=bk d r;refine Rn.p rfl (u d b λa b=> ?_);refine Rn.p rfl (Rn.cond _ (b.G 23) ?_);rw[decide_eq_true o_];have b:Has [(0, .pt pb),(3, .i i),(4, .i k)] 44 [] a:=b.O
  iterate 4 refine Rn.p rfl ?_
  refine Rn.gt b ?_
  iterate 3 refine j_ ?_
  refine n_ ?_;refine j_ ?_;refine n_ ?_ (y:=λo a w c z=>(dI (t:=58) (e:=24) k_ s_ c gx gx s).1);refine n_ ?_ (y:=λo a w c z=>(aO AC c gx (bM z.b (bM d v))).1);refine j_ ?_;refine n_ ?_ (y:=λo a w c z=>(dI (ql:=true) (t:=24) (e:=3) k_ s_ c gx gx o_).1);refine n_ ?_ (y:=λo a w c z=>(aO bH c gx (bM z.b (bM d N))).1)
  iterate 3 refine j_ ?_
  refine n_ ?_ (y:=λo a w c z=>(aO AC c gx ((aH (bk z.b f) 3).trans rfl)).1);refine j_ ?_;refine n_ ?_ (y:=λo a w c z=>(dI (ql:=true) (t:=24) (e:=3) k_ s_ c gx gx j).1);refine n_ ?_ (y:=λo a w c z=>(aO bH c gx (bM z.b (bM d M))).1);refine j_ ?_;rw[show(m !=m)=false from s_];refine q_ λa x b O _=>Rn.cond _ (b.G 43) ?_;refine Rn.ul b λa b=> ?_;refine Rn.vv b (λo c=>cJ (n:=1) c (b.G 24) rfl o_) λa b=> ?_;refine Rn.ul b λa b=> ?_;exact Rn.p rfl (Rn.p rfl (E (k+1) x _ o_ o_ (aD d d.size O) b.O))
def Ml(h:w0.heap[pb]?=some (.cells (xZ lb rb lv mv) 60))(f:Ls w0 Z lv mv ls ms)(E:ms.length<=1000000000)(z:∀a w I,Bw w0 w->Has [(2, .bool true)] 44 [] a->Rn lT Goal ((base 26).atR a (.code .ret::I)) cs w):
 ∀q i w a,ls.length- i=q->i<=ls.length->Bw w0 w->Has [(0, .pt pb),(3, .i i)] 44 [] a->Rn lT Goal ((base 26).atR a [.code (T0 f26), .inLoop (T0 f26), .inBlock 0, .code (Wn f26)]) cs w:=by
 have⟨pl,W,M,Q⟩:=tr f.ol;have⟨Y,V,t,P⟩:=tr f.om;rw[show(bS ms).length=ms.length from by simp[bS]]at t;rw[M,t]at h;have r:=f.len;intro q;induction q with
 |zero=>
  intro i w a B G e c;have j:=bk e h
  iterate 7 refine Rn.ul c λa c=> ?_
  refine Rn.p rfl (Rn.cond _ (c.G 11) ?_);rw[decide_eq_false o_];refine Rn.ul c λa c=> ?_;exact Rn.p rfl (z _ _ _ e c.O)
 |succ q A=>
  intro i w a B G e c;have d:i<ls.length:=o_
  have j:=bk e h;have⟨p,T,u⟩:=Q i ls[i] s_;have⟨l,S,N⟩:=P i (.i ms[i]) (by simp[bS,o_]);have⟨X,n,U,s,D⟩:=f.small ls[i] s_;have⟨y,n',x,g,H⟩:=f.all i ls[i] ms[i] s_ s_;rw[s]at g;injection g with e1 e2 e3;subst e1 e2 e3;rw[s]at u
  iterate 7 refine Rn.ul c λa c=> ?_
  refine Rn.p rfl (Rn.cond _ (c.G 11) ?_);rw[decide_eq_true o_];refine Rn.ul c λa c=> ?_
  iterate 3 refine Rn.p rfl ?_
  refine PE h d o_ p l T S u N D (λk F=> ?_) (λa v R c=> ?_) n 0 w _ o_ o_ e c.O
  .have⟨b,O,L,K,J⟩:=H k F;exact⟨_,L,by rw[AS,as5,aH K];exact J⟩
  refine Rn.ul c λa c=> ?_;refine Rn.vv c (λo C=>cJ (n:=1) C (c.G 12) rfl o_) λa c=> ?_;refine Rn.ul c λa c=> ?_;exact Rn.p rfl (Rn.p rfl (A (i+1) v _ o_ o_ R c.O))
def JH(d:w.heap[pb]?=some (.cells (xZ lb rb lv mv) 60))(g:Ls w Z lv mv ls ms)(c:ms.length<=1000000000):Calls lT 26 #[.pk pb 0] w λe w'=>e= .returned (.bool true)/\Bw w w':=by
 refine eK lf26 U7 λh a b=> ?_
 iterate 2 refine Rn.ul b λa b=> ?_
 exact Rn.p rfl (Rn.p rfl (Rn.p rfl (Ml d g c (λa w' I f b=>Rn.fi b ⟨rfl,f⟩) ls.length 0 w _ o_ o_ (bR) b.O)))
end
def pN(w:World)(b:Nat)(L:List Int):Prop:=∃cur:Array Value,w.heap[b]?=some (.cells cur 3)/\∀(i:Nat) x,L[i]?=some x->cur[i]?=some (Value.int .i64 x)
def Zs(wb hb tb:Nat)(b:Nat):Prop:=b=wb\/b=hb\/b=tb
section
variable{L:List Int}{X:Nat->Prop}
def pN.keep(h:pN w b L)(a:Ex X w w')(d:¬X b):pN w' b L:=let ⟨c,h1,h2⟩:=h;⟨c,a.at d h1,h2⟩
def pN.rng(h:pN w b L):w.rangeAt b 0 (L.map (Value.int .i64)):=λj v a=>by have⟨c,f,e⟩:=h;rw[List.getElem?_map,IT]at a;obtain⟨x,d,rfl⟩:=a;rw[as5,aH f];exact e j x d
def pN.lt(h:pN w b L):b<w.heap.size:=let ⟨_,h1,_⟩:=h;aK h1
def pN.is(h:pN w b L)(q):fm w (.sk b L.length q) (bS L):=⟨some ⟨b,0,none⟩,q,by simp[bS],λi u a=>⟨⟨b,0,none⟩,rfl,by rw[AS];exact h.rng i u a⟩⟩
end
structure jK (w:World) (pb lb cb fb fq rb fr frq wb qw kb qk hb hq tb tq:Nat) (KS V K:List Int) (L:ByteArray) (on:Bool) (sl:Int) (up:Bool) (rs:Int) (lv mv:Value) (ls:List Value) (ms:List Int):Prop where
 pr:w.heap[pb]?=some (.cells (xZ lb rb lv mv) 60)
 lin:w.heap[lb]?=some (.cells #[.pk cb 0] 127)
 ch:nF w cb (.sk fb L.size fq) V K on sl
 fls:qP w (.sk fb L.size fq) L
 ref:w.heap[rb]?=some (.cells (oP (.sk hb 8 hq) (.sk tb 64 tq) (.sk fr L.size frq) (.sk wb 85 qw) (.sk kb 16 qk) up rs) 107)
 rfs:qP w (.sk fr L.size frq) L
 wds:pN w wb V
 kpt:Bo w kb qk K
 hsh:pN w hb H0
 tab:pN w tb KS
 lst:Ls w (Zs wb hb tb) lv mv ls ms
 nk:kb≠fb/\kb≠fr
def qP.keepB{b d}{L}{X}(h:qP w (.sk b n d) L)(g:Ex X w w')(i:¬X b):qP w' (.sk b n d) L:=by have⟨m,f,c,a,o,e,l,k,j⟩:=h;cases e;exact⟨m,b,d,a,o,rfl,l,g.at i k,j⟩
section
variable{pb lb cb fb fq rb fr frq wb qw kb qk hb hq tb tq:Nat}{V K:List Int}{L:ByteArray}{on:Bool}{sl:Int}{up:Bool}{rs:Int}{lv mv:Value}{ls:List Value}{ms:List Int}
def jK.ex{X}(h:jK w pb lb cb fb fq rb fr frq wb qw kb qk hb hq tb tq KS V K L on sl up rs lv mv ls ms)(a:Ex X w w')(g:¬X lb/\¬X cb/\¬X fb/\¬X rb/\¬X fr/\¬X wb/\¬X kb/\¬X hb/\¬X tb){c b}{e}{d}(f:w'.heap[pb]?=some (.cells (xZ lb rb c b) 60))(i:Ls w' (Zs wb hb tb) c b e d):jK w' pb lb cb fb fq rb fr frq wb qw kb qk hb hq tb tq KS V K L on sl up rs c b e d:=
 let ⟨n1,n2,n3,n4,n5,n6,n7,n8,n9⟩:=g
 ⟨f,a.at n1 h.lin,h.ch.ex a n2,h.fls.keepB a n3,a.at n4 h.ref,h.rfs.keepB a n5,h.wds.keep a n6,h.kpt.keep a n7,h.hsh.keep a n8,h.tab.keep a n9,i,h.nk⟩
def jK.below(h:jK w pb lb cb fb fq rb fr frq wb qw kb qk hb hq tb tq KS V K L on sl up rs lv mv ls ms)(a:Bw w w'):jK w' pb lb cb fb fq rb fr frq wb qw kb qk hb hq tb tq KS V K L on sl up rs lv mv ls ms:=
 h.ex (Ex.of_below (X:=λ_=>False) a) s_ (bk a h.pr) (h.lst.below a)
end
def KF(k:Int):Array Value:=#[.int .i64 k, .int .i64 0, .int .i64 0, .int .i64 0, .slice none 0 0]
def OR(a:o.op= .fieldAddr 70 x 0)(c:ev x= .pk b 0):(execOp ev o).run lT w= .ok (.value (.pk b 0)) w:=by simp[execOp,a,c];kernel_rfl
def Ek{k}(a:o.op= .build 70 #[(0,x)])(b:ev x= .i k):(execOp ev o).run lT w= .ok (.value (.agg (KF k))) w:=by simp[execOp,a,b];kernel_rfl
def Y6(f:Func):Code:=(.seq (rG f 15) (.cond (.tmp 81) (.seq (rG f 16) (.seq (rG f 17) .ret)) (.seq (rG f 18) (.cond (.tmp 98) (.seq (rG f 19) (.seq (rG f 20) (.seq (rG f 21) (.seq (rG f 22) (.seq (rG f 23) (.seq (rG f 24) (.seq (rG f 25) .ret))))))) (.seq (rG f 26) (.cond (.tmp 138) (.seq (rG f 27) (.seq (rG f 28) .ret)) .skip))))))
def Y7(f:Func):Code:=(.seq (rG f 0) (.seq (.seq (rG f 1) (.block 0 (.seq (rG f 2) (.cond (.tmp 17) (.seq (rG f 3) .ret) (.seq (rG f 4) (.cond (.tmp 23) (.seq (rD f 5) (.seq (rD f 6) (.seq (rG f 7) .ret))) (.seq (rG f 8) (.cond (.tmp 46) (.seq (rD f 9) (.seq (rD f 10) (.seq (rG f 11) .ret))) (.seq (rG f 12) (.cond (.tmp 69) (.seq (rG f 13) (rG f 14)) (Y6 f))))))))))) (.seq (rG f 29) .ret)))
def FN:f25.body=some (Y7 f25):=k_
def wO{k}{d}(b:Has [(0,d),(1, .agg (KF k))] 155 [] a)(h:k≠1/\k≠2/\k≠3/\k≠4)
 (next:∀a w1,Bw w w1->Has [(0,d),(16, .i k)] 155 [] a->Rn lT Goal ((base 25).atR a [.code (Y6 f25), .inBlock 0, .code (.seq (rG f25 29) .ret)]) cs w1):
 Rn lT Goal ((base 25).atR a [.code (Y7 f25)]) cs w:=by refine Rn.zz b λw1 a f e g b=> ?_;refine Rn.ul b λa b=> ?_;refine Rn.vv b (λo c=>OR c (b.G 3)) λa b=> ?_;refine Rn.vv b (λo c=>(aO bH c (b.G 15) ((aH e 0).trans rfl)).1) λa b=> ?_;refine Rn.vv b (λo c=>m9 c (b.G 16) rfl) λa b=> ?_;rw[show(k==1)=false from by simp_all]at b;refine Rn.ul b λa b=> ?_;refine Rn.p rfl (Rn.cond _ (b.G 17) ?_);refine Rn.vv b (λo c=>m9 c (b.G 16) rfl) λa b=> ?_;rw[show(k==2)=false from by simp_all]at b;refine Rn.ul b λa b=> ?_;refine Rn.p rfl (Rn.cond _ (b.G 23) ?_);refine Rn.vv b (λo c=>m9 c (b.G 16) rfl) λa b=> ?_;rw[show(k==3)=false from by simp_all]at b;refine Rn.ul b λa b=> ?_;refine Rn.p rfl (Rn.cond _ (b.G 46) ?_);refine Rn.vv b (λo c=>m9 c (b.G 16) rfl) λa b=> ?_;rw[show(k==4)=false from by simp_all]at b;refine Rn.ul b λa b=> ?_;refine Rn.p rfl (Rn.cond _ (b.G 69) ?_);exact next _ _ f b.O
section
variable{pb lb cb fb fq rb fr frq wb qw kb qk hb hq tb tq:Nat}{V K:List Int}{L:ByteArray}{on:Bool}{sl:Int}{up:Bool}{rs:Int}{lv mv:Value}{ls:List Value}{ms:List Int}
def W7(h:jK w pb lb cb fb fq rb fr frq wb qw kb qk hb hq tb tq KS V K L on sl up rs lv mv ls ms):Calls lT 25 #[.pk pb 0, .agg (KF 5)] w λe w'=>e= .returned (.bool true)/\Bw w w':=by
 refine aW lf25 rfl λA=> ?_;rw[aT [.pk pb 0, .agg (KF 5)] lf25 FN rfl];refine wO (aN [.pk pb 0, .agg (KF 5)] 155 s_) d_ λa z p b=> ?_;have g:=h.below p;have u:=g.pr;have s:=g.ref;refine Rn.vv b (λo i=>m9 i (b.G 16) rfl) λa b=> ?_;refine Rn.ul b λa b=> ?_;refine Rn.p rfl (Rn.cond _ (b.G 81) ?_)
 iterate 4 refine Rn.ul b λa b=> ?_
 refine Rn.cw b lf59 (PN g.lin g.ch g.fls) λq r a b=> ?_;subst r
 iterate 9 refine Rn.ul b λa b=> ?_
 have⟨_,f,c,d,y,e,x,k,_,l⟩:=g.rfs;cases e;rw[show Value.sk fr L.size frq= .sk fr L.data.toList.length frq from by simp_all]at b;refine Rn.vv b (λo i=>Ef i (b.G 95) λj v=> ?_) λa b=> ?_
 .rw[show q.cell? ⟨fr,j,none⟩=d[j]? from by simp[AT,k]];exact l j v
 refine Rn.ul b λa b=> ?_;rw[beq_self_eq_true]at b;refine Rn.ul b λa b=> ?_;exact Rn.fi b ⟨rfl,p⟩
def W5(h:jK w pb lb cb fb fq rb fr frq wb qw kb qk hb hq tb tq KS V K L on sl up rs lv mv ls ms):Calls lT 25 #[.pk pb 0, .agg (KF 7)] w λe w'=>e= .returned (.bool true)/\Bw w w':=by
 refine aW lf25 rfl λv=> ?_;rw[aT [.pk pb 0, .agg (KF 7)] lf25 FN rfl];refine wO (aN [.pk pb 0, .agg (KF 7)] 155 s_) d_ λa u i b=> ?_;have f:=h.below i;have p:=f.pr;have l:=f.ref;refine Rn.vv b (λo c=>m9 c (b.G 16) rfl) λa b=> ?_;refine Rn.ul b λa b=> ?_;refine Rn.p rfl (Rn.cond _ (b.G 81) ?_);refine Rn.vv b (λo c=>m9 c (b.G 16) rfl) λa b=> ?_;refine Rn.ul b λa b=> ?_;refine Rn.p rfl (Rn.cond _ (b.G 98) ?_);refine Rn.vv b (λo c=>m9 c (b.G 16) rfl) λa b=> ?_;refine Rn.ul b λa b=> ?_;refine Rn.p rfl (Rn.cond _ (b.G 138) ?_)
 iterate 4 refine Rn.ul b λa b=> ?_
 refine Rn.cw b lf63 (Ta f.lin f.ch) λs k a b=> ?_;subst k
 iterate 9 refine Rn.ul b λa b=> ?_
 have g:=f.kpt;have q:(K.map λx=>ZJ x.toNat).length=16:=by simpa using g.1.1
 rw[show Value.sk kb 16 qk= .sk kb (K.map λx=>ZJ x.toNat).length qk from by rw[q]]at b;refine Rn.vv b (λo c=>Ef c (b.G 152) λj r=> ?_) λa b=> ?_
 .have d:j<K.length:=by simpa using r
  rw[I2 g d,az0];have:=g.1.2 j d
  congr 2
  rw[aM0];omega
 refine Rn.ul b λa b=> ?_;rw[show((RV K).data.toList==(ByteArray.mk (K.map λx=>ZJ x.toNat).toArray).data.toList)=true from by rw[beq_iff_eq];rfl]at b;refine Rn.ul b λa b=> ?_;exact Rn.fi b ⟨rfl,i⟩
end
section
variable{pb lb cb fb fq rb fr frq wb qw kb qk hb hq tb tq:Nat}{V K:List Int}{L:ByteArray}{on:Bool}{sl:Int}{up:Bool}{rs:Int}{lv mv:Value}{ls:List Value}{ms:List Int}
def Xl(pb:Nat)(lv mv:Value)(b:Nat):Prop:=b=pb\/lv.ownBlock=some b\/mv.ownBlock=some b
def VG{w:World}{c}{x y}{fx f}(a:w.heap[b]?=some (.cells x t fx))(d:w.heap[c]?=some (.cells y u f))(h:t≠u):b≠c:=λe=>by simp_all
def jK.off(h:jK w pb lb cb fb fq rb fr frq wb qw kb qk hb hq tb tq KS V K L on sl up rs lv mv ls ms):¬Xl pb lv mv lb/\¬Xl pb lv mv cb/\¬Xl pb lv mv fb/\¬Xl pb lv mv rb/\¬Xl pb lv mv fr/\¬Xl pb lv mv wb/\¬Xl pb lv mv kb/\¬Xl pb lv mv hb/\¬Xl pb lv mv tb:=by
 have gen:∀{b:Nat} {x:Array Value} {t:TypeId} {f:Nat×Nat},w.heap[b]?=some (.cells x t f)->t≠60->t≠24->(t≠3\/∃c,Zs wb hb tb b/\c=b)->¬Xl pb lv mv b:=λ{b x t f} hb h1 h2 h3=>by
  rintro(rfl|e|e)
  .exact VG hb h.pr h1 rfl
  .exact i8 h.lst.ol hb h2 e.symm
  .obtain h3|⟨_,h3,_⟩:=h3
   .exact i8 h.lst.om hb h3 e.symm
   .exact h.lst.mw b e h3
 have⟨_,f1,c1,x1,z1,e1,_,hf,_⟩:=h.fls;cases e1;have⟨_,f2,c2,x2,z2,e2,_,hr,_⟩:=h.rfs;cases e2;have⟨_,_,x3,z3,hk,_⟩:=h.kpt;have⟨x4,hw,_⟩:=h.wds;have⟨x5,hh,_⟩:=h.hsh;have⟨x6,ht,_⟩:=h.tab;exact⟨gen h.lin d_ d_ s_,gen h.ch.2.2 d_ d_ s_,gen hf d_ d_ s_,gen h.ref d_ d_ s_,gen hr d_ d_ s_,gen hw d_ d_ (.inr ⟨_, .inl rfl,rfl⟩),gen hk d_ d_ s_,gen hh d_ d_ (.inr ⟨_, .inr (.inl rfl),rfl⟩),gen ht d_ d_ (.inr ⟨_, .inr (.inr rfl),rfl⟩)⟩
def jK.blocks(h:jK w pb lb cb fb fq rb fr frq wb qw kb qk hb hq tb tq KS V K L on sl up rs lv mv ls ms):lb<w.heap.size/\cb<w.heap.size/\fb<w.heap.size/\rb<w.heap.size/\fr<w.heap.size/\wb<w.heap.size/\kb<w.heap.size/\hb<w.heap.size/\tb<w.heap.size:=by have⟨_,n,p,l,i,e,_,c,_⟩:=h.fls;cases e;have⟨_,m,o,k,g,d,_,a,_⟩:=h.rfs;cases d;have⟨_,_,j,f,b,_⟩:=h.kpt;exact⟨aK h.lin,h.ch.lt,aK c,aK h.ref,aK a,h.wds.lt,aK b,h.hsh.lt,h.tab.lt⟩
def WU(w0:World)(pb lb cb fb fq rb fr frq wb qw kb qk hb hq tb tq:Nat)(KS V K:List Int)(L:ByteArray)(on:Bool)(sl:Int)(up:Bool)(rs:Int)(lv mv:Value)(ls:List Value)(n:Nat)(w:World):Prop:=∃lv' mv' ls' ms',jK w pb lb cb fb fq rb fr frq wb qw kb qk hb hq tb tq KS V K L on sl up rs lv' mv' ls' ms'/\ms'.length=n/\(∀b,lv'.ownBlock=some b->lv.ownBlock=some b\/w0.heap.size<=b)/\(∀b,mv'.ownBlock=some b->mv.ownBlock=some b\/w0.heap.size<=b)/\(∀v b,v∈ls'->v.ownBlock=some b->v∈ls\/w0.heap.size<=b)/\Ex (Xl pb lv mv) w0 w
def QS{g cap}{W}(h:jK w pb lb cb fb fq rb fr frq wb qw kb qk hb hq tb tq KS V K L on sl up rs lv mv ls ms)(k:ms.length<=1000000000)(R:w.ownsRow 0 3 1 (.sk g 85 cap) 85 (bS W))(n:mv.ownBlock≠some g)(m:¬Zs wb hb tb g)(o:∀v,v∈ls->v.ownBlock≠some g)(U:w0.heap.size<=g)(l:lb<w0.heap.size/\cb<w0.heap.size/\fb<w0.heap.size/\rb<w0.heap.size/\fr<w0.heap.size/\wb<w0.heap.size/\kb<w0.heap.size/\hb<w0.heap.size/\tb<w0.heap.size):
 Calls lT 62 #[.pk pb 0, .sk g 85 cap] w λe w'=>e= .returned (.tuple #[])/\∃f c i d,jK w' pb lb cb fb fq rb fr frq wb qw kb qk hb hq tb tq KS V K L on sl up rs f c i d/\d.length=ms.length+4/\(∀b,f.ownBlock=some b->lv.ownBlock=some b\/w.heap.size<=b)/\(∀b,c.ownBlock=some b->mv.ownBlock=some b\/w.heap.size<=b)/\(∀v b,v∈i->v.ownBlock=some b->v∈ls\/b=g\/w.heap.size<=b)/\Ex (λb=>Xl pb lv mv b\/b=g) w w':=
 (La h.pr h.lst k R n (λb O=>by
   have⟨_,_,_,_,_,b6,_,b8,b9⟩:=h.blocks;rcases O with rfl|rfl|rfl<;>assumption) m o).mono λe w' ⟨Y,f,c,i,d,Q,T,S,N,M,J,P⟩=>by
   have j:Ex (λb=>Xl pb lv mv b\/b=g) w w':=Ex.wide P λb _ e=>by
    obtain e|e|e|e:=e
    .exact .inl (.inl e)
    .exact .inr e
    .exact .inl (.inr (.inl e))
    .exact .inl (.inr (.inr e))
   have⟨z,y,x,u,t,s,r,q,p⟩:=h.off;have⟨I,H,G,F,E,D,C,B,A⟩:=l;have a:∀{b:Nat},b<w0.heap.size->¬Xl pb lv mv b->¬(Xl pb lv mv b\/b=g):=λZ X e=>e.elim X o_;exact⟨Y,f,c,i,d,h.ex j ⟨a I z,a H y,a G x,a F u,a E t,a D s,a C r,a B q,a A p⟩ Q T,S,N,M,J,j⟩
def W6(hV:V.length=85)(h:jK w pb lb cb fb fq rb fr frq wb qw kb qk f hq tb tq KS V K L on sl up rs lv mv ls ms)(aa:ms.length<=100000000):Calls lT 25 #[.pk pb 0, .agg (KF 6)] w λe w'=>e= .returned (.bool true)/\WU w pb lb cb fb fq rb fr frq wb qw kb qk f hq tb tq KS V K L on sl up rs lv mv ls (ms.length+8) w':=by
 refine aW lf25 rfl λcs=> ?_;rw[aT [.pk pb 0, .agg (KF 6)] lf25 FN rfl];refine wO (aN [.pk pb 0, .agg (KF 6)] 155 s_) d_ λa w1 I d=> ?_;have s:=h.below I;have a9:=s.pr;refine Rn.vv d (λo C=>m9 C (d.G 16) rfl) λa d=> ?_;refine Rn.ul d λa d=> ?_;refine Rn.p rfl (Rn.cond _ (d.G 81) ?_);refine Rn.vv d (λo C=>m9 C (d.G 16) rfl) λa d=> ?_;refine Rn.ul d λa d=> ?_;refine Rn.p rfl (Rn.cond _ (d.G 98) ?_)
 iterate 4 refine Rn.ul d λa d=> ?_
 refine Rn.cl d lf60 (Gg s.lin s.ch) λv2 w2 ⟨o2,b2⟩ a d=> ?_;have r:=s.below b2;have a5:=r.pr
 iterate 5 refine Rn.ul d λa d=> ?_
 refine Rn.cl d lf60 (Gg r.lin r.ch) λv3 w3 ⟨o3,H⟩ a d=> ?_;have G:=r.below H;have a4:=G.pr;have a2:=G.ref;have y:=dL o2 H
 iterate 9 refine Rn.ul d λa d=> ?_
 refine Rn.cw d lf61 (rR o_ (tr y) (hV▸G.wds.is qw)) λw4 E a d=> ?_;have F:=G.below E;have a3:=F.pr;have a1:=F.ref;have u:=dL o3 E
 iterate 9 refine Rn.ul d λa d=> ?_
 refine Rn.cw d lf61 (rR o_ (tr u) (hV▸F.wds.is qw)) λw5 D a d=> ?_;have p2:=dL (dL y E) D;have p3:=dL u D;obtain⟨g2,q2,rfl,n2⟩:∃g q,v2= .sk g 85 q/\w1.heap.size<=g:=by
  obtain⟨_,e⟩|⟨g,l,a0,e,f,_⟩:=p2.2
  .cases e
  .simp_all
 obtain⟨g3,q3,rfl,n3⟩:∃g q,v3= .sk g 85 q/\w2.heap.size<=g:=by
  obtain⟨_,e⟩|⟨g,l,a0,e,f,_⟩:=p3.2
  .cases e
  .simp_all
 have l2:g2<w2.heap.size:=wU o2 rfl;have l3:=wU o3 rfl;have z1:=I.size;have z2:=b2.size;have z3:=H.size;have z4:=E.size;have z5:=D.size;have j:∀b,mv.ownBlock=some b->b<w.heap.size:=λb f=>wU h.lst.om f;have S:∀b,lv.ownBlock=some b->b<w.heap.size:=λb f=>wU h.lst.ol f;have z:∀v b,v∈ls->v.ownBlock=some b->b<w.heap.size:=λv b s r=>(h.lst.apart v b s r).2.2;have p:=h.blocks;have zl:∀b,Zs wb f tb b->b<w.heap.size:=λb hz=>by have⟨_,_,_,_,_,b6,_,b8,b9⟩:=p;rcases hz with rfl|rfl|rfl<;>assumption
 iterate 3 refine Rn.ul d λa d=> ?_
 refine Rn.cl d lf62 ((QS (F.below D) o_ (sx p2 o_) (λe=>by grind) (λe=>by grind) (λv i e=>by grind) o_ p).mono λe w' ⟨e1,e2⟩=>(⟨.tuple #[],e1,rfl,e2⟩:∃v,e= .returned v/\(v= .tuple #[]/\_))) λv6 w6 i a d=> ?_;obtain⟨rfl,a7,O,a8,a6,h6,n6,B,k,A,J⟩:=i;have z6:=J.size;have m6:∀b,O.ownBlock=some b->b<w.heap.size\/w5.heap.size<=b:=λb f=>(k b f).imp (j b) id;have p6:w6.ownsRow 0 3 1 (.sk g3 85 q3) 85 (bS V):=ig (sx p3 o_) λc ob Z C=>by
  have Z:some g3=some c:=Z;cases Z;refine J.at ?_ C;rintro((e|e|e)|e)
  .simp_all
  .grind
  .grind
  .omega
 iterate 2 refine Rn.ul d λa d=> ?_
 refine Rn.cl d lf62 ((QS h6 o_ p6 (λe=>by grind) (λe=>by grind) (λv i e=>by grind) o_ p).mono λe w' ⟨e1,e2⟩=>(⟨.tuple #[],e1,rfl,e2⟩:∃v,e= .returned v/\(v= .tuple #[]/\_))) λv7 w7 i a d=> ?_
 obtain⟨rfl,Q,M,R,P,h7,n7,Y,U,T,x7⟩:=i
 iterate 5 refine Rn.ul d λa d=> ?_
 refine Rn.fi d ⟨rfl,Q,M,R,P,h7,o_,λb f=> ?_,λb f=> ?_,λv b i f=> ?_, ?_⟩
 .grind
 .grind
 .grind
 .refine((Ex.of_below (aD (aD (aD (aD I I.size b2) o_ H) o_ E) o_ D)).trans J λb f e=> ?_).trans x7 λb f e=> ?_
  .grind
  .obtain (e|e|e)|e:=e
   .exact .inl e
   .exact(B b e).elim (λh=> .inr (.inl h)) o_
   .exact(k b e).elim (λh=> .inr (.inr h)) o_
   .omega
def Qq:f22.body=some (.seq (rG f22 0) (.seq (rG f22 1) (.seq (rG f22 2) (.seq (rG f22 3) (.seq (rG f22 4) (.seq (rG f22 5) .ret)))))):=k_
def xf(hV:V.length=85)(h:jK w pb lb cb fb fq rb fr frq wb qw kb qk hb hq tb tq KS V K L on sl up rs lv mv ls ms)(hms:ms.length<=100000000):Calls lT 22 #[.pk pb 0] w λe w'=>e= .returned (.bool true)/\WU w pb lb cb fb fq rb fr frq wb qw kb qk hb hq tb tq KS V K L on sl up rs lv mv ls (ms.length+8) w':=by
 refine eK lf22 Qq λcs a hF=> ?_
 iterate 2 refine Rn.ul hF λa hF=> ?_
 refine Rn.vv hF (λo ho=>Ek ho rfl) λa hF=> ?_;refine Rn.cw hF lf25 (W7 h) λw1 b1 a hF=> ?_
 iterate 2 refine Rn.ul hF λa hF=> ?_
 refine Rn.vv hF (λo ho=>Ek ho rfl) λa hF=> ?_;refine Rn.cw hF lf25 (W6 hV (h.below b1) hms) λw2 ⟨lv2,mv2,ls2,ms2,h2,n2,kl,km,ks,x2⟩ a hF=> ?_
 iterate 2 refine Rn.ul hF λa hF=> ?_
 refine Rn.vv hF (λo ho=>Ek ho rfl) λa hF=> ?_;refine Rn.cw hF lf25 (W5 h2) λw3 b3 a hF=> ?_;have h3:=h2.below b3
 iterate 2 refine Rn.ul hF λa hF=> ?_
 refine Rn.cw hF lf26 (JH h3.pr h3.lst o_) λw4 b4 a hF=> ?_
 iterate 12 refine Rn.ul hF λa hF=> ?_
 have z1:=b1.size;have z2:=x2.size;have z3:=b3.size;have z4:=b4.size;refine Rn.fi hF ⟨rfl,lv2,mv2,ls2,ms2,h3.below b4,o_,λb hb=>(kl b hb).imp id o_,λb hb=>(km b hb).imp id o_,λv b hv hb=>(ks v b hv hb).imp id o_, ?_⟩;exact(((Ex.of_below b1).trans x2 s_).trans (Ex.of_below (X:=λ_=>False) b3) s_).trans (Ex.of_below (X:=λ_=>False) b4) s_
end
section
variable{W:List Int}{L kp:ByteArray}{g off cap:Nat}
def Ha(kp:ByteArray):List Int:=kp.data.toList.map λb=>(b.toNat:Int)
def QZ(h:kp.size=16):WX (Ha kp):=by
 have a:kp.data.toList.length=16:=by simp_all
 refine⟨by simpa[Ha]using a,λi b=> ?_⟩;simp only[Ha,az0];have:=(kp.data.toList[i]'(by simpa[Ha]using b)).toNat_lt;omega
end
structure Sx (w0:World) (cb rb ob zb bu bh:Nat) (fl:Value) (W K:List Int) (L:ByteArray) (st le:Int) (us:List Bool) (hs:List ByteArray) (KS:List Int) (room:Int) (w:World):Prop where
 ch:nF w cb fl W K false 0
 run:w.heap[rb]?=some (.cells (pU cb room false) 151)
 fls:qP w fl L
 out:w.heap[ob]?=some (.cells (d8 0 false 0 0 0) 100)
 fus:w.heap[zb]?=some (.cells (eR st le (.sk bu 4 4) (.sk bh 4 4)) 45)
 us:w.heap[bu]?=some (.cells (us.map Value.bool).toArray 4)
 hs:w.heap[bh]?=some (.cells (hs.map Value.string).toArray 9)
 tab:w.rangeAt 0 0 (aQ KS)
 ex:Ex (XR cb rb) w0 w
section
variable{cb rb ob zb bu bh:Nat}{fl:Value}{W K K':List Int}{L:ByteArray}{st le:Int}{us:List Bool}{hs:List ByteArray}{room room':Int}
def Sx.pos(h:Sx w0 cb rb ob zb bu bh fl W K L st le us hs KS room w):0<w.heap.size:=Nat.lt_of_le_of_lt o_ h.ch.lt
def Sx.ex'(h:Sx w0 cb rb ob zb bu bh fl W K L st le us hs KS room w)(d:¬XR cb rb 0)(a:Ex (XR cb rb) w w')(c:nF w' cb fl W K' false 0)(b:w'.heap[rb]?=some (.cells (pU cb room' false) 151)):Sx w0 cb rb ob zb bu bh fl W K' L st le us hs KS room' w':=
 ⟨c,b,h.fls.keep a (rf h.ch.to h.run),a.at (nZ h.ch.to h.run h.out d_ d_) h.out,a.at (nZ h.ch.to h.run h.fus d_ d_) h.fus,a.at (nZ h.ch.to h.run h.us d_ d_) h.us,a.at (nZ h.ch.to h.run h.hs d_ d_) h.hs,fy a d h.pos h.tab,h.ex.trans a s_⟩
def Sx.below(h:Sx w0 cb rb ob zb bu bh fl W K L st le us hs KS room w)(b:¬XR cb rb 0)(a:Bw w w'):Sx w0 cb rb ob zb bu bh fl W K L st le us hs KS room w':=
 h.ex' b (Ex.of_below a) (h.ch.ex (Ex.of_below (X:=λ_=>False) a) λe=>e) (bk a h.run)
end
section
variable{cb rb ob zb bu bh:Nat}{fl:Value}{W ns K0:List Int}{L:ByteArray}{st le R:Int}{us:List Bool}{hs:List ByteArray}
def Lj(N:KS.length=64)(hu:us.length=4)(hh:hs.length=4)(p:¬XR cb rb 0)(a1:w0.heap.size<=ob)(a2:cb<w0.heap.size)(a0:rb<w0.heap.size)(S:k<2){gr room}(J:room<9223372036854775808){K}(V:Nt ns K0 R i K room)(hn:∀n c,pP KS (L.extract (k*8192) (k*8192+8192)) le us hs n c->ns[i]?=some (16+16*(k:Int)+c)/\(c=0->ns[i+1]?=some 9))(m:Sx w0 cb rb ob zb bu bh fl W K L st le us hs KS room w)
 (d:Has [(0, .pt rb),(2, .pt ob),(3, .pt zb),(5, .i gr),(37, .agg #[.i 16, .i 32]),(38, .i k)] 71 [] a)
 (X:∀s a (k:List Item) w',a.defers=[]->R<ns.length->DO cb rb fl W (uJ K0 (ns.take R.toNat)) w0 (.panicked s) w'->Rn lT Goal {(base 126).atR a k with mode:= .panicking s} cs w')
 (nj:∀n a' w' A Q I,pP KS (L.extract (k*8192) (k*8192+8192)) le us hs n 0->Nt ns K0 R (i+1+1) A Q->Has [(2, .pt ob)] 71 [] a'->w'.heap[ob]?=some (.cells (d8 0 true k n 0) 100)->nF w' cb fl W A true k->w'.heap[rb]?=some (.cells (pU cb Q false) 151)->qP w' fl L->Ex (XR cb rb) w0 w'->Rn lT Goal ((base 126).atR a' (.code .ret::I)) cs w')
 (nn:∀n c a' w' A,pP KS (L.extract (k*8192) (k*8192+8192)) le us hs n c->c≠0->Nt ns K0 R (i+1) A (room- 1)->Has [(0, .pt rb),(2, .pt ob),(3, .pt zb),(5, .i (max gr c)),(37, .agg #[.i 16, .i 32]),(38, .i ((k+1:Nat):Int))] 71 [] a'->Sx w0 cb rb ob zb bu bh fl W A L st le us hs KS (room- 1) w'->Rn lT Goal ((base 126).atR a' [.code (Wp f126), .inLoop (Wp f126), .inBlock 0, .code (Mg f126)]) cs w'):
 Rn lT Goal ((base 126).atR a [.code (Wp f126), .inLoop (Wp f126), .inBlock 0, .code (Mg f126)]) cs w:=by
 refine Rn.uc d λa d=> ?_;refine Rn.p rfl (Rn.p rfl (Rn.cond _ (d.G 39) ?_));rw[decide_eq_true (o_:(k:Int)<2)];refine Rn.uc d λa d=> ?_;refine Rn.vv d (λo g=>VY S g (d.G 37) (d.G 38)) λa d=> ?_
 iterate 2 refine Rn.uc d λa d=> ?_
 obtain⟨n,c,D,M⟩:=Qi KS N (L.extract (k*8192) (k*8192+8192)) st le (.sk bu 4 4) (.sk bh 4 4) us hs o_ (by rw[as6];omega);obtain⟨x,u⟩:=hn n c D;have U:=tM D;have d:Has [(0, .pt rb),(2, .pt ob),(3, .pt zb),(5, .i gr),(37, .agg #[.i 16, .i 32]),(38, .i k),(6, .i k),(7, .i ((16+16*k:Nat):Int))] 71 [] a:=d.O;have t:=m.run;have T:=m.fus;refine Rn.p rfl (Rn.p rfl ?_);refine Rn.gt d ?_
 iterate 3 refine u_ ?_
 refine n_ ?_ (y:=λo a w g z=>(aO GJ g gx ((aH (bk z.b t) _).trans rfl)).1);refine u_ ?_;refine p_ lf160 (λw h _=>(TC k S (m.below p h).ch (m.below p h).fls).mono λ_ _ h=>⟨h.1,h.2▸bR⟩) ?_;refine n_ ?_;refine p_ lf40 (λw h _=>M w (Gm (m.below p h).us (by simp_all)) (Gm (m.below p h).hs (by simp_all)) (m.below p h).tab (m.below p h).pos) ?_
 iterate 5 refine n_ ?_
 refine q_ λa w1 d b1 _=> ?_;have l:=m.below p b1;have e2:((16+16*k:Nat):Int)+c=16+16*(k:Int)+c:=o_
 iterate 4 refine Rn.uc d λa d=> ?_
 rw[e2]at d;refine Rn.cx d lf157 (GQ _ J l.ch l.run) (λv C G a d=> ?_) λs C j=>by obtain⟨P,O⟩:=V.cut j.1 x;exact X s _ _ C d.defers O (P▸j.2.from l.ex)
 obtain⟨rfl,hr,h2,r2,Y⟩:=G;have r:=V.next hr x;have f:=l.ex' p Y h2 r2
 iterate 2 refine Rn.uc d λa d=> ?_
 refine Rn.p rfl (Rn.cond _ (d.G 59) ?_);by_cases j:c=0
 .subst j
  iterate 3 refine Rn.uc d λa d=> ?_
  refine Rn.cx d lf161 (Wy k n o_ f.ch f.run) (λv Z G a d=> ?_) λs C j=>by obtain⟨P,O⟩:=r.cut j.1 (u rfl);exact X s _ _ C d.defers O (P▸j.2.from f.ex)
  obtain⟨rfl,H,h3,r3,E⟩:=G;have F:=E.at (nZ f.ch.to f.run f.out d_ d_) f.out;refine Rn.nn d (λo g=>gn g (d.G 2) (d.G 63) F rfl) λa d=> ?_;have B:=dn (w:=Z) ob (d8 0 true k n 0) 100;refine Rn.p rfl ?_;refine nj n _ _ _ _ _ D (r.next H (u rfl)) d.O (bZ F) (h3.ex B o_) (B.at o_ r3) (((f.fls.keep E (rf f.ch.to f.run)).keep B λb cs fr q e=> ?_)) ((f.ex.trans E s_).trans B o_);simp_all
 .rw[show(c==0)=false from by simpa using j]
  iterate 2 refine Rn.uc d λa d=> ?_
  refine Rn.vv d (λo g=>OC g (d.G 64) (d.G 65)) λa d=> ?_;refine Rn.uc d λa d=> ?_;refine Rn.vv d (λo g=>cJ (n:=1) g (d.G 38) rfl o_) λa d=> ?_;refine Rn.uc d λa d=> ?_;exact Rn.p rfl (Rn.p rfl (nn n c _ _ _ D j r d.O f))
def RZ(H:KS.length=64)(hu:us.length=4)(hh:hs.length=4)(h0:¬XR cb rb 0)(E:w0.heap.size<=ob)(F:cb<w0.heap.size)(D:rb<w0.heap.size){room:Int}(U:room<9223372036854775808){K:List Int}{j:Bool}{s n:Int}(m:Nt ns K0 R 1 K room)(g:Sx w0 cb rb ob zb bu bh fl W K L st le us hs KS room w)
 (hQ:∃Q z,pP KS (L.extract 0 8192) le us hs Q z/\((z=0/\ns=[1,16,9]/\j=true/\s=0/\n=Q/\c=0)\/
  (z≠0/\∃t l,pP KS (L.extract 8192 16384) le us hs t l/\((l=0/\ns=[1,16+z,32,9]/\j=true/\s=1/\n=t/\c=0)\/(l≠0/\ns=[1,16+z,32+l,4]/\j=false/\s=0/\n=0/\c=max z l)))))
 (d:Has [(0, .pt rb),(2, .pt ob),(3, .pt zb)] 71 [] a)
 (ct:∀M (a:Act) (k:List Item) w',a.defers=[]->R<ns.length->DO cb rb fl W (uJ K0 (ns.take R.toNat)) w0 (.panicked M) w'->Rn lT Goal {(base 126).atR a k with mode:= .panicking M} cs w')
 (P:∀a' w' C k A I,ns.length=k->Nt ns K0 R k C A->Has [(2, .pt ob)] 71 [] a'->w'.heap[ob]?=some (.cells (d8 0 j s n c) 100)->nF w' cb fl W C j s->w'.heap[rb]?=some (.cells (pU cb A false) 151)->qP w' fl L->Ex (XR cb rb) w0 w'->Rn lT Goal ((base 126).atR a' (.code .ret::I)) cs w'):
 Rn lT Goal ((base 126).atR a [.code (Lw f126)]) cs w:=by
 obtain⟨Q,z,q,u⟩:=hQ;refine Rn.uc d λa d=> ?_;refine Rn.vv d (λo x=>S9 rfl x rfl rfl) λa d=> ?_;refine Rn.uc d λa d=> ?_;refine Rn.p rfl (Rn.p rfl (Rn.p rfl ?_));refine Lj (k:=0) (i:=1) H hu hh h0 E F D o_ U m (λn c h=>by
  obtain⟨rfl,rfl⟩:=ju h q
  grind) g d.O ct (λn' a w C A I G m d x f V X S=>by
  obtain xQ:=ju G q
  grind) λn' r a w K G Z m d g=> ?_
 obtain⟨rfl,rfl⟩:=ju G q;obtain⟨t,l,p,u⟩:∃t l,pP KS (L.extract 8192 16384) le us hs t l/\((l=0/\ns=[1,16+r,32,9]/\j=true/\s=1/\n=t/\c=0)\/(l≠0/\ns=[1,16+r,32+l,4]/\j=false/\s=0/\n=0/\c=max r l)):=by simp_all
 refine Lj (k:=1) (i:=2) H hu hh h0 E F D o_ o_ m (λn c h=>by
  obtain xQ:=ju h p
  grind) g d ct (λn' a w C A I G m d x f V X S=>by
  obtain xQ:=ju G p
  grind) λn2 B a w K a0 Y m d g=> ?_
 obtain⟨rfl,rfl⟩:=ju a0 p;obtain⟨rfl,rfl,rfl,rfl,rfl⟩:ns=[1,16+r,32+B,4]/\j=false/\s=0/\n=0/\c=max r B:=by simp_all
 have b0:=tM q;have b1:=tM p;refine Rn.uc d λa d=> ?_;refine Rn.p rfl (Rn.p rfl (Rn.cond _ (d.G 39) ?_));rw[decide_eq_false o_]
 iterate 2 refine Rn.uc d λa d=> ?_
 have em:max (max 0 r) B=max r B:=o_
 rw[em]at d;refine Rn.cx d lf159 (Lc 4 (max r B) o_ g.ch g.run) (λv w3 hv a d=> ?_) λM w2 f=>by obtain⟨e3,e4⟩:=m.cut f.1 (n:=4) rfl;exact ct M _ _ w2 d.defers e4 (e3▸f.2.from g.ex)
 obtain⟨rfl,T,h3,r3,N⟩:=hv;have O:=N.at (nZ g.ch.to g.run g.out d_ d_) g.out;refine Rn.nn d (λo x=>gn x (d.G 2) (d.G 70) O rfl) λa d=> ?_;have J:=dn (w:=w3) ob (d8 0 false 0 0 (max r B)) 100;refine Rn.p rfl ?_;refine P _ _ _ _ _ _ rfl (m.next T (n:=4) rfl) d.O (bZ O) (h3.ex J o_) (J.at o_ r3) (((g.fls.keep N (rf g.ch.to g.run)).keep J λb cs fr y e=> ?_)) ((g.ex.trans N λ_ _ e=>e).trans J λb y e=>o_);rw[e,O]at y;injection y with y;injection y with _ y;cases y
end
def BC{W}{L}{ns}{j}{s n}(h:iX KS W L ns j s n c):ns[0]?=some 1:=by obtain⟨b,f,i,a,g,_,⟨_,rfl,_⟩|⟨_,_,_,rfl,_⟩|⟨_,_,e,l,_,⟨_,rfl,_⟩|⟨_,d,k,_,⟨_,rfl,_⟩|⟨_,rfl,_⟩⟩⟩⟩:=h<;>rfl
def Nt.full{ns b K}{room r}(h:Nt ns b room k K r)(c:ns.length=k)(a:ns≠[]):K=uJ b ns/\(ns.length:Int)<=room:=(h.all c).resolve_right a
def NB(room:Int)(K ns:List Int)(j:Bool)(s n c:Int)(W:List Int)(L:ByteArray)(fl:Value)(cb rb:Nat)(w:World)(e:Ending)(w':World):Prop:=(∃v,e= .returned v/\(v= .agg (d8 0 j s n c)/\(ns.length:Int)<=room/\nF w' cb fl W (uJ K ns) j s/\(∃room',w'.heap[rb]?=some (.cells (pU cb room' false) 151))/\qP w' fl L/\Ex (XR cb rb) w w'))\/∃ch,e= .panicked ch/\(room<ns.length/\DO cb rb fl W (uJ K (ns.take room.toNat)) w (.panicked ch) w')
def Il(room:Int)(K ns:List Int)(j:Bool)(s n c:Int)(W:List Int)(L:ByteArray)(fl:Value)(cb rb:Nat)(w:World)(cs:List Frame)(g:Goroutine)(w':World):Prop:=(∃(a:Act) (k:List Item) (bk:Nat) (cells:Array Value) (tt:TypeId),g=cD {(base 126).atR a k with mode:= .returning} cs/\a.defers=[]/\a.tmps[2]?=some (.pk bk 0)/\w'.heap[bk]?=some (.cells cells tt)/\cells.size=5/\NB room K ns j s n c W L fl cb rb w (.returned (.agg cells)) w')\/Vb 126 cs (NB room K ns j s n c W L fl cb rb w) g w'
section
variable{cb rb:Nat}{fl:Value}{W K ns:List Int}{L:ByteArray}{room:Int}{j:Bool}{s n:Int}
def RX(ad:pL)(al:KS.length=64)(hQ:iX KS W L ns j s n c)(h:nF w cb fl W K false 0)(hW:g6 W)(g:w.heap[rb]?=some (.cells (pU cb room false) 151))(ae:room<9223372036854775808)(hf:qP w fl L)(h0:¬XR cb rb 0)(hK:w.rangeAt 0 0 (aQ KS)):
 Calls lT 126 #[.pk rb 0] w (NB room K ns j s n c W L fl cb rb w):=by
 refine xy (t:=2) (ty:=100) (n:=5) lf126 rfl (by rw[bQ];exact underlying100) rfl ka λcs=> ?_;show Rn _ (Il room K ns j s n c W L fl cb rb w cs) _ _ _;refine Rn.ent (N:=71) lf126 Kn λa d=> ?_;have hN:Nt ns K room 0 K room:=Nt.start;have B:=BC hQ;have A:ns≠[]:=λe=>by simp_all
 refine Rn.al d (λo i=>jN i) λw1 a b1 c1 z1 d=> ?_;have hl:=h.lt;have af:=aK g;have h1:=h.ex (Ex.of_below (X:=λ_=>False) b1) (λe=>e);have f1:=hf.keep (Ex.of_below (X:=λ_=>False) b1) s_;have am:=fy (Ex.of_below (X:=λ_=>False) b1) (λe=>e) o_ hK;have a6:=bk b1 g;refine Rn.uc d λa d=> ?_;have ct:∀u (a:Act) (k:List Item) w',a.defers=[]->room<ns.length->DO cb rb fl W (uJ K (ns.take room.toNat)) w (.panicked u) w'->Rn lT (Il room K ns j s n c W L fl cb rb w cs) {(base 126).atR a k with mode:= .panicking u} cs w':=λu a k w' hd hl m=>Rn.now (.inr ⟨a,k,u,rfl,hd, .inr ⟨u,rfl,hl,m⟩⟩);refine Rn.cx d lf157 (GQ 1 ae h1 a6) (λv F Z a d=> ?_) λu F m=>by obtain⟨e3,e4⟩:=hN.cut m.1 B;exact ct u _ _ F d.defers e4 (e3▸m.2.from (Ex.of_below b1))
 obtain⟨rfl,hr,h2,a5,x2⟩:=Z;have r:=hN.next hr B;have z2:=x2.size;have c2:=x2.at (by rintro(e|e)<;>omega) c1;have f2:=f1.keep x2 (rf h1.to a6);have a9:=fy x2 h0 o_ am;have X2:Ex (XR cb rb) w F:=(Ex.of_below b1).trans x2 s_
 iterate 6 refine Rn.uc d λa d=> ?_
 refine Rn.vv d (λo i=>N2 i (d.G 18)) λa d=> ?_;refine Rn.cl d lf158 (ad W F cb 1 85 (ar5 _) hW (De h2.to) h2.lt) λv E Z a d=> ?_;obtain⟨l,Q,cr,J,O,G,M,P,H,us,hs,rfl,hP,b3,hz⟩:=Z;obtain⟨ao,ap,au,an,aq,ak,hQ⟩:=hQ;obtain⟨rfl,aj⟩:=LB hP ak;have h3:=h2.ex (Ex.of_below (X:=λ_=>False) b3) (λe=>e);have f3:=f2.keep (Ex.of_below (X:=λ_=>False) b3) (λ_ _ _ _ e=>e);have ar:=h2.lt;have a8:=fy (Ex.of_below (X:=λ_=>False) b3) (λe=>e) o_ a9;have a4:=bk b3 a5;have c3:=bk b3 c2;have z3:=b3.size
 iterate 3 refine Rn.uc d λa d=> ?_
 refine Rn.al d (λo i=>zk i) λV a U c4 z4 d=> ?_;have h4:=h3.ex (Ex.of_below (X:=λ_=>False) U) (λe=>e);have f4:=f3.keep (Ex.of_below (X:=λ_=>False) U) (λ_ _ _ _ e=>e);have a7:=fy (Ex.of_below (X:=λ_=>False) U) (λe=>e) o_ a8;have a3:=bk U a4;have o4:=bk U c3;refine Rn.nn d (λo i=>qx i (d.G 3) (d.G 21) c4 rfl) λa d=> ?_;have y:=dn (w:=V) E.heap.size (eR l Q (.slice J O G) (.slice M P H)) 45;have c5:=bZ (w:=V) (cs:=eR l Q (.slice J O G) (.slice M P H)) (t:=45) c4;have X5:Ex (XR cb rb) w (gK V E.heap.size (eR l Q (.slice J O G) (.slice M P H)) 45):=((X2.trans (Ex.of_below (X:=λ_=>False) b3) λ_ _ e=>e.elim).trans (Ex.of_below (X:=λ_=>False) U) λ_ _ e=>e.elim).trans y λb g e=>o_
 have C:=h4.ex y o_;have f:=y.at o_ a3;have z:=y.at o_ o4;have f5:=f4.keep y λb cs fr g e=>by simp_all
 have a2:=fy y o_ o_ a7;have Y:cr=0->∃bu bh,J=some ⟨bu,0,none⟩/\O=4/\G=4/\M=some ⟨bh,0,none⟩/\P=4/\H=4/\(gK V E.heap.size (eR l Q (.slice J O G) (.slice M P H)) 45).heap[bu]?=some (.cells (us.map Value.bool).toArray 4)/\(gK V E.heap.size (eR l Q (.slice J O G) (.slice M P H)) 45).heap[bh]?=some (.cells (hs.map Value.string).toArray 9):=λe=>by obtain⟨bu,bh,T,S,e3,e4,e5,e6,e7,e8⟩:=hz e;have l7:=aK e7;have l8:=aK e8;exact⟨bu,bh,T,S,e3,e4,e5,e6,y.at o_ (bk U e7),y.at o_ (bk U e8)⟩
 have s5:w.heap.size<=(gK V E.heap.size (eR l Q (.slice J O G) (.slice M P H)) 45).heap.size:=X5.size;clear hz;revert c5 X5 C f z f5 a2 Y s5;generalize gK V E.heap.size (eR l Q (.slice J O G) (.slice M P H)) 45=w5;intro c5 X5 C f z f5 a2 Y s5;clear y a7 a3 o4 h4 f4 h3 f3 a8 a4 c3 h2 f2 a9 a5 c2
 iterate 3 refine Rn.uc d λa d=> ?_
 refine Rn.p rfl (Rn.cond _ (d.G 24) ?_);have aa:∀(c':Int) {a:Act} {D w7:World} {I:List Item} {K':List Int} {r':Int} {k:Nat},j=false/\s=0/\n=0/\c=c'->ns.length=k->Nt ns K room k K' r'->nF D cb fl W K' false 0->D.heap[rb]?=some (.cells (pU cb r' false) 151)->Ex (XR cb rb) w5 D->w7=gK D w.heap.size (d8 0 false 0 0 c') 100->Has [(2, .pt w.heap.size)] 71 [] a->Rn lT (Il room K ns j s n c W L fl cb rb w cs) ((base 126).atR a (.code .ret::I)) cs w7:=λc' a D w7 I K' r' k a0 hk q h6 r6 x e7 d=>by
  subst e7;obtain⟨rfl,rfl,rfl,rfl⟩:=a0;have o6:=x.at (nZ C.to f z d_ d_) z;have x7:=dn (w:=D) w.heap.size (d8 0 false 0 0 c) 100;refine Rn.ends rfl (.inr ⟨_,rfl⟩) (Rn.now (.inl ⟨_,_,w.heap.size,_,_,rfl,d.defers,d.slot 2 _ rfl,bZ o6,rfl, .inl ⟨_,rfl,rfl, ?_, ?_,⟨_,x7.at o_ r6⟩,((f5.keep x (rf C.to f)).keep x7 λb cs fr g e=> ?_),(X5.trans x λ_ _ e=>e).trans x7 λb g e=>o_⟩⟩))
  .exact(q.full hk A).2
  .rw[←(q.full hk A).1];exact h6.ex x7 o_
  simp_all
 by_cases m:cr=0
 .subst m;obtain⟨rfl,rfl,rfl,rfl⟩:=aj rfl;obtain⟨bu,bh,rfl,rfl,rfl,rfl,rfl,rfl,ab,ag⟩:=Y rfl;have hS:Sx w cb rb w.heap.size E.heap.size bu bh fl W _ L l Q us hs KS (room- 1) w5:=⟨C,f,f5,z,c5,ab,ag,a2,X5⟩;have R:us.length=4/\hs.length=4:=by
   rcases hP with⟨_,_,_,_,rfl,rfl⟩|⟨_,e⟩
   .exact⟨by simp[E3],by simp[Mn]⟩
   .cases e
  have go:(l=255\/l=3855)->∀{a:Act},Has [(0, .pt rb),(2, .pt w.heap.size),(3, .pt E.heap.size)] 71 [] a->Rn lT (Il room K ns j s n c W L fl cb rb w cs) ((base 126).atR a [.code (Lw f126)]) cs w5:=λa0 a d=>by
   refine RZ (j:=j) (s:=s) (n:=n) (c:=c) al R.1 R.2 h0 (ar5 _) hl af o_ r hS ?_ d ct λa' w' K' k r' I hk q d i ai ac ah hx=> ?_
   .grind
   .exact Rn.ends rfl (.inr ⟨_,rfl⟩) (Rn.now (.inl ⟨_,_,w.heap.size,_,_,rfl,d.defers,d.slot 2 _ rfl,i,rfl, .inl ⟨_,rfl,rfl,(q.full hk A).2,(q.full hk A).1▸ai,⟨_,ac⟩,ah,hx⟩⟩))
  iterate 4 refine Rn.uc d λa d=> ?_
  by_cases T:l=255
  .rw[show(l !=255)=false from by simpa using T]at d
   iterate 3 refine Rn.us d λa d=> ?_
   refine Rn.vv d (λo i=>mO i (d.G 30) rfl) λa d=> ?_;refine Rn.p rfl (Rn.cond _ (d.G 34) ?_);exact Rn.p rfl (go (.inl T) d.O)
  .rw[show(l !=255)=true from by simpa using T]at d
   iterate 3 refine Rn.uc d λa d=> ?_
   refine Rn.vv d (λo i=>oJ i (d.G 30) (d.G 33)) λa d=> ?_;refine Rn.p rfl (Rn.cond _ (d.G 34) ?_);by_cases S:l=3855
   .rw[show(l !=3855)=false from by simpa using S];exact Rn.p rfl (go (.inr S) d.O)
   .rw[show(l !=3855)=true from by simpa using S];refine Rn.uc d λa d=> ?_;obtain⟨rfl,p⟩:ns=[1,3]/\j=false/\s=0/\n=0/\c=2:=by simp_all
    refine Rn.cx d lf159 (Lc 3 2 o_ C f) (λv D Z a d=> ?_) λu F m=>by obtain⟨e3,e4⟩:=r.cut m.1 (n:=3) rfl;exact ct u _ _ F d.defers e4 (e3▸m.2.from X5)
    obtain⟨rfl,a1,h6,r6,x⟩:=Z;refine Rn.nn d (λo i=>gn i (d.G 2) (d.G 36) (x.at (nZ C.to f z d_ d_) z) rfl) λa d=> ?_;exact Rn.p rfl (aa 2 p rfl (r.next a1 (n:=3) rfl) h6 r6 x rfl d.O)
 .rw[show(cr !=0)=true from by simpa using m];obtain⟨rfl,p⟩:ns=[1,2]/\j=false/\s=0/\n=0/\c=1:=by simp_all
  refine Rn.uc d λa d=> ?_;refine Rn.cx d lf159 (Lc 2 1 o_ C f) (λv D Z a d=> ?_) λu F m=>by obtain⟨e3,e4⟩:=r.cut m.1 (n:=2) rfl;exact ct u _ _ F d.defers e4 (e3▸m.2.from X5)
  obtain⟨rfl,a1,h6,r6,x⟩:=Z;refine Rn.nn d (λo i=>gn i (d.G 2) (d.G 26) (x.at (nZ C.to f z d_ d_) z) rfl) λa d=> ?_;exact Rn.p rfl (aa 1 p rfl (r.next a1 (n:=2) rfl) h6 r6 x rfl d.O)
end
def Rh(room:Int)(K ns:List Int)(j:Bool)(s n c:Int)(W:List Int)(L:ByteArray)(fl:Value)(cb rb:Nat)(w:World)(v:Value)(w':World):Prop:=((v= .agg (d8 0 j s n c)/\(ns.length:Int)<=room/\nF w' cb fl W (uJ K ns) j s/\qP w' fl L/\∃room',w'.heap[rb]?=some (.cells (pU cb room' false) 151))\/(v= .agg (d8 0 false 0 0 0)/\room<ns.length/\nF w' cb fl W (uJ K (ns.take room.toNat)) false 0/\qP w' fl L/\∃room',w'.heap[rb]?=some (.cells (pU cb room' true) 151)))/\Ex (XR cb rb) w w'
section
variable{cb rb:Nat}{fl:Value}{W K ns:List Int}{L:ByteArray}{room:Int}{j:Bool}{s n:Int}
def doX(hrd:pL)(hKl:KS.length=64)(hQ:iX KS W L ns j s n c)(h:nF w cb fl W K false 0)(hW:g6 W)(hb:w.heap[rb]?=some (.cells (pU cb room false) 151))(hr2:room<9223372036854775808)(hf:qP w fl L)(h0:¬XR cb rb 0)(hK:w.rangeAt 0 0 (aQ KS))(cs:List Frame):
 Rn lT (λg w'=>∃(a:Act) (k:List Item) (bk:Nat) (cells:Array Value) (tt:TypeId),g=cD {(base 100).atR a k with mode:= .returning} cs/\a.defers=[]/\a.tmps[2]?=some (.pk bk 0)/\w'.heap[bk]?=some (.cells cells tt)/\cells.size=5/\Rh room K ns j s n c W L fl cb rb w (.agg cells) w') (as7 lT 100 #[.pk rb 0] .normal) cs w:=by
 refine Rn.ent (N:=6) lf100 Ub λa hF=> ?_;have hl:=h.lt;have hl2:=aK hb;refine Rn.al hF (λo ho=>GA rfl ho (hF.G 0)) λw1 a b1 c1 z1 hF=> ?_;refine Rn.al hF (λo ho=>jN ho) λw2 a b2 c2 z2 hF=> ?_;have B2:Bw w w2:=aD b1 b1.size b2;have h2:=h.ex (Ex.of_below (X:=λ_=>False) B2) (λe=>e);have f2:=hf.keep (Ex.of_below (X:=λ_=>False) B2) s_;have hK2:=fy (Ex.of_below (X:=λ_=>False) B2) (λe=>e) o_ hK;have hb2:=bk B2 hb;have c1:=bk b2 c1;refine Rn.vv (w':=w2) hF (v:= .func (.func 125) #[] #[.pk w.heap.size 0]) (λo ho=> ?_) λa hF=> ?_
 .have:=(gw (ev:=a.eval) (w:=w2) lT (a:=#[.tmp 1]) ho).1
  rwa [show(#[Operand.tmp 1]:Array Operand).map a.eval=#[.pk w.heap.size 0]from by simp[hF.G 1]]at this
 refine Rn.dfr (d:=3) hF rfl rfl rfl rfl rfl rfl rfl rfl λa hF=> ?_;refine Rn.vv hF (λo ho=>(aO (v:= .pk rb 0) sA ho (hF.G 1) ((aH c1 0).trans rfl)).1) λa hF=> ?_;refine Rn.cx hF lf126 (RX hrd hKl hQ h2 hW hb2 hr2 f2 h0 hK2) (λv w3 hv a hF=> ?_) λch w3 hc=> ?_
 rotate_left
 .obtain⟨hlo,v,on,sl,room',e,h3,r3,x3⟩:=hc;cases e;have o3:=x3.at (by rintro(e|e)<;>omega) c2;have p3:=x3.at (by rintro(e|e)<;>omega) c1;have f3:=f2.keep x3 (rf h2.to hb2);have hne:=FK h.to hb;refine Rn.dcall (g:=125) s_ hF.defers lf125 k_ d_ ?_;have sl2:=hF.slot 2 _ rfl;generalize hfr:({{(base 100).atR a _ with mode:= .panicking [{v:=v,recovered:=false}]}with defers:=[]}:Frame)=frD;have hmode:frD.mode= .panicking [{v:=v,recovered:=false}]:=by rw[←hfr]
  show Rn _ _ (as7 _ _ ([.pk w.heap.size 0]:List Value).toArray .deferred) _ _;rw[HF (N:=11) [.pk w.heap.size 0] lf125 MY rfl];have hG:=aN [.pk w.heap.size 0] 11 s_;refine Rn.vv hG (λo ho=>(aO (v:= .pk rb 0) sA ho (hG.G 0) ((aH p3 0).trans rfl)).1) λa hF=> ?_
  iterate 3 refine Rn.uc hF λa hF=> ?_
  refine Rn.p rfl (Rn.cond _ (hF.G 4) ?_);refine Rn.vv hF (λo ho=>(aO (v:= .pk rb 0) sA ho (hF.G 0) ((aH p3 0).trans rfl)).1) λa hF=> ?_
  iterate 3 refine Rn.uc hF λa hF=> ?_
  refine Rn.cw hF lf99 (Gi h3) λw4 ⟨h4,x4,z4⟩ a hF=> ?_;have o4:=x4.at o_ o3;have r4:=x4.at o_ r3;have f4:=f3.keep x4 λb cs fr hb e=>rf h3.to r3 b cs fr hb (.inl e);refine Rn.gr (Rn.rec (d:=10) hF rfl rfl rfl rfl rfl d_ rfl rfl hmode λa hF=> ?_);refine Rn.p rfl (Rn.ends rfl s_ ?_);refine Rn.dback (v:= .tuple #[]) (fn:=f125) rfl hF.defers lf125 k_ ?_;subst hfr;exact Rn.now ⟨⟨_,[]⟩,_,w1.heap.size,_,_,rfl,rfl,sl2,o4,rfl, .inr ⟨rfl,hlo,h4,f4,_,r4⟩,((Ex.of_below (X:=XR cb rb) B2).trans x3 s_).trans x4 λb _ e=> .inl e⟩
 obtain⟨rfl,hst,h3,⟨room',r3⟩,f3,x3⟩:=hv;have o3:=x3.at (by rintro(e|e)<;>omega) c2;have p3:=x3.at (by rintro(e|e)<;>omega) c1;refine Rn.nn hF (λo ho=>gn ho (hF.G 2) (hF.G 5) o3 rfl) λa hF=> ?_;have x4:=dn (w:=w3) w1.heap.size (d8 0 j s n c) 100;have h4:=h3.ex x4 o_;have r4:=x4.at o_ r3;have p4:=x4.at o_ p3;have o4:=bZ (w:=w3) (cs:=d8 0 j s n c) (t:=100) o3;have f4:=f3.keep x4 λb cs fr hb e=>by simp_all
 have X4:=((Ex.of_below (X:=XR cb rb) B2).trans x3 s_).trans x4 o_;revert h4 r4 p4 o4 f4 X4;generalize gK w3 w1.heap.size (d8 0 j s n c) 100=w4;intro h4 r4 p4 o4 f4 X4;refine Rn.p rfl (Rn.ends rfl s_ ?_);refine Rn.dcall (g:=125) s_ hF.defers lf125 k_ d_ ?_;have sl2:=hF.slot 2 _ rfl;generalize hfr:({{(base 100).atR a _ with mode:= .returning}with defers:=[]}:Frame)=frD;show Rn _ _ (as7 _ _ ([.pk w.heap.size 0]:List Value).toArray .deferred) _ _;rw[HF (N:=11) [.pk w.heap.size 0] lf125 MY rfl];have hG:=aN [.pk w.heap.size 0] 11 s_;refine Rn.vv hG (λo ho=>(aO (v:= .pk rb 0) sA ho (hG.G 0) ((aH p4 0).trans rfl)).1) λa hF=> ?_
 iterate 3 refine Rn.uc hF λa hF=> ?_
 refine Rn.p rfl (Rn.cond _ (hF.G 4) ?_);refine Rn.p rfl (Rn.ends rfl s_ ?_);refine Rn.dback (v:= .tuple #[]) (fn:=f125) rfl hF.defers lf125 k_ ?_;subst hfr;exact Rn.now ⟨⟨_,[]⟩,_,w1.heap.size,_,_,rfl,rfl,sl2,o4,rfl, .inl ⟨rfl,hst,h4,f4,_,r4⟩,X4⟩
end
section
variable{W ns ns':List Int}{L:ByteArray}{j j':Bool}{s n s' n' c':Int}
def yC(h:iX KS W L ns j s n c):ns.length<=4:=by
 have⟨b,f,i,a,g,_,h⟩:=h
 grind
def Iu(h:iX KS W L ns j s n c)(a:iX KS W L ns' j' s' n' c'):ns=ns'/\j=j'/\s=s'/\n=n'/\c=c':=by
 have⟨K,N,G,J,O,D,h⟩:=h;have⟨w,z,F,v,C,r,a⟩:=a;have⟨e,E⟩:=LB D r;subst e;obtain⟨u,rfl,rfl,rfl,rfl,rfl⟩|h:=h
 .simp_all
 .have b:G=0:=o_;obtain⟨rfl,rfl,rfl,rfl⟩:=E b;have a:=a.resolve_left o_;obtain⟨_,d,l,rfl,rfl,rfl,rfl,rfl⟩|⟨_,p,M,P,B,h⟩:=h
  .simp_all
  .obtain⟨_,d,l,_⟩|⟨_,_,y,I,o,a⟩:=a
   .simp_all
   .obtain xQ:=ju B o;obtain⟨q,rfl,rfl,rfl,rfl,rfl⟩|⟨q,d,u,A,h⟩:=h
    .simp_all
    .obtain⟨k,_⟩|⟨_,x,H,m,a⟩:=a
     .omega
     .obtain xQ:=ju A m
      grind
end
section
variable{cb rb lb:Nat}{fl:Value}{W K ns:List Int}{L:ByteArray}{j:Bool}{s n room:Int}{on:Bool}{sl:Int}{p:Option Addr}{q:Nat}
def XQ(d:pL)(g:KS.length=64)(p:iX KS W L ns j s n c)(h:nF w cb fl W K false 0)(o:g6 W)(m:w.heap[rb]?=some (.cells (pU cb room false) 151))(f:room<9223372036854775808)(l:qP w fl L)(C:¬XR cb rb 0)(q:w.rangeAt 0 0 (aQ KS)):
 Calls lT 100 #[.pk rb 0] w λe w'=>∃v,e= .returned v/\Rh room K ns j s n c W L fl cb rb w v w':=by refine kh lf100 rfl (by rw[bQ];exact underlying100) rfl ka λE=> ?_;have⟨D,w',B,a,k,F,b,i,A,z,y,x,u,r⟩:=doX d g p h o m f l C q E;exact⟨D,w',B,a,k,F,b,i,A,z,y,x,u,_,rfl,r⟩
def Yb(K ns:List Int)(j:Bool)(s n c:Int)(W:List Int)(L:ByteArray)(fl:Value)(cb:Nat)(w:World)(v:Value)(w':World):Prop:=v= .agg (d8 1 j s n c)/\nF w' cb fl W (uJ K ns) j s/\qP w' fl L/\Ex (· =cb) w w'
def TF(M:pL)(O:KS.length=64)(hQ:iX KS W L ns j s n c)(h:nF w cb fl W K on sl)(hW:g6 W)(hf:qP w fl L)(h0:cb≠0)(hK:w.rangeAt 0 0 (aQ KS)):
 Calls lT 76 #[.pk cb 0, .slice p 0 q] w λe w'=>∃v,e= .returned v/\Yb K ns j s n c W L fl cb w v w':=by
 refine kh lf76 rfl (by rw[bQ];exact underlying100) rfl ka λcs=>Rn.ent (N:=40) lf76 Ud λa d=> ?_;have hl:=h.lt;have a1:=yC hQ;refine Rn.al d (λo f=>jN f) λw1 a F c1 z1 d=> ?_;have h1:=h.ex (Ex.of_below (X:=λ_=>False) F) (λe=>e);have f1:=hf.keep (Ex.of_below (X:=λ_=>False) F) s_;have R:=fy (Ex.of_below (X:=λ_=>False) F) (λe=>e) o_ hK;refine Rn.uc d λa d=> ?_;refine Rn.cw d lf99 (Gi h1) λD ⟨h2,B,z2⟩ a d=> ?_;have c2:=B.at o_ c1;have f2:=f1.keep B λb cs i g=>tI h1.2.2 d_ b cs i g;have Q:=fy B o_ o_ R;refine Rn.uc d λa d=> ?_;refine Rn.vv d (λo f=>lK f (d.G 13)) λa d=> ?_
 iterate 2 refine Rn.uc d λa d=> ?_
 refine Rn.p rfl (Rn.p rfl (Rn.cond _ (d.G 16) ?_));refine Rn.uc d λa d=> ?_;refine Rn.vv d (λo f=>Sb (room:=9223372036854775807) f (d.G 32) rfl) λa d=> ?_;refine Rn.al d (λo f=>SN f) λu a y c3 z3 d=> ?_;refine Rn.nn d (λo f=>VM f (d.G 9) (d.G 33) c3 rfl) λa d=> ?_;have r:=dn (w:=u) D.heap.size (pU cb 9223372036854775807 false) 151;have h3:=h2.ex (Ex.of_below (X:=λ_=>False) y) (λe=>e);have f3:=f2.keep (Ex.of_below (X:=λ_=>False) y) s_;have P:=fy (Ex.of_below (X:=λ_=>False) y) (λe=>e) o_ Q;have T:=h3.ex r o_;have V:=f3.keep r λb cs i g=>tI c3 d_ b cs i g;have k:=fy r o_ o_ P;have J:=bZ (w:=u) (cs:=pU cb 9223372036854775807 false) (t:=151) c3;have c4:=r.at o_ (bk y c2);have X4:Ex (· =cb) w (gK u D.heap.size (pU cb 9223372036854775807 false) 151):=(((Ex.of_below F).trans B o_).trans (Ex.of_below (X:=λ_=>False) y) s_).trans r o_;have s4:=dE (w:=u) (b:=D.heap.size) (cs:=pU cb 9223372036854775807 false) (t:=151);revert T V k J c4 X4 s4;generalize gK u D.heap.size (pU cb 9223372036854775807 false) 151=w4;intro T V k J c4 X4 s4;refine Rn.cl d lf100 (XQ M O hQ T hW J o_ V (by rintro(e|e)<;>omega) k) λv l hv a d=> ?_;obtain⟨⟨rfl,_,h5,f5,_⟩|⟨_,a0,_⟩,H⟩:=hv
 .have c5:=H.at (by rintro(e|e)<;>omega) c4;have a2:=h5.lt;have z5:=H.size;have X5:Ex (· =cb) w l:=X4.trans H λb g e=>by rcases e with e|e<;>omega
  refine Rn.al d (λo f=>jN f) λC a E c6 z6 d=> ?_;refine Rn.nn d (λo f=>gn f (d.G 10) (d.G 34) c6 rfl) λa d=> ?_;have A:=dn (w:=C) l.heap.size (d8 0 j s n c) 100;have Z:=A.at o_ (bk E c5);have x:=bZ (w:=C) (cs:=d8 0 j s n c) (t:=100) c6;have S:=(h5.ex (Ex.of_below (X:=λ_=>False) E) (λe=>e)).ex A o_;have U:=(f5.keep (Ex.of_below (X:=λ_=>False) E) s_).keep A λb cs i g=>tI c6 d_ b cs i g;have X7:Ex (· =cb) w (gK C l.heap.size (d8 0 j s n c) 100):=(X5.trans (Ex.of_below (X:=λ_=>False) E) s_).trans A o_;revert Z x S U X7;generalize gK C l.heap.size (d8 0 j s n c) 100=I;intro Z x S U X7;refine Rn.uc d λa d=> ?_;refine Rn.vv d (λo f=>lK f (d.G 35)) λa d=> ?_;refine Rn.vv d (λo f=>cJ (m:=0) (n:=1) f (d.G 36) rfl o_) λa d=> ?_;refine Rn.uc d λa d=> ?_;refine Rn.nn d (λo f=>fe (v:= .i 1) rfl rfl k_ f (d.G 38) (d.G 37) x (d_:0<5)) λa d=> ?_;rw[show(d8 0 j s n c).setIfInBounds 0 (.i 1)=d8 1 j s n c from rfl];have z:=dn (w:=I) l.heap.size (d8 1 j s n c) 100;have Y:=z.at o_ Z;have o8:=bZ (w:=I) (cs:=d8 1 j s n c) (t:=100) x;refine Rn.vv d (λo f=>rZ f (d.G 10) o8) λa d=> ?_;refine Rn.nn d (λo f=>gn f (d.G 4) (d.G 39) Y rfl) λa d=> ?_;have G:=dn (w:=gK I l.heap.size (d8 1 j s n c) 100) w.heap.size (d8 1 j s n c) 100;exact Rn.runs 6 _ (Rn.ends rfl (.inr ⟨_,rfl⟩) (Rn.now ⟨_,_,w.heap.size,_,_,rfl,d.defers,d.slot 4 _ rfl,bZ Y,rfl,_,rfl,rfl,(S.ex z o_).ex G o_,(U.keep z λb cs i g=>tI x d_ b cs i g).keep G λb cs i g=>tI Y d_ b cs i g,(X7.trans z o_).trans G o_⟩))
 .omega
def TE(i:pL)(m:KS.length=64)(F:iX KS W L ns j s n c)(h:nF w cb fl W K on sl)(E:g6 W)(D:qP w fl L)(J:cb≠0)(G:w.rangeAt 0 0 (aQ KS))(l:w.heap[lb]?=some (.cells #[.pk cb 0] 127)):
 Calls lT 49 #[.pk lb 0, .slice p 0 q] w λe w'=>∃v,e= .returned v/\Yb K ns j s n c W L fl cb w v w':=by
 refine kh lf49 rfl (by rw[bQ];exact underlying100) rfl ka λA=>Rn.ent lf49 U5 λa d=> ?_;have T:=h.lt;refine Rn.al d (λo k=>jN k) λS a f Q R d=> ?_;have P:=D.keep (Ex.of_below (X:=λ_=>False) f) s_;have y:=bk f l
 iterate 5 refine Rn.uc d λa d=> ?_
 refine Rn.cl d lf76 (TF i m F (h.ex (Ex.of_below (X:=λ_=>False) f) (λe=>e)) E P J (fy (Ex.of_below (X:=λ_=>False) f) (λe=>e) o_ G)) λv B C a d=> ?_;obtain⟨rfl,H,O,x⟩:=C;have u:=x.at o_ Q;refine Rn.nn d (λo k=>gn k (d.G 4) (d.G 10) u rfl) λa d=> ?_;have g:=dn (w:=B) w.heap.size (d8 1 j s n c) 100;exact Rn.runs 6 _ (Rn.ends rfl (.inr ⟨_,rfl⟩) (Rn.now ⟨_,_,w.heap.size,_,_,rfl,d.defers,d.slot 4 _ rfl,bZ u,rfl,_,rfl,rfl,H.ex g o_,O.keep g λb A M z=>tI u d_ b A M z,((Ex.of_below f).trans x o_).trans g o_⟩))
end
def M7(f:Func):Code:= .seq (.seq (rG f 4) (.cond (.tmp 13) .skip (.exit 0))) (.seq (.block 1 (rG f 6)) (rG f 5))
def M2(f:Func):Code:= .seq (rG f 7) .ret
def MS:f45.body=some (.seq (rG f45 0) (.seq (rG f45 1) (.seq (rG f45 2) (.seq (.seq (rG f45 3) (.block 0 (.loop (M7 f45)))) (M2 f45))))):=k_
def Jw(f:Func):Code:= .seq (.seq (rG f 3) (.cond (.tmp 15) .skip (.exit 0))) (.seq (.block 1 (.seq (rD f 5) (.cond (.tmp 45) (.seq (rG f 6) .ret) .skip))) (rG f 4))
def Jt(f:Func):Code:= .seq (rG f 7) .ret
def MV:f48.body=some (.seq (rG f48 0) (.seq (rG f48 1) (.seq (.seq (rG f48 2) (.block 0 (.loop (Jw f48)))) (Jt f48)))):=k_
def Bu(i:Nat):Array Value:=(ar9 i (Value.int .i64 77)++ar9 (4- i) (Value.int .i64 0)).toArray
def GU(a:i<4):(Bu i).setIfInBounds i (.i 77)=Bu (i+1):=by
 obtain rfl|rfl|rfl|rfl:i=0\/i=1\/i=2\/i=3:=o_
 all_goals rfl
def LQ(a:i<4):(Bu 4)[i]?=some (.i 77):=by
 obtain rfl|rfl|rfl|rfl:i=0\/i=1\/i=2\/i=3:=o_
 all_goals rfl
section
variable{y:Operand}{g:Nat}
def Pr(a:o.op= .makeSlice 24 x y)(c:ev x= .i 4)(b:ev y= .i 4):(execOp ev o).run lT w= .ok (.value (.sk w.heap.size 4 4)) (w.alloc (.cells (Bu 0) 3)):=by simp[execOp,a,c,b];kernel_rfl
def TB(a:o.op= .call {callee:= .builtin .copy,args:=#[.tmp k, .tmp i],argTypes:=#[24,24]})(c:ev (.tmp k)= .sk g 4 4)(b:ev (.tmp i)= .slice none 0 0):(execOp ev o).run lT w= .ok (.value (.i 0)) w:=by simp[execOp,a,resolve,c,b,invoke,builtin];kernel_rfl
def P2(a:o.op= .slice 24 x none (some y) none)(c:ev x= .sk g 4 4)(b:ev y= .i 0):(execOp ev o).run lT w= .ok (.value (.sk g 0 4)) w:=by simp[execOp,a,c];simp[b];kernel_rfl
def P1(a:o.op= .slice 24 x none (some y) none)(c:ev x= .sk g 0 4)(b:ev y= .i 4):(execOp ev o).run lT w= .ok (.value (.sk g 4 4)) w:=by simp[execOp,a,c];simp[b];kernel_rfl
def Sl{r s n}{j}(a:o.op= .binOp .eql 100 x y u)(d:ev x= .agg (d8 r j s n c))(b:ev y= .agg (d8 r j s n c)):(execOp ev o).run lT w= .ok (.value (.bool true)) w:=by simp[execOp,a,d,b,go_sem,d8]
end
section
variable{g:Nat}
def Jk(j:∀a w,w.heap[g]?=some (.cells (Bu 4) 3)->Ex (· =g) w0 w->Has [(0, .slice none 0 0),(3, .sk g 4 4)] 26 [] a->Rn lT Goal ((base 45).atR a [.code (M2 f45)]) cs w):
 ∀m i (w:World) a,4- i=m->i<=4->w.heap[g]?=some (.cells (Bu i) 3)->Ex (· =g) w0 w->Has [(0, .slice none 0 0),(3, .sk g 4 4),(4, .i i)] 26 [] a->Rn lT Goal ((base 45).atR a [.code (M7 f45), .inLoop (M7 f45), .inBlock 0, .code (M2 f45)]) cs w:=by
 intro m;induction m with
 |zero=>
  intro i w a l p d f b
  iterate 2 refine Rn.ul b λa b=> ?_
  refine Rn.p rfl (Rn.cond _ (b.G 13) ?_);rw[decide_eq_false o_];obtain rfl:i=4:=o_
  exact Rn.p rfl (j _ _ d f b.O)
 |succ m k=>
  intro i w a l p d f b
  iterate 2 refine Rn.ul b λa b=> ?_
  refine Rn.p rfl (Rn.cond _ (b.G 13) ?_);rw[decide_eq_true o_]
  iterate 4 refine Rn.ul b λa b=> ?_
  refine Rn.vv b (λo c=>cJ c (b.G 18) (b.G 19) o_) λa b=> ?_;rw[as5]at b;refine Rn.vv b (λo c=>g7 i k_ c (b.G 16) (b.G 20) o_) λa b=> ?_;rw[as5]at b;refine Rn.nn b (λo c=>fe (v:= .i 77) rfl rfl k_ c (b.G 21) rfl d (by simp[Bu];omega)) λa b=> ?_;rw[GU o_];have h:=f.trans (dn g (Bu (i+1)) 3) o_;refine Rn.ul b λa b=> ?_;refine Rn.vv b (λo c=>cJ (n:=1) c (b.G 14) rfl o_) λa b=> ?_;refine Rn.ul b λa b=> ?_;exact Rn.p rfl (Rn.p rfl (k (i+1) _ _ o_ o_ (bZ (cs:=Bu (i+1)) (t:=3) d) h b.O))
def LN(w):Calls lT 45 #[.slice none 0 0] w λe w'=>e= .returned (.sk w.heap.size 0 4)/\w'.heap[w.heap.size]?=some (.cells (Bu 4) 3)/\Bw w w':=by
 refine eK lf45 MS λq a c=> ?_
 iterate 3 refine Rn.ul c λa c=> ?_
 refine Rn.vv c (λo d=>cJ (n:=4) d (c.G 6) rfl o_) λa c=> ?_;refine Rn.al c (λo d=>Pr d (c.G 7) (c.G 7)) λf a l k p c=> ?_
 iterate 3 refine Rn.ul c λa c=> ?_
 refine Rn.vv c (λo d=>TB d (c.G 9) (c.G 10)) λa c=> ?_;refine Rn.ul c λa c=> ?_;refine Rn.p rfl (Rn.p rfl (Rn.p rfl (Jk (λa i j h c=> ?_) 4 0 f _ rfl o_ k Ex.refl c.O)))
 iterate 3 refine Rn.ul c λa c=> ?_
 refine Rn.vv c (λo d=>P2 d (c.G 22) (c.G 24)) λa c=> ?_;refine Rn.ul c λa c=> ?_;have X:Ex (λ_=>False) w i:=(Ex.of_below l).trans h o_;exact Rn.fi c ⟨rfl,j,X.os,X.tape,X.output,X.size,λb g=>X.block b g λe=>e⟩
def Ff(l:w0.heap[g]?=some (.cells (Bu 4) 3))(f:∀a w,Bw w0 w->Has [] 46 [] a->Rn lT Goal ((base 48).atR a [.code (Jt f48)]) cs w):
 ∀(m i:Nat) w a,4- i=m->i<=4->Bw w0 w->Has [(1, .slice none 0 0),(5, .sk g 4 4),(6, .i i)] 46 [] a->Rn lT Goal ((base 48).atR a [.code (Jw f48), .inLoop (Jw f48), .inBlock 0, .code (Jt f48)]) cs w:=by
 intro m;induction m with
 |zero=>
  intro i w a j k d b
  iterate 4 refine Rn.ul b λa b=> ?_
  refine Rn.p rfl (Rn.cond _ (b.G 15) ?_);rw[decide_eq_false o_];exact Rn.p rfl (f _ _ d (b.only trivial))
 |succ m h=>
  intro i w a j k d b
  iterate 4 refine Rn.ul b λa b=> ?_
  refine Rn.p rfl (Rn.cond _ (b.G 15) ?_);rw[decide_eq_true o_];have b:Has [(1, .slice none 0 0),(5, .sk g 4 4),(6, .i i)] 46 [] a:=b.O
  iterate 4 refine Rn.p rfl ?_
  have e:=bk d l;refine Rn.gt b ?_
  iterate 4 refine j_ ?_
  rw[decide_eq_false (o_:¬((i:Nat):Int)<((0:Nat):Int))];refine j_ ?_
  iterate 9 refine r_ ?_
  refine n_ ?_ (y:=λo a w c z=>mO c gx rfl)
  iterate 5 refine j_ ?_
  rw[decide_eq_true (o_:((i:Nat):Int)≥((0:Nat):Int))]
  iterate 3 refine j_ ?_
  refine n_ ?_ (y:=λo a w c z=>g7 i k_ c gx gx o_);refine n_ ?_ (y:=λo a w c z=>(aO bH c gx ((aH (bk z.b e) _).trans (by rw[as5];exact LQ o_))).1);refine n_ ?_;refine n_ ?_;refine n_ ?_;refine q_ λa q b p _=> ?_
  .refine Rn.cond _ (b.G 45) ?_;refine Rn.ul b λa b=> ?_;refine Rn.vv b (λo c=>cJ (n:=1) c (b.G 16) rfl o_) λa b=> ?_;refine Rn.ul b λa b=> ?_;exact Rn.p rfl (Rn.p rfl (h (i+1) _ _ o_ o_ (aD d d.size p) b.O))
def JG(d:w.heap[g]?=some (.cells (Bu 4) 3)):Calls lT 48 #[.sk g 0 4, .slice none 0 0] w λe w'=>e= .returned (.bool true)/\Bw w w':=by
 refine eK lf48 MV λi a b=> ?_
 iterate 4 refine Rn.ul b λa b=> ?_
 refine Rn.vv b (λo c=>cJ (n:=4) c (b.G 9) rfl o_) λa b=> ?_;refine Rn.vv b (λo c=>P1 c (b.G 7) (b.G 10)) λa b=> ?_
 iterate 2 refine Rn.ul b λa b=> ?_
 refine Rn.p rfl (Rn.p rfl (Rn.p rfl (Ff d (λa h f b=> ?_) 4 0 w _ rfl o_ (bR) b.O)));refine Rn.ul b λa b=> ?_;exact Rn.fi b ⟨rfl,f⟩
end
def XJ(f:Func):Code:= .seq (.seq (rG f 4) (.cond (.tmp 29) .skip (.exit 0))) (.seq (.block 1 (.seq (rG f 6) (.seq (rG f 7) (.seq (.seq (rG f 8) (.cond (.tmp 41) (rG f 9) .skip)) (rG f 10))))) (rG f 5))
def XG(f:Func):Code:= .seq (rG f 11) (.seq (rG f 12) (.seq (.seq (rG f 13) (.cond (.tmp 55) (.seq (rG f 14) (rG f 15)) .skip)) (.seq (rG f 16) .ret)))
def Ue:f50.body=some (.seq (rG f50 0) (.seq (rG f50 1) (.seq (rG f50 2) (.seq (.seq (rG f50 3) (.block 0 (.loop (XJ f50)))) (XG f50))))):=k_
def Qu:f23.body=some (.seq (rG f23 0) (.seq (rG f23 1) (.seq (rG f23 2) (.seq (rG f23 3) (.seq (rG f23 4) (.seq (rG f23 5) .ret)))))):=k_
section
variable{rb wb qw kb qk:Nat}{c0 c1 fl:Value}{up:Bool}{sl:Int}{L:ByteArray}{W K:List Int}
def TD(hKl:KS.length=64)(hKw:lB KS)(hc:w.heap[rb]?=some (.cells (oP c0 c1 fl (.sk wb 85 qw) (.sk kb 16 qk) up sl) 107))(hC:sY KS #[c0,c1] w)(hf:qP w fl L)(hW:g6 W)(hr:w.rangeAt wb 0 (W.map (Value.int .i64)))(hK:Bo w kb qk K):
 Calls lT 50 #[.pk rb 0, .slice none 0 0] w λe w'=>∃v,e= .returned v/\∃ns j s n c,iX KS W L ns j s n c/\v= .agg (d8 1 j s n c)/\(∃up' sl',w'.heap[rb]?=some (.cells (oP c0 c1 fl (.sk wb 85 qw) (.sk kb 16 qk) up' sl') 107))/\Bo w' kb qk (uJ K ns)/\Ex (λb=>b=rb\/b=kb) w w':=by
 refine kh lf50 rfl (by rw[bQ];exact underlying100) rfl ka λcs=>Rn.ent (N:=65) lf50 Ue λa hF=> ?_;have hrb:=aK hc;have hkb:kb<w.heap.size:=let ⟨_,_,_,_,h,_⟩:=hK;aK h
 have nkr:kb≠rb:=λe=>by obtain⟨_,_,cs,fr,h,_⟩:=hK;simp_all
 refine Rn.al hF (λo ho=>jN ho) λw1 a b1 c1' z1 hF=> ?_;refine Rn.ul hF λa hF=> ?_;refine Rn.cl hF lf77 (E0 hKl hKw (bk b1 hc) (hC.mono b1) (hf.keep (Ex.of_below (X:=λ_=>False) b1) s_) hW (λj v hv=>bM b1 (hr j v hv))) λv w2 hv a hF=> ?_;obtain⟨nv,ns,j,s,n,c,rfl,hQ,o2,b2⟩:=hv;have z2:=b2.size
 iterate 3 refine Rn.ul hF λa hF=> ?_
 refine Rn.al hF (λo ho=>jN ho) λw3 a b3 c3 z3 hF=> ?_;have c3':=bk b3 (bk b2 c1');have o3:=dL o2 b3;refine Rn.ul hF λa hF=> ?_;refine Rn.nn hF (λo ho=>gn ho (hF.G 6) (hF.G 13) c3 rfl) λa hF=> ?_;have B3:Bw w w3:=aD (aD b1 b1.size b2) o_ b3;have x4:=dn (w:=w3) w2.heap.size (d8 0 j s n c) 100;have o4:=bZ (w:=w3) (cs:=d8 0 j s n c) (t:=100) c3;have r4:=x4.at o_ (bk B3 hc);have p4:=x4.at o_ c3';have l4:=(GI o3).keep x4 λb cs fr hb e=>by simp_all
 have k4:=(hK.keep (Ex.of_below (X:=λ_=>False) B3) (λe=>e)).keep x4 o_;have X4:Ex (λb=>b=rb\/b=kb) w (gK w3 w2.heap.size (d8 0 j s n c) 100):=(Ex.of_below B3).trans x4 o_;revert o4 r4 p4 l4 k4 X4;generalize gK w3 w2.heap.size (d8 0 j s n c) 100=w4;intro o4 r4 p4 l4 k4 X4
 iterate 3 refine Rn.ul hF λa hF=> ?_
 refine Rn.nn hF (λo ho=>fe (v:= .bool false) rfl rfl k_ ho (hF.G 16) rfl r4 (d_:5<7)) λa hF=> ?_;rw[show(oP c0 c1 fl (.sk wb 85 qw) (.sk kb 16 qk) up sl).setIfInBounds 5 (.bool false)=oP c0 c1 fl (.sk wb 85 qw) (.sk kb 16 qk) false sl from rfl];have x5:=dn (w:=w4) rb (oP c0 c1 fl (.sk wb 85 qw) (.sk kb 16 qk) false sl) 107;have r5:=bZ (w:=w4) (cs:=oP c0 c1 fl (.sk wb 85 qw) (.sk kb 16 qk) false sl) (t:=107) r4;have o5:=x5.at o_ o4;have p5:=x5.at o_ p4;have l5:=l4.keep x5 λb cs fr hb e=>by simp_all
 have k5:=k4.keep x5 nkr;have X5:=X4.trans x5 o_;revert o5 r5 p5 l5 k5 X5;generalize gK w4 rb (oP c0 c1 fl (.sk wb 85 qw) (.sk kb 16 qk) false sl) 107=w5;intro r5 o5 p5 l5 k5 X5
 iterate 4 refine Rn.ul hF λa hF=> ?_
 refine Rn.vv hF (λo ho=>(gy (ql:=true) (m:=0) (n:=0) ho (hF.G 17) (hF.G 19)).1) λa hF=> ?_;refine Rn.ul hF λa hF=> ?_
 iterate 7 refine Rn.us hF λa hF=> ?_
 refine Rn.vv (v:= .bool false) hF (λo ho=>mO ho (hF.G 21) rfl) λa hF=> ?_;refine Rn.p rfl (Rn.cond _ (hF.G 29) ?_);refine Rn.ul hF λa hF=> ?_;refine Rn.vv hF (λo ho=>(aO bH ho (hF.G 47) ((aH o5 0).trans rfl)).1) λa hF=> ?_;refine Rn.vv hF (λo ho=>cJ (m:=0) (n:=1) ho (hF.G 48) rfl o_) λa hF=> ?_;refine Rn.ul hF λa hF=> ?_;refine Rn.nn hF (λo ho=>fe (v:= .i 1) rfl rfl k_ ho (hF.G 50) (hF.G 49) o5 (d_:0<5)) λa hF=> ?_;rw[show(d8 0 j s n c).setIfInBounds 0 (.i 1)=d8 1 j s n c from rfl];have x6:=dn (w:=w5) w2.heap.size (d8 1 j s n c) 100;have o6:=bZ (w:=w5) (cs:=d8 1 j s n c) (t:=100) o5;have r6:=x6.at o_ r5;have p6:=x6.at o_ p5;have l6:=l5.keep x6 λb cs fr hb e=>by simp_all
 have k6:=k5.keep x6 o_;have X6:=X5.trans x6 o_;revert o6 r6 p6 l6 k6 X6;generalize gK w5 w2.heap.size (d8 1 j s n c) 100=w6;intro o6 r6 p6 l6 k6 X6
 iterate 2 refine Rn.ul hF λa hF=> ?_
 have hn4:=yC hQ;refine Rn.cw hF lf78 (Jl r6 k6 l6 o_) λw7 ⟨k7,x7⟩ a hF=> ?_;have o7:=x7.at o_ o6;have r7:=x7.at o_ r6;have p7:=x7.at o_ p6;have X7:=X6.trans x7 o_;refine Rn.ul hF λa hF=> ?_;refine Rn.vv hF (λo ho=>(aO pi ho (hF.G 54) ((aH o7 1).trans rfl)).1) λa hF=> ?_;refine Rn.p rfl (Rn.cond _ (hF.G 55) ?_);have fin:∀{a:Act} {w8:World} {up':Bool} {sl':Int} {k:List Item},w8.heap[w2.heap.size]?=some (.cells (d8 1 j s n c) 100)->w8.heap[w.heap.size]?=some (.cells (d8 0 false 0 0 0) 100)->w8.heap[rb]?=some (.cells (oP c0 c1 fl (.sk wb 85 qw) (.sk kb 16 qk) up' sl') 107)->Bo w8 kb qk (uJ K ns)->Ex (λb=>b=rb\/b=kb) w w8->Has [(4, .pt w.heap.size),(6, .pt w2.heap.size)] 65 [] a->Rn lT (λg w'=>∃(a:Act) (k:List Item) (bk:Nat) (cells:Array Value) (tt:TypeId),g=cD {(base 50).atR a k with mode:= .returning} cs/\a.defers=[]/\a.tmps[4]?=some (.pk bk 0)/\w'.heap[bk]?=some (.cells cells tt)/\cells.size=5/\∃v,Zo (.agg cells)= .returned v/\∃ns j s n c,iX KS W L ns j s n c/\v= .agg (d8 1 j s n c)/\(∃up' sl',w'.heap[rb]?=some (.cells (oP c0 c1 fl (.sk wb 85 qw) (.sk kb 16 qk) up' sl') 107))/\Bo w' kb qk (uJ K ns)/\Ex (λb=>b=rb\/b=kb) w w') ((base 50).atR a [.code (.seq (rG f50 16) .ret)]) cs w8:=λ{a w8 up' sl' k} o8 p8 r8 k8 X8 hF=>by refine Rn.vv hF (λo ho=>rZ ho (hF.G 6) o8) λa hF=> ?_;refine Rn.nn hF (λo ho=>gn ho (hF.G 4) (hF.G 64) p8 rfl) λa hF=> ?_;have x9:=dn (w:=w8) w.heap.size (d8 1 j s n c) 100;exact Rn.runs 6 _ (Rn.ends rfl (.inr ⟨_,rfl⟩) (Rn.now ⟨_,_,w.heap.size,_,_,rfl,hF.defers,hF.slot 4 _ rfl,bZ p8,rfl,_,rfl,ns,j,s,n,c,hQ,rfl,⟨_,_,x9.at o_ r8⟩,k8.keep x9 o_,X8.trans x9 o_⟩))
 cases j with
 |false=>exact Rn.p rfl (fin (k:=[]) o7 p7 r7 k7 X7 hF.O)
 |true=>
  iterate 3 refine Rn.ul hF λa hF=> ?_
  refine Rn.nn hF (λo ho=>fe (v:= .bool true) rfl rfl k_ ho (hF.G 58) rfl r7 (d_:5<7)) λa hF=> ?_;rw[show(oP c0 c1 fl (.sk wb 85 qw) (.sk kb 16 qk) false sl).setIfInBounds 5 (.bool true)=oP c0 c1 fl (.sk wb 85 qw) (.sk kb 16 qk) true sl from rfl];have x8:=dn (w:=w7) rb (oP c0 c1 fl (.sk wb 85 qw) (.sk kb 16 qk) true sl) 107;have r8:=bZ (w:=w7) (cs:=oP c0 c1 fl (.sk wb 85 qw) (.sk kb 16 qk) true sl) (t:=107) r7;have o8:=x8.at o_ o7;have p8:=x8.at o_ p7;have k8:=k7.keep x8 nkr;have X8:=X7.trans x8 o_;revert o8 r8 p8 k8 X8;generalize gK w7 rb (oP c0 c1 fl (.sk wb 85 qw) (.sk kb 16 qk) true sl) 107=w8;intro r8 o8 p8 k8 X8
  iterate 2 refine Rn.ul hF λa hF=> ?_
  refine Rn.vv hF (λo ho=>(aO bH ho (hF.G 60) ((aH o8 2).trans rfl)).1) λa hF=> ?_
  iterate 2 refine Rn.ul hF λa hF=> ?_
  refine Rn.nn hF (λo ho=>fe (v:= .i s) rfl rfl k_ ho (hF.G 63) (hF.G 61) r8 (d_:6<7)) λa hF=> ?_;rw[show(oP c0 c1 fl (.sk wb 85 qw) (.sk kb 16 qk) true sl).setIfInBounds 6 (.i s)=oP c0 c1 fl (.sk wb 85 qw) (.sk kb 16 qk) true s from rfl];have x9:=dn (w:=w8) rb (oP c0 c1 fl (.sk wb 85 qw) (.sk kb 16 qk) true s) 107;exact Rn.p rfl (fin (k:=[]) (x9.at o_ o8) (x9.at o_ p8) (bZ r8) (k8.keep x9 nkr) (X8.trans x9 o_) hF.O)
end
def mS{a}{c c'}{g}{f f'}(d:w.heap[a]?=some (.cells c t f))(i:w.heap[b]?=some (.cells c' g f'))(h:t≠g):a≠b:=λe=>by simp_all
section
variable{pb lb cb fb fq rb fr frq wb qw kb qk hb hq tb tq:Nat}{V K K':List Int}{L:ByteArray}{on on':Bool}{sl sl':Int}{up up':Bool}{rs rs':Int}{lv mv:Value}{ls:List Value}{ms:List Int}
def jK.boot(h:jK w pb lb cb fb fq rb fr frq wb qw kb qk hb hq tb tq KS V K L on sl up rs lv mv ls ms)(x:Ex (λb=>b=cb\/b=rb\/b=kb) w w')(hch:nF w' cb (.sk fb L.size fq) V K' on' sl')
 (hrf:w'.heap[rb]?=some (.cells (oP (.sk hb 8 hq) (.sk tb 64 tq) (.sk fr L.size frq) (.sk wb 85 qw) (.sk kb 16 qk) up' rs') 107)) (hkp:Bo w' kb qk K'):
 jK w' pb lb cb fb fq rb fr frq wb qw kb qk hb hq tb tq KS V K' L on' sl' up' rs' lv mv ls ms:=by
 have hc:=h.ch.2.2;have hr:=h.ref;have⟨_,_,ck,fk,hk,_⟩:=id h.kpt;have n3:∀{b:Nat} {c:Array Value} {t:TypeId} {f:Nat×Nat},w.heap[b]?=some (.cells c t f)->t≠149->t≠107->t≠5->¬(b=cb\/b=rb\/b=kb):=λh1 t1 t2 t3 e=>by grind
 have ni:∀{b:Nat} {l:List Int},pN w b l->¬(b=cb\/b=rb\/b=kb):=λhi=>by
  have⟨c,h1,_⟩:=hi
  grind
 have nf:∀{b q:Nat},kb≠b->qP w (.sk b L.size q) L->¬(b=cb\/b=rb\/b=kb):=λhne hf e=>by
  have⟨_,b',q',cells,f,e1,_,h1,_⟩:=hf
  grind
 exact⟨x.at (n3 h.pr d_ d_ d_) h.pr,x.at (n3 h.lin d_ d_ d_) h.lin,hch,h.fls.keepB x (nf h.nk.1 h.fls),hrf,h.rfs.keepB x (nf h.nk.2 h.rfs),h.wds.keep x (ni h.wds),hkp,h.hsh.keep x (ni h.hsh),h.tab.keep x (ni h.tab),h.lst.keep x (λb cs f hb=> .inl (n3 hb d_ d_ d_)) (λb cs f hb=>n3 hb d_ d_ d_),h.nk⟩
def WM(hrd:pL)(hKl:KS.length=64)(hKw:lB KS)(hV:g6 V)(h:jK w pb lb cb fb fq rb fr frq wb qw kb qk hb hq tb tq KS V K L on sl up rs lv mv ls ms)(h0:cb≠0)(hT:w.rangeAt 0 0 (aQ KS)):
 Calls lT 23 #[.pk pb 0, .slice none 0 0] w λe w'=>e= .returned (.bool true)/\∃K' on' sl' up' rs',jK w' pb lb cb fb fq rb fr frq wb qw kb qk hb hq tb tq KS V K' L on' sl' up' rs' lv mv ls ms:=by
 obtain⟨ns,j,s,n,c,hQ⟩:=DZ KS V L;refine eK (N:=32) lf23 Qu λcs a hF=> ?_;have hcl:=h.ch.lt;have hrl:=aK h.ref;have hpl:=aK h.pr;obtain⟨_,_,ck,fk,hk,_⟩:=id h.kpt;have hkl:=aK hk;have ncr:cb≠rb:=mS h.ch.2.2 h.ref d_;have nck:cb≠kb:=mS h.ch.2.2 hk d_;have nrk:rb≠kb:=mS h.ref hk d_;have npc:pb≠cb:=mS h.pr h.ch.2.2 d_
 iterate 2 refine Rn.ul hF λa hF=> ?_
 refine Rn.cw hF lf45 (LN w) λw1 ⟨c1,b1⟩ a hF=> ?_;have h1:=h.below b1;have z1:=aK c1;have hpr:=h1.pr;have hT1:w1.rangeAt 0 0 (aQ KS):=λj v hv=>bM b1 (hT j v hv)
 iterate 6 refine Rn.ul hF λa hF=> ?_
 refine Rn.cl hF lf49 (TE hrd hKl hQ h1.ch hV h1.fls h0 hT1 h1.lin) λv w2 hv a hF=> ?_;obtain⟨rfl,ch2,f2,x2⟩:=hv;have z2:=x2.size;refine Rn.al hF (λo ho=>jN ho) λw3 a b3 c3 z3 hF=> ?_;refine Rn.nn hF (λo ho=>gn ho (hF.G 6) (hF.G 16) c3 rfl) λa hF=> ?_;have x4:=dn (w:=w3) w2.heap.size (d8 1 j s n c) 100;have o4:=bZ (w:=w3) (cs:=d8 1 j s n c) (t:=100) c3;have X4:Ex (· =cb) w (gK w3 w2.heap.size (d8 1 j s n c) 100):=(((Ex.of_below b1).trans x2 o_).trans (Ex.of_below (X:=λ_=>False) b3) s_).trans x4 o_;have c4:=x4.at o_ (bk b3 (x2.at o_ c1));have ch4:=(ch2.ex (Ex.of_below (X:=λ_=>False) b3) (λe=>e)).ex x4 o_;have s4:=dE (w:=w3) (b:=w2.heap.size) (cs:=d8 1 j s n c) (t:=100);revert o4 X4 c4 ch4 s4;generalize gK w3 w2.heap.size (d8 1 j s n c) 100=w4;intro o4 X4 c4 ch4 s4
 iterate 2 refine Rn.ul hF λa hF=> ?_
 refine Rn.cw hF lf48 (JG c4) λw5 b5 a hF=> ?_;have z5:=b5.size;have X5:Ex (· =cb) w w5:=X4.trans (Ex.of_below (X:=λ_=>False) b5) s_;have hpr:=X5.at npc h.pr;have hrf5:=X5.at o_ h.ref;have nfr:¬fr=cb:=by obtain⟨_,b',q',cells,f,e1,_,g1,_⟩:=h.rfs;cases e1;exact mS g1 h.ch.2.2 d_
 have nw:∀{b:Nat} {l:List Int},pN w b l->b≠cb:=λhi=>by obtain⟨c,g1,_⟩:=hi;exact mS g1 h.ch.2.2 d_
 have hC5:sY KS #[.sk hb 8 hq, .sk tb 64 tq] w5:=⟨hb,hq,tb,tq,rfl,(h.hsh.keep X5 (nw h.hsh)).rng,(h.hsh.keep X5 (nw h.hsh)).lt,(h.tab.keep X5 (nw h.tab)).rng,(h.tab.keep X5 (nw h.tab)).lt⟩
 iterate 6 refine Rn.ul hF λa hF=> ?_
 refine Rn.cl hF lf50 (TD hKl hKw hrf5 hC5 (h.rfs.keepB X5 nfr) hV (h.wds.keep X5 (nw h.wds)).rng (h.kpt.keep X5 o_)) λv w6 hv a hF=> ?_;obtain⟨ns',j',s',n',c',hQ',rfl,⟨up',rs',rf6⟩,kp6,x6⟩:=hv;obtain⟨rfl,rfl,rfl,rfl,rfl⟩:=Iu hQ hQ';have z6:=x6.size;have ch6:=(ch4.ex (Ex.of_below (X:=λ_=>False) b5) (λe=>e)).ex x6 (λe=>e.elim ncr nck);have o6:=x6.at o_ (bk b5 o4);refine Rn.al hF (λo ho=>jN ho) λw7 a b7 c7 z7 hF=> ?_;refine Rn.nn hF (λo ho=>gn ho (hF.G 8) (hF.G 25) c7 rfl) λa hF=> ?_;have x8:=dn (w:=w7) w6.heap.size (d8 1 j s n c) 100;have o8:=bZ (w:=w7) (cs:=d8 1 j s n c) (t:=100) c7;have o8':=x8.at o_ (bk b7 o6);have B6:Ex (λb=>b=cb\/b=rb\/b=kb) w w6:=(Ex.wide X5 λ_ _ e=> .inl e).trans x6 λb _ e=> .inr e;have hB:=h.boot B6 ch6 rf6 kp6;have h8:=(hB.below b7).ex x8 ⟨by have:=aK hB.lin;omega,o_,by
  obtain⟨_,b',q',cells,f,e1,_,g1,_⟩:=hB.fls
  grind,o_,by
  obtain⟨_,b',q',cells,f,e1,_,g1,_⟩:=hB.rfs
  grind,by have:=hB.wds.lt;omega,by omega,by have:=hB.hsh.lt;omega,by have:=hB.tab.lt;omega⟩ (x8.at o_ (bk b7 hB.pr)) ((hB.lst.below b7).keep x8 (λb cs f g1=> .inl (mS g1 c7 d_)) λb cs f g1=>mS g1 c7 d_)
 iterate 2 refine Rn.ul hF λa hF=> ?_
 refine Rn.vv hF (λo ho=>rZ ho (hF.G 6) o8') λa hF=> ?_;refine Rn.vv hF (λo ho=>rZ ho (hF.G 8) o8) λa hF=> ?_;refine Rn.vv hF (λo ho=>Sl ho (hF.G 28) (hF.G 29)) λa hF=> ?_
 iterate 2 refine Rn.ul hF λa hF=> ?_
 exact Rn.fi hF ⟨rfl,_,_,_,_,_,h8⟩
def IC(f:Func):Code:= .seq (.seq (rG f 3) (.cond (.tmp 30) (.seq (rG f 4) .ret) .skip)) (.seq (rG f 5) (.seq (rG f 6) (.seq (rG f 7) (.seq (rG f 8) .ret))))
def TZ:Tryz.f5.body=some (.seq (rG Tryz.f5 0) (.seq (rG Tryz.f5 1) (.seq (rG Tryz.f5 2) (IC Tryz.f5)))):=k_
def Lt{y}{p}(a:o.op= .binOp .eql 56 x y u)(d:ev x= .pointer p)(c:ev y= .pointer none):(execOp ev o).run lT w= .ok (.value (.bool p.isNone)) w:=by
 cases p with
 |none=>
  have b:(do pure (.value (←(do eqGuard .eql 56 x y (.pointer none) (.pointer none);binOp .eql 56 (.pointer none) (.pointer none)))):Sem Next).run lT w= .ok (.value (.bool true)) w:=k_
  simp only[execOp,a,d,c];rw[b];rfl
 |some p=>
  have b:(do pure (.value (←(do eqGuard .eql 56 x y (.pointer (some p)) (.pointer none);binOp .eql 56 (.pointer (some p)) (.pointer none)))):Sem Next).run lT w= .ok (.value (.bool false)) w:=k_
  simp only[execOp,a,d,c];rw[b];rfl
def LO(e:w.heap[pb]?=some (.cells #[.pointer none, .pointer none, .slice none 0 0, .slice none 0 0] 60))(d:∀a k,Has [(6, .bool true)] 45 [] a->Rn lT Goal ((base 5).atR a (.code .ret::k)) cs w)(b:Has [(8, .pt pb),(9, .bool true)] 45 [] a):
 Rn lT Goal ((base 5).atR a [.code (IC Tryz.f5)]) cs w:=by
 iterate 7 refine Rn.ul b λa b=> ?_
 refine Rn.vv b (λo c=>Lt c (b.G 28) rfl) λa b=> ?_;refine Rn.vv b (λo c=>mO c (b.G 24) (b.G 29)) λa b=> ?_;refine Rn.p rfl (Rn.cond _ (b.G 30) ?_)
 iterate 2 refine Rn.ul b λa b=> ?_
 exact Rn.p rfl (d _ _ b.O)
def Jo(c:pL)(i:KS.length=64)(g:lB KS)(e:g6 V)(h:jK w pb lb cb fb fq rb fr frq wb qw kb qk hb hq tb tq KS V K L on sl up rs lv mv ls ms)(x:ms.length<=1000)(C:cb≠0)(z:w.rangeAt 0 0 (aQ KS))(y:¬Xl pb lv mv 0)
 (q:∀a k w',Has [(6, .bool true)] 45 [] a->Rn lT Goal ((base 5).atR a (.code .ret::k)) cs w') (b:Has [(8, .pt pb),(9, .bool true)] 45 [] a):
 Rn lT Goal ((base 5).atR a [.code (IC Tryz.f5)]) cs w:=by
 have v:=h.pr
 iterate 7 refine Rn.ul b λa b=> ?_
 refine Rn.vv b (λo d=>Lt d (b.G 28) rfl) λa b=> ?_;refine Rn.vv b (λo d=>mO d (b.G 24) (b.G 29)) λa b=> ?_;refine Rn.p rfl (Rn.cond _ (b.G 30) ?_);refine Rn.ul b λa b=> ?_;refine Rn.cw b lf22 (xf e.1 h o_) λF ⟨t,r,u,s,B,G,_,_,_,j⟩ a b=> ?_;have f:=fy j y (by grind) z
 iterate 2 refine Rn.ul b λa b=> ?_
 refine Rn.cw b lf23 (WM c i g e B C f) λE ⟨H,p,m,l,n,A⟩ a b=> ?_
 iterate 2 refine Rn.ul b λa b=> ?_
 refine Rn.cw b lf22 (xf e.1 A o_) λD _ a b=> ?_
 iterate 9 refine Rn.ul b λa b=> ?_
 exact Rn.p rfl (q _ _ _ b.O)
end
end L1
section
open Go.Conc Go.RowKit
def EZ(L:List Int):Array (Nat×Operand):=(L.zipIdx.map λp=>(p.2,Operand.const (.int .i64 p.1))).toArray
def sK(a:o.op= .alloc 26):Mk tP ev o w #[.slice none 0 0, .slice none 0 0] 26:=by unfold Mk;simp[execOp,a];constructor<;>kernel_rfl
def T9(a:Act)(L):(EZ L).map (λp=>(p.1,a.eval p.2))=(L.zipIdx.map λp=>(p.2,Value.i p.1)).toArray:=by unfold EZ;rw[aB7,List.map_map];rfl
def Mj{L}(b:o.op= .buildSlice 24 n (EZ L)):execOp a.eval o=(do pure (.value (←Instr.buildSlice 24 n (L.zipIdx.map λp=>(p.2,Value.i p.1)).toArray))):=by rw[←T9 a L];simp[execOp,b]
def R0(b:o.op= .buildSlice 24 8 (EZ H0)):(execOp a.eval o).run tP w= .ok (.value (.slice (some ⟨w.heap.size,0,none⟩) 8 8)) (w.alloc (.cells (bA H0).toArray 3))/\(execOp a.eval o).events tP w #[]=#[]:=by rw[Mj b];constructor<;>kernel_rfl
def Wv(b:o.op= .buildSlice 24 64 (EZ vm)):(execOp a.eval o).run tP w= .ok (.value (.slice (some ⟨w.heap.size,0,none⟩) 64 64)) (w.alloc (.cells (bA vm).toArray 3))/\(execOp a.eval o).events tP w #[]=#[]:=by rw[Mj b];constructor<;>kernel_rfl
section
variable{y:Operand}
def Hz(a:o.op= .move x\/o.op= .assign x):(execOp ev o).events P w #[]=#[]:=by rcases a with h|h<;>simp[execOp,h,go_sem]
def CJ{p q}{c a c'}(b:o.op= .build 26 #[(0,x),(1,y)])(f:ev x= .slice p l c)(d:ev y= .slice q a c'):Yl tP ev o w (.agg #[.slice p l c, .slice q a c']) #[]:=by unfold Yl;simp[execOp,b,f,d];constructor<;>kernel_rfl
def CI{u f v0}(c:u.oneCell'=true)(hv:v.oneCell'=true)(a:o.op= .store 26 x y)(i:ev x= .pk b 0)(g:ev y= .agg #[u,v])(h:w.heap[b]?=some (.cells #[f,v0] 26)):
 (execOp ev o).run tP w= .ok .skip (w.setRow b #[u,v])/\∀e∈(execOp ev o).events tP w #[],∃k,e=⟨.cell ⟨b,k,none⟩,true,false⟩:=by
 have l:(sizeOf 26).run tP w= .ok 2 w:=k_
 have d:(sizeOf 26).events tP w #[]=#[]:=k_
 constructor
 .exact cZ a i g h k_ rfl (by simp[c,hv])
 .have q:=(aH h 0).trans rfl;have p:(w.setCell ⟨b,0,none⟩ u).cell? ⟨b,1,none⟩=some v0:=by rw[World.cell?_setCell_other _ _ _ _ s_];exact(aH h 1).trans rfl
  have n:w.frozen? ⟨b,0,none⟩=false:=by simp[If,h]
  have m:w.frozen? ⟨b,1,none⟩=false:=by simp[If,h]
  intro e j;simp[execOp,a,i,g,Instr.storeAt,storeVar,Value.cells,l,d,storeCells,Y1,run_store _ _ _ _ _ c,events_store (hv:=c),events_store (hv:=hv),q,p,n,m,go_sem]at j
  grind
end
def T8{tmps}{u}(a:fn.results=#[.cell 0 26])(c:tmps[0]?=some (.pk b 0))(h:w.heap[b]?=some (.cells #[u,v] 26)):
 (results fn tmps).run tP w= .ok (.agg #[u,v]) w/\∀e∈(results fn tmps).events tP w #[],∃k,e=⟨.cell ⟨b,k,none⟩,false,false⟩:=by
 have f:(isAgg 26).run tP w= .ok true w:=k_
 have j:(isAgg 26).events tP w #[]=#[]:=k_
 have i:=(aH h 0).trans rfl;have g:=(aH h 1).trans rfl;constructor
 .simp[results,a,c,loadVar,f,loadCells,loadCellsFrom,Y1,i,g,go_sem]
 .intro e d;simp[results,a,c,loadVar,f,j,loadCells,loadCellsFrom,Y1,i,g,go_sem]at d
  grind
def aP.mv{S}{b:Frame}{k}(g:Has F N ds a)(d x:Nat){p}(f:p= .move (.tmp x)\/p= .assign (.tmp x))(j:F.lookup x=some v)
 (next:∀a',Has ((d,v)::F) N ds a'->aP P Post S (cD (b.atR a' (.inRegion ops rest::k)) cs) w) (n:d<N:=by decide) (h:(ops[m]?).map (λo=>(o.dst,o.op,o.guard))=some (some d,p,none):=by kernel_rfl):aP P Post S (cD (b.atR a (.inRegion ops (m::rest)::k)) cs) w:=by
 refine aP.oO g d p (λo c l=> ?_) n h (λc e=>by simp_all);have i:o.op= .move (.tmp x)\/o.op= .assign (.tmp x):=by rwa [l]
 exact⟨v,w.at c,by rw[cy i,g.get j],Nat.le_refl _,iT (Hz i),λa g=>(next a g).at c⟩
def fC(w)(c):Below N w (w.at c):=⟨rfl,rfl,rfl,ar5 _,λ_ _=>rfl⟩
def Uj:f8.body=some (.seq (rG f8 0) (.seq (rG f8 1) (.seq (rG f8 2) (.seq (rG f8 3) .ret)))):=k_
def Mi{S}{c'}{cs'}(M:∀r,S r->r<w.heap.size)
 (next:∀w',Bw w w'->w'.heap[w.heap.size+1]?=some (.cells (bA H0).toArray 3)->w'.heap[w.heap.size+2]?=some (.cells (bA vm).toArray 3)->w'.heap.size=w.heap.size+3->aP tP Post S (cD (c'.finish (.agg #[.slice (some ⟨w.heap.size+1,0,none⟩) 8 8, .slice (some ⟨w.heap.size+2,0,none⟩) 64 64])) cs') w'):
 aP tP Post S (bT tP 8 #[] (c'::cs')) w:=by
 show aP tP Post S (cD (as7 tP 8 ([]:List Value).toArray .normal) (c'::cs')) w;rw[aT [] func8 Uj rfl];have b:=aN [] 8 s_;refine aP.plain rfl (aP.region rfl ?_);refine aP.oO b 0 (.alloc 26) λo c i=>⟨_,_,(sK i).1,by rw[aJ];exact aA6 _,iT (sK i).2,λa b=> ?_⟩;have z:Bw w ((w.at c).alloc (.cells #[.slice none 0 0, .slice none 0 0] 26)):=(fC w c).trans (aR (w.at c) _);have l:((w.at c).alloc (.cells #[.slice none 0 0, .slice none 0 0] 26)).heap[w.heap.size]?=_:=aY (w.at c) (.cells #[.slice none 0 0, .slice none 0 0] 26);have B:((w.at c).alloc (.cells #[.slice none 0 0, .slice none 0 0] 26)).heap.size=w.heap.size+1:=aJ (w.at c) _;have b:=b;revert z l B;generalize (w.at c).alloc (.cells #[.slice none 0 0, .slice none 0 0] 26)=g;intro z l B;refine aP.plain rfl (aP.plain rfl (aP.region rfl ?_));refine aP.oO b 3 (.buildSlice 24 8 (EZ H0)) λo c i=>⟨_,_,(R0 i).1,by rw[aJ];exact aA6 _,iT (R0 i).2,λa b=> ?_⟩;have q:Bw g ((g.at c).alloc (.cells (bA H0).toArray 3)):=(fC g c).trans (aR (g.at c) _);have s:((g.at c).alloc (.cells (bA H0).toArray 3)).heap[g.heap.size]?=_:=aY (g.at c) (.cells (bA H0).toArray 3);have x:((g.at c).alloc (.cells (bA H0).toArray 3)).heap.size=g.heap.size+1:=aJ (g.at c) _;have b:Has [(3, .slice (some ⟨g.heap.size,0,none⟩) 8 8),(0, .pt w.heap.size)] 8 [] a:=b;rw[B]at b s x;revert q s x;generalize (g.at c).alloc (.cells (bA H0).toArray 3)=f;intro q s x;have l:=(q.block _ o_).trans l;have q:=aD z z.size q;refine aP.mv b 1 3 (p:= .assign (.tmp 3)) s_ rfl λa b=> ?_;refine aP.plain rfl (aP.plain rfl (aP.region rfl ?_));refine aP.oO b 4 (.buildSlice 24 64 (EZ vm)) λo c i=>⟨_,_,(Wv i).1,by rw[aJ];exact aA6 _,iT (Wv i).2,λa b=> ?_⟩;have n:Bw f ((f.at c).alloc (.cells (bA vm).toArray 3)):=(fC f c).trans (aR (f.at c) _);have y:((f.at c).alloc (.cells (bA vm).toArray 3)).heap[f.heap.size]?=_:=aY (f.at c) (.cells (bA vm).toArray 3);have A:((f.at c).alloc (.cells (bA vm).toArray 3)).heap.size=f.heap.size+1:=aJ (f.at c) _;have b:Has [(4, .slice (some ⟨f.heap.size,0,none⟩) 64 64),(1, .slice (some ⟨w.heap.size+1,0,none⟩) 8 8),(0, .pt w.heap.size)] 8 [] a:=b.O;rw[x]at b y A;revert n y A;generalize (f.at c).alloc (.cells (bA vm).toArray 3)=j;intro n y A;have l:=(n.block _ o_).trans l;have s:=(n.block _ o_).trans s;have n:=aD q q.size n;refine aP.mv b 2 4 (p:= .assign (.tmp 4)) s_ rfl λa b=> ?_;refine aP.plain rfl (aP.plain rfl (aP.region rfl ?_));refine aP.mv b 5 1 (p:= .move (.tmp 1)) s_ rfl λa b=> ?_;refine aP.mv b 6 2 (p:= .move (.tmp 2)) s_ rfl λa b=> ?_;refine aP.oO b 7 (.build 26 #[(0, .tmp 5),(1, .tmp 6)]) λo c i=>⟨_,_,(CJ i (b.G 5) (b.G 6)).1,ar5 _,iT (CJ i (b.G 5) (b.G 6)).2,λa b=>aP.at ?_ c⟩;have J:¬S w.heap.size:=λh=>aL5 _ (M _ h);refine aP.o0 b (.store 26 (.tmp 0) (.tmp 7)) λo c i=> ?_;have m:=CI (w:=j.at c) rfl rfl i (b.G 0) (b.G 7) l;have K:=dD (N:=w.heap.size) (j.at c) w.heap.size #[.slice (some ⟨w.heap.size+1,0,none⟩) 8 8, .slice (some ⟨w.heap.size+1+1,0,none⟩) 64 64] o_;have E:=setRow_heap (j.at c) w.heap.size _ #[.slice (some ⟨w.heap.size+1,0,none⟩) 8 8, .slice (some ⟨w.heap.size+1+1,0,none⟩) 64 64] _ _ l;have D:=(setRow_other (j.at c) w.heap.size (w.heap.size+1) #[.slice (some ⟨w.heap.size+1,0,none⟩) 8 8, .slice (some ⟨w.heap.size+1+1,0,none⟩) 64 64] o_).trans s;have C:=(setRow_other (j.at c) w.heap.size (w.heap.size+1+1) #[.slice (some ⟨w.heap.size+1,0,none⟩) 8 8, .slice (some ⟨w.heap.size+1+1,0,none⟩) 64 64] o_).trans y;have t:((j.at c).setRow w.heap.size #[.slice (some ⟨w.heap.size+1,0,none⟩) 8 8, .slice (some ⟨w.heap.size+1+1,0,none⟩) 64 64]).heap.size=j.heap.size:=by simp[World.setRow,World.at]
 refine⟨_,m.1,o_,iF λe F=>let ⟨k,hk⟩:=m.2 e F;⟨_,_,hk,by grind,J⟩,λa b=> ?_⟩;have G:=n.trans ((fC j c).trans K);clear m K;revert E D C t G;generalize (j.at c).setRow w.heap.size #[.slice (some ⟨w.heap.size+1,0,none⟩) 8 8, .slice (some ⟨w.heap.size+1+1,0,none⟩) 64 64]=H;intro E D C t G;refine aP.plain rfl (aP.ends rfl s_ (aP.leaveE _ rfl b.defers func8 (λd=> ?_) (next H G D C o_)));have I:=T8 (w:=H.at d) (fn:=f8) k_ (b.slot 0 _ rfl) E;exact⟨I.1,iF λe F=>let ⟨k,hk⟩:=I.2 e F;⟨_,_,hk,by grind,J⟩⟩
end
section
open Go.Conc Go.RowKit Go.Proofs.YtkmoglhgkcnalaaGreatDoor.L1
def sM(a):∀n i b w es,(∀j,j<n->(w.cell? (a.add (i+j))).isSome)->∀ev∈(loadCellsFrom a i n b).events P w es,ev∈es\/∃ad,ad.block=a.block/\ev=⟨.cell ad,false,false⟩
 |0,_,_,_,_,_=>λev h=> .inl (by simpa[loadCellsFrom]using h)
 |n+1,i,b,w,es,hc=>λev h=>by
  simp only[loadCellsFrom,Sem.events_bind]at h;have⟨u,c⟩:=Option.isSome_iff_exists.1 (hc 0 o_);simp at c;have d:(load (a.add i)).run P w= .ok u w:=by simp[c]
  rw[d]at h;rcases sM a n (i+1) (b.push u) w _ (λj e=>by grind) ev h with h|h
  .rw[events_load,c]at h;obtain h|rfl:=Array.mem_push.1 h
   .exact .inl h
   .exact .inr ⟨_,addBlock a i,rfl⟩
  simp_all
def Hy:∀ev∈(askRoom b).events P w es,ev∈es\/ev=⟨.mark .noRoom,false,true⟩:=by
 intro ev h;unfold askRoom at h;split at h
 .simp_all
 .simp_all
def DV(z)(n):ZP #[z] n=(ar9 n z).toArray:=by
 apply aw_
 .simp[ZP]
 .intro i b a;simp[ZP,Nat.mod_one]
def QD{y}{e}{i}{z}{L}{S}(C:P.underlying t=some (.slice e))(E:P.info? e=some i)(N:i.zero=some z)(M:i.size=1)(J:z.cells=#[z])
 (l:o.op= .call {callee:= .builtin .append,args:=#[x,y],argTypes:=#[t,t]}) (Q:a.eval x= .slice none 0 0) (O:a.eval y=v) (hv:fm w v L) (hb:L.length*i.bytes<=140737488355328) (W:L.length<=140737488355328) (X:∀p n c,v= .slice (some p) n c->L≠[]->¬S p.block):
 ∃v' w',(execOp a.eval o).run P w= .ok (.value v') w'/\(∀e∈(execOp a.eval o).events P w #[],EvL (dq S) w'.heap.size e)/\
  ((L=[]/\v'= .slice none 0 0/\w'=w)\/(0<L.length/\∃k c,v'= .sk w.heap.size L.length c/\w'=w.drew.alloc (.cells (L++ar9 k z).toArray e))):=by
 have g:∀v' w',(Zn #[t,t] o.type #[.slice none 0 0,v]).run P w= .ok v' w'->(execOp a.eval o).run P w= .ok (.value v') w':=λv' w' h=>by unfold execOp;simp[l,resolve,invoke,builtin,Sem.run_bind,Sem.run_pure,Result.andThen_ok,aB7,JS,aE3,Q,O,h]
 have m:=events_append_op (P:=P) (w:=w) x y t l Q O #[];obtain⟨p,A,rfl,T⟩:=hv;by_cases F:L=[]
 .subst F;refine⟨.slice none 0 0,w,g _ _ ?_, ?_, s_⟩
  .cases p<;>simp[Zn,run_underlying C,sizeOf,typeInfo,E,Zm,Tw,loadCells,loadCellsFrom]
  .rw[m];refine iT ?_;cases p<;>simp[Zn,run_underlying C,sizeOf,typeInfo,E,Zm,Tw,loadCells,loadCellsFrom]
 .have f:=az2.2 F;obtain⟨q,rfl,_⟩:=T 0 L[0] s_;have d:∀j u,L[j]?=some u->w.cell? (q.add j)=some u:=λj u D=>by simp_all
  have K:q.block<w.heap.size:=by
   have h:=d 0 L[0] (EN f);unfold AT at h;rw[addBlock]at h
   grind
  have R:=run_append_nil w t o.type e i z C E N q L.length A L (by simp_all) d f o_ o_;rw[J,DV]at R;refine⟨_,_,g _ _ R, ?_, .inr ⟨f,grownCap w L.length 0 e- L.length,grownCap w L.length 0 e,rfl,by grind⟩⟩;rw[m];have hn:L.length≠0:=o_
  have r:¬(9223372036854775807<(L.length:Int)):=o_
  have s:¬(281474976710656<Builtin.nextslicecap L.length 0*i.bytes):=by rw[nextslicecap_zero f];omega
  have U:=run_firstCells_some (P:=P) w.drew i.size L.length q L.length A L (by simp_all) (by simpa using d);intro G h;simp[Zn,run_underlying C,sizeOf,typeInfo,zeroValue,E,N,Zm,F,r,s,aA_,run_firstCells_none,U,newRow]at h;have I:(∃B,B.block=q.block/\G=⟨.cell B,false,false⟩)\/G=⟨.mark .noRoom,false,true⟩:=by
   simp[Tw,loadCells]at h;rcases sM q _ 0 _ _ _ (λj D=>by simp_all) G h with h|h
   .rcases Hy G (by simpa using h)with h|h
    .simp at h
    .exact .inr h
   simp_all
  obtain⟨B,H,rfl⟩|rfl:=I
  .exact su (V:=λb=>b<(w.drew.alloc (.cells (L.toArray++(ar9 (grownCap w L.length 0 e- L.length) z).toArray) e)).heap.size/\¬S b) (RO:=λ_=>False) s_ s_ ⟨rfl, .inl ⟨by
    show B.block<_;rw[H,aJ];exact Nat.lt_succ_of_lt K,by simp_all⟩⟩
  .exact su (V:=λ_=>False) (RO:=λ_=>False) s_ s_ (rfl:fO .noRoom=true)
section
variable{S:Nat->Prop}{b:Frame}{k:List Item}
def aP.lv{g}{d:Tmp}{p}{l}{ob}(u:Has F N ds a)(r:w.heap[l]?=some ob)(i:¬S l)(n:∀o c,o.op=p->(execOp a.eval o).run P (w.at c)= .ok (.value v) (w.at c)/\∀e∈(execOp a.eval o).events P (w.at c) #[],∃k,e=⟨.cell ⟨l,k,none⟩,false,false⟩)(next:∀a',Has ((d,v)::F) N ds a'->aP P Post S (cD (b.atR a' (.inRegion ops rest::g)) cs) w)(x:fV 6 (b.atR a k)= .inRegion ops (m::rest)::g:=by rfl)
 (h:(ops[m]?).map (λo=>(o.dst,o.op,o.guard))=some (some d,p,none):=by rfl) (t:d<N:=by decide) (f:nd p=true:=by rfl):aP P Post S (cD (b.atR a k) cs) w:=by
 refine aP.gr ?_ x;have⟨o,q,z,j,y⟩:=ng h;refine aP.oper q (by simp[Region.wanted,y]) (λc e=>by rw[←j,e]at f;cases f) λc=>⟨.value v,w.at c,(n o c j).1,rfl,Nat.le_refl _,λe s=> ?_,aP.at ?_ c⟩
 .obtain⟨k,rfl⟩:=(n o c j).2 e s;exact qg (aK r) i
 .show aP P Post S (cD ((b.atR a (.inRegion ops (m::rest)::g)).finish v) cs) w;rw[Frame.finish_atR,q,Option.bind_some,z];exact next _ (u.put t v)
def WE{bk k}{c}{b}(d:w.heap[bk]?=some c)(a:¬S bk):∀e∈(#[⟨.cell ⟨bk,k,none⟩,b,false⟩]:Array Event),EvL (dq S) w.heap.size e:=λe f=>by
 obtain rfl:e=⟨.cell ⟨bk,k,none⟩,b,false⟩:=by simpa using f
 exact qg (aK d) a
def aP.ve{g}{d:Tmp}{p}{R:Value->World->Prop}{l}(j:Has F N ds a)(q:∀o c,o.op=p->∃v w',(execOp a.eval o).run P (w.at c)= .ok (.value v) w'/\w.heap.size<=w'.heap.size/\(∀e∈(execOp a.eval o).events P (w.at c) #[],EvL (dq S) w'.heap.size e)/\R v w')(next:∀v w',R v w'->∀a',Has ((d,v)::F) N ds a'->aP P Post S (cD (b.atR a' (.inRegion ops rest::g)) cs) w')(z:fV 6 (b.atR a k)= .inRegion ops (m::rest)::g:=by rfl)
 (h:(ops[m]?).map (λo=>(o.dst,o.op,o.guard))=some (some d,p,l):=by rfl) (r:gV ops F l=some true:=by rfl) (s:d<N:=by decide) (f:nd p=true:=by rfl):aP P Post S (cD (b.atR a k) cs) w:=by refine aP.gr ?_ z;have⟨o,i,B,n,A⟩:=ng h;refine aP.oper i (iD j A r) (λc e=>by rw[←n,e]at f;cases f) λc=> ?_;have⟨v,w',y,x,u,t⟩:=q o c n;refine⟨.value v,w',y,rfl,x,u, ?_⟩;show aP P Post S (cD ((b.atR a (.inRegion ops (m::rest)::g)).finish v) cs) w';rw[Frame.finish_atR,i,Option.bind_some,B];exact next v w' t _ (j.put s v)
end
section
variable{y:Operand}
def Pq(s:0<n)(p:n<=17592186044416)(b:o.op= .makeSlice 24 x y)(j:ev x= .i n)(g:ev y= .i n):
 (execOp ev o).run tP w= .ok (.value (.sk w.heap.size n n)) (w.alloc (.cells (ar6 n (.i 0)) 3))/\∀e∈(execOp ev o).events tP w #[],e=⟨.mark .noRoom,false,true⟩:=by
 have k:prog.underlying 24=some (.slice 3):=k_
 have d:DN.wrap (n:Int)=n:=by rw[as3];omega
 have⟨i,l,a⟩:=IT.1 (show(prog.info? 3).map (λi=>(i.zero,i.size,i.bytes))=some (some (.i 0),1,8) by kernel_rfl);simp at a;have f:¬(281474976710656<8*(n:Int)):=o_
 have c:¬n=0:=o_
 constructor
 .simp[execOp,b,j,g,ZB,run_underlying k,typeInfo,sizeOf,zeroValue,l,a.1,a.2.1,a.2.2,d,f,c,newRow,go_sem];rw[if_neg (o_:¬(n:Int)<0),show Array.map (λx=>([Value.i 0]:List Value)[x%1]?.getD default) (Array.range n)=ar6 n (.i 0)from aw_ s_ λi r q=>by grind]
 .intro e m;simp[execOp,b,j,g,ZB,run_underlying k,typeInfo,sizeOf,zeroValue,l,a.1,a.2.2,d,f,newRow,go_sem]at m;rcases Hy e (by simpa using m)with h|h
  .simp at h
  .exact h
def Qg{S}{g q}{L}{cur}(hv:fm w v L)(N:L.length<=n)(H:∀u∈L,u.oneCell'=true)(i:w.heap[g]?=some (.cells cur 3))(R:cur.size=n)(C:¬S g)(y:∀p n c,v= .slice (some p) n c->L≠[]->¬S p.block)(z:o.op= .call {callee:= .builtin .copy,args:=#[.tmp k, .tmp j],argTypes:=#[24,24]})(J:ev (.tmp k)= .sk g n q)(I:ev (.tmp j)=v):
 ∃w',(execOp ev o).run tP w= .ok (.value (.i L.length)) w'/\(∀e∈(execOp ev o).events tP w #[],EvL (dq S) w'.heap.size e)/\w'.heap[g]?=some (.cells (L++cur.toList.drop L.length).toArray 3)/\Ex (· =g) w w'/\w'.heap.size=w.heap.size:=by
 have t:prog.underlying 24=some (.slice 3):=k_
 have e:execOp ev o=(do pure (.value (←Yf #[24,24] o.type #[.sk g n q,v]))):=by simp[execOp,z,resolve,J,I,invoke,builtin]
 have E:∀w,(sizeOf 3).run tP w= .ok 1 w:=s_;have l:∀w es,(sizeOf 3).events tP w es=es:=s_;obtain⟨p,D,rfl,G⟩:=hv;by_cases f:L=[]
 .subst f;refine⟨w, ?_,iT ?_,by simpa using i,Ex.refl,rfl⟩
  .rw[e];cases p<;>simp[Yf,s_,Zm,Tw,E,loadCells,loadCellsFrom,storeCells,goInt]
  .rw[e];cases p<;>simp[Yf,s_,Zm,Tw,l,loadCells,loadCellsFrom,storeCells,goInt]
 .have m:=az2.2 f;obtain⟨s,rfl,_⟩:=G 0 L[0] s_;have a:∀j u,L[j]?=some u->w.cell? (s.add j)=some u:=λj u B=>by simp_all
  have A:s.block<w.heap.size:=by
   have h:=a 0 L[0] (EN m);unfold AT at h;rw[addBlock]at h
   grind
  have b:=ax0 N;have F:=run_copy_row (P:=tP) w 24 24 o.type 3 g 0 n q s L.length D cur 3 L t k_ i b.symm a o_ H;rw[lR i,List.take_zero,List.nil_append,as5]at F;refine⟨_,e▸Li F,λr d=> ?_,bZ i,dn ..,dE⟩;rw[dE];rw[e]at d;simp[Yf,s_,Zm,Tw,E,l,b,(run_loadCells_list (P:=tP) w s L a),goInt]at d;rcases AQ g 0 3 L 0 cur w _ i o_ H r d with h|⟨k,rfl⟩
  .simp[loadCells]at h;rcases sM s _ 0 _ _ _ (λj B=>by simp_all) r h with h|⟨ad',x,rfl⟩
   .simp at h
   .exact iF (es:=#[⟨.cell ad',false,false⟩]) (λe M=>⟨ad',false,by simpa using M,x▸A,by simp_all⟩) _ s_
  .exact qg (aK i) C
end
end
section
open Go.Conc Go.RowKit
def XM(fx ps:List (Nat×Value))(ops:Array Oper)(n:Nat):Option Bool:=match (ops[n]?).bind (·.guard)with
 |none=>some true
 |some (g,q)=>match (ops[g]?).bind (·.dst)with
  |some d=>match kn fx ps ops n d with
   |some (.bool r)=>some (r==q)
   |_=>none
  |none=>none
def Tj{fx c}{r}(b:XM fx c ops n=some r)(i:ops[n]?=some o)(j:∀x u,kn fx c ops n x=some u->a.tmps[x]?=some u):ar3 o (yielded ops a.tmps)=r:=by
 unfold XM at b;rw[i]at b;simp at b;unfold ar3 yielded
 grind
def XK(fx ps:List (Nat×Value))(ks:List Nat)(ops:Array Oper):Bool:=(ar7 ops.size).all λn=>match ps[n]? with
 |some p=>XM fx ps ops n==some (!ks.contains p.1)
 |none=>false
def WZ(P:Program)(S:Nat->Prop)(a:Act)(o:Oper)(w:World)(v:Value):Prop:=Ip P S a o w λu w'=>u=v/\Bw w w'
def wy(P:Program)(S:Nat->Prop)(w:World)(fx ps:List (Nat×Value))(ms:List Nat)(ops:Array Oper):Nat->List (Nat×Value)->Prop
 |_,[]=>True
 |n,p::q=>(match ms.contains p.1 with|true=>wy P S w fx ps ms ops (n+1) q|false=>(∀{o a w'},Rw w fx ps ops n o a w'->WZ P S a o w' p.2)/\wy P S w fx ps ms ops (n+1) q)
def yS{S}{fx b}{c}:∀r k i p,wy P S w fx b c ops k r->r[i]?=some p->c.contains p.1=false->∀{o a w'},Rw w fx b ops (k+i) o a w'->WZ P S a o w' p.2
 |[],_,i,_,_,h,_=>by simp at h
 |q::r,k,0,p,hr,h,hm=>by simp at h;subst h;unfold wy at hr;simp_all
 |q::r,k,i+1,p,hr,h,hm=>by
  have d:wy P S w fx b c ops (k+1) r:=by
   unfold wy at hr
   grind
  rw[show k+(i+1)=k+1+i by omega];exact yS r (k+1) i p d (by simpa using h) hm
section
variable{S:Nat->Prop}{b:Frame}{k:List Item}{df:List Deferred}
def Xo(h:∀c,Yl P a.eval o (w.at c) v es)(b:∀e∈es,EvL (dq S) w.heap.size e):WZ P S a o w v:=λc=>⟨v,w.at c,(h c).1,ar5 _,λe d=>b e (by rw[(h c).2]at d;exact d),rfl,fC w c⟩
def nc(h:∀c,Yl P a.eval o (w.at c) v #[]):WZ P S a o w v:=Xo h s_
def aP.skips(d:ops[n]?=some o)(f:ar3 o (yielded ops a.tmps)=false)(h:aP P Post S (cD (b.atR (a.put o.dst undef) (.inRegion ops rest::k)) cs) w):aP P Post S (cD (b.atR a (.inRegion ops (n::rest)::k)) cs) w:=by refine aP.exec rfl λc=>⟨_,w.at c,#[],iE rfl (d▸f),ar5 _,s_,aP.at ?_ c⟩;show aP P Post S (cD ((b.atR a (.inRegion ops (n::rest)::k)).finish undef) cs) w;rw[Df,d,IS];exact h
def aP.tabQ{id:Nat}{fx:List (Nat×Value)}(W:Has fx N df a)(d:List (Nat×Value))(I z:List Nat)(L:List (Nat×Value))(C:wy P S w fx d (I++z) ops 0 d)
 (next:∀a w',Bw w w'->Has (L++fx) N df a->aP P Post S (cD (b.atR a k) cs) w') (E:P.follows .mixedOrders=true:=by kernel_rfl) (M:ops.size=d.length:=by kernel_rfl) (T:xd fx d I ops=xc d I:=by kernel_rfl) (U:XK fx d z ops=true:=by kernel_rfl) (K:(d.filterMap λp=>if z.contains p.1 then some p.2 else none)=z.map λ_=>undef:=by kernel_rfl) (H:qf ops (d.map (·.1)) (fx.map (·.1)) N=true:=by kernel_rfl) (hL:(L.map λp=>d.lookup p.1)=L.map (λp=>some p.2):=by kernel_rfl) (s:(fx.map (·.1)).Nodup:=by simp):aP P Post S (cD (b.atR a (.code (.region id ops true)::k)) cs) w:=by
 refine aP.draw λt=> ?_;rw[kw E];refine Mq (fx:=fx) (ds:=d.map (·.1)) (N:=N) (df:=df) (G:=λn u _=>(d[n]?).map (·.2)=some u) (Z:=λa L w=>aP P Post S (cD (b.atR a (.inRegion ops L::k)) cs) w) (X:=λ_ o a w R=>(Region.wanted o (yielded ops a.tmps)=true/\Ip P S a o w R)\/(Region.wanted o (yielded ops a.tmps)=false/\R undef w)) (λn o a w' D R hn g s h next=> ?_) H (λ_ _ _ _ h _=>h) (λn o a w' hn g hb _ y O=> ?_)
  (λm a w'=>m=ops.size/\Bw w w'/\Has (L++fx) N df a) (λa w' V=>⟨by simp_all,V.old,Has.grow V V.base L hL⟩) (λm o a w' D B g hS a1=> ?_) (λa w' h=>aP.plain rfl (next a w' h.2.1 h.2.2)) W.defers W.size (W.all s) (bR) t
 .rcases h with⟨i,h⟩|⟨i,h⟩
  .exact aP.doesB g i s h next
  .exact aP.skips g i (next _ _ h)
 .have Q:n<d.length:=by simp_all
  obtain⟨p,A⟩:∃p,d[n]?=some p:=⟨d[n],s_⟩;have j:∀m q,d[m]?=some q->ii ops n m=true->a.tmps[q.1]?=some q.2:=λm q hq r=>by obtain xQ:=O m q.1 (by simp_all) r;simp_all
  have F:=List.all_eq_true.1 U n (List.mem_range.2 (gA g).1);rw[A]at F;have i:=Tj (eq_of_beq F) g λx u h=>xj h y j;cases f:z.contains p.1 with
  |true=>
   rw[f]at i;refine .inr ⟨i, ?_,bR⟩;have B:p.2∈d.filterMap λp=>if z.contains p.1 then some p.2 else none:=List.mem_filterMap.2 ⟨p,mG A,by rw[f];rfl⟩
   simp_all
  |false=>
   rw[f]at i;have a0:WZ P S a o w' p.2->Ip P S a o w' λu J=>(d[n]?).map (·.2)=some u/\Bw w' J:=λh c=>by
    obtain⟨u,w2,h1,Y,h3,h4,h5⟩:=h c
    grind
   refine .inl ⟨i,a0 ?_⟩;cases v:I.contains p.1 with
   |false=>
    refine yS d 0 n p C A (by simp_all) (o:=o) (a:=a) (w':=w') ?_;rw[Nat.zero_add];exact⟨g,λh=>by simp_all,hb,λx u _ h=>aB (xj h y j)⟩
   |true=>
    have B:=congrArg (λl=>l[n]?) T;simp only[xd,xc,List.getElem?_map,List.getElem?_zipIdx,A,Option.map_some,Option.some.injEq,Nat.zero_add,v,g,Option.bind_some,Option.bind_eq_some_iff]at B;obtain⟨x,h1,Y⟩:=B;refine nc λc=> ?_;have:=cH (w:=w'.at c) (ev:=a.eval) P (QX h1);rwa [aB (xj Y y j)]at this
 simp_all
end
end
section
open Go.Conc Go.RowKit Go.Proofs.YtkmoglhgkcnalaaGreatDoor.L1
section
variable{y:Operand}
def jU(h:m+n<9223372036854775808)(a:o.op= .binOp .add 3 x y u)(c:ev x= .i m)(b:ev y= .i n):Yl tP ev o w (.i ((m+n:Nat):Int)) #[]:=by have:=oT (w:=w) a c b o_;simp_all
def KG{m n}(a:o.op= .binOp .neq 3 x y u)(c:ev x= .i m)(b:ev y= .i n):Yl tP ev o w (.bool (m !=n)) #[]:=by constructor<;>simp[execOp,a,c,b,go_sem]
def DW{m n}(a:o.op= .binOp .geq 3 x y u)(c:ev x= .i m)(b:ev y= .i n):Yl tP ev o w (.bool (decide (m≥n))) #[]:=by constructor<;>simp[execOp,a,c,b,go_sem]
def Rv{m n}(a:o.op= .binOp .gtr 3 x y u)(c:ev x= .i m)(b:ev y= .i n):Yl tP ev o w (.bool (decide (m>n))) #[]:=by constructor<;>simp[execOp,a,c,b,go_sem]
def Gf{g q}(i:n<=q)(b:o.op= .slice 24 x none (some y) none)(f:ev x= .sk g l q)(e:ev y= .i n):Yl tP ev o w (.sk g n q) #[]:=by
 have h:prog.underlying 24=some (.slice 3):=k_
 have d:∀w,(sizeOf 3).run tP w= .ok 1 w:=s_;have a:∀w c,(sizeOf 3).events tP w c=c:=s_;constructor<;>simp[execOp,b,f,e,Mv,YT,Ng,run_underlying h,Tv,asIntOf,i,d,a,Y1]
def tu:Bn tP 3:=λw=>⟨k_,k_⟩
end
def yz{p:Prop}(h:p:=by
 first
 |exact yq
 |exact KG ho gx gx
 |exact DW ho gx gx
 |exact Rv ho gx gx):p:=h
section
variable{S:Nat->Prop}{b:Frame}{k:List Item}
def aP.uz{k':List Item}{d:Tmp}{p:Op}{v:Value}{gd:Option (Nat×Bool)}(hF:Has F N ds a)(next:∀a',Has ((d,v)::F) N ds a'->aP prog Post S (cD (b.atR a' (.inRegion ops rest::k')) cs) w)(h0:fV 6 (b.atR a k)= .inRegion ops (m::rest)::k':=by rfl)
 (h:(ops[m]?).map (λo=>(o.dst,o.op,o.guard))=some (some d,p,gd):=by rfl) (hw:gV ops F gd=some true:=by rfl) (hy:∀(o:Oper) (c:Nat),o.op=p->Yl prog a.eval o (w.at c) v #[]:=by intro o c ho;exact yz) (hd:d<N:=by decide) (hnd:nd p=true:=by rfl):aP prog Post S (cD (b.atR a k) cs) w:=aP.vv hF hy (λe he=>by simp at he) next h0 h hw hd hnd
def aP.vz{g}{d:Tmp}{p}{i}(r:Has F N ds a)(j:∀o c,o.op=p->Yl tP a.eval o (w.at c) v #[])(next:∀a',Has ((d,v)::F) N ds a'->aP tP Post S (cD (b.atR a' (.inRegion ops rest::g)) cs) w)(s:fV 6 (b.atR a k)= .inRegion ops (m::rest)::g:=by rfl)
 (h:(ops[m]?).map (λo=>(o.dst,o.op,o.guard))=some (some d,p,i):=by rfl) (l:gV ops F i=some true:=by rfl) (q:d<N:=by decide) (f:nd p=true:=by rfl):aP tP Post S (cD (b.atR a k) cs) w:=aP.vv r j s_ next s h l q f
variable{t u:Tmp}{x:Value}{c:Frame}{k':List Item}
def aP.fin1(b:Has F N [] a)(g:prog.funcs[f]?=some fn)(e:fn.results=#[.tmp t])(next:aP tP Post S (cD (c.finish v) cs) w)(hv:F.lookup t=some v:=by rfl)(h:fV 6 ((base f).atR a k)= .code .ret::k':=by rfl):aP tP Post S (cD ((base f).atR a k) (c::cs)) w:=
 aP.runs 6 k (by rw[h];exact aP.ends rfl s_ (aP.leave v rfl b.defers g (λd=>by simp[results,e,b.slot t _ hv]) next))
def aP.fin2(b:Has F N [] a)(h:prog.funcs[f]?=some fn)(g:fn.results=#[.tmp t, .tmp u])(next:aP tP Post S (cD (c.finish (.tuple #[v,x])) cs) w)(hv:F.lookup t=some v:=by rfl)(e:F.lookup u=some x:=by rfl)(i:fV 6 ((base f).atR a k)= .code .ret::k':=by rfl):aP tP Post S (cD ((base f).atR a k) (c::cs)) w:=
 aP.runs 6 k (by rw[i];exact aP.ends rfl s_ (aP.leave _ rfl b.defers h (λd=>by simp[results,g,b.slot t _ hv,b.slot u _ e]) next))
end
def CV{S}{B}:EvL (dq S) B ⟨.mark .noRoom,false,true⟩:=su (V:=λ_=>False) (RO:=λ_=>False) s_ s_ (rfl:fO .noRoom=true)
def xO(l:List Int)(i:Nat):Array Value:=(bS l++(Bu i).toList).toArray
def Ct(l)(a:i<=4):(xO l i).size=l.length+4:=by simp[xO,bS,Bu];omega
def Pl(l)(a:i<4):(xO l i).setIfInBounds (l.length+i) (.i 77)=xO l (i+1):=by
 have h:(bS l).length=l.length:=by simp[bS]
 unfold xO;rw[←GU a,List.setIfInBounds_toArray,List.set_append_right _ _ o_,h,Nat.add_sub_cancel_left,Array.toList_setIfInBounds]
section
variable{S:Nat->Prop}{c':Frame}{cs':List Frame}{l:List Int}{p:Option Addr}{q g:Nat}
def LM(A:l.length<=17592186044412)(k:¬S g)(u:∀a w,w.heap[g]?=some (.cells (xO l 4) 3)->Ex (· =g) w0 w->w.heap.size=w0.heap.size->Has [(0, .slice p l.length q),(3, .sk g (l.length+4) (l.length+4))] 26 [] a->aP tP Post S (cD ((base 45).atR a [.code (M2 f45)]) (c'::cs')) w):
 ∀m i w a,4- i=m->i<=4->w.heap[g]?=some (.cells (xO l i) 3)->Ex (· =g) w0 w->w.heap.size=w0.heap.size->Has [(0, .slice p l.length q),(3, .sk g (l.length+4) (l.length+4)),(4, .i i)] 26 [] a->aP tP Post S (cD ((base 45).atR a [.code (M7 f45), .inLoop (M7 f45), .inBlock 0, .code (M2 f45)]) (c'::cs')) w:=by
 intro m;induction m with
 |zero=>
  intro i w a y r f j h b
  iterate 2 refine aP.uz b λa b=> ?_
  refine aP.plain rfl (aP.cond _ (b.G 13) ?_);rw[decide_eq_false o_];obtain rfl:i=4:=o_
  exact aP.plain rfl (u _ _ f j h b.O)
 |succ m x=>
  intro i w a y r f j h b
  iterate 2 refine aP.uz b λa b=> ?_
  refine aP.plain rfl (aP.cond _ (b.G 13) ?_);rw[decide_eq_true o_]
  iterate 4 refine aP.uz b λa b=> ?_
  refine aP.vz b (λo c d=>jU (m:=l.length) (n:=i) o_ d (b.G 18) (b.G 19)) λa b=> ?_;refine aP.vz b (λo c d=>Bz d (b.G 16) (b.G 20) o_) λa b=> ?_;rw[AS,as5]at b;refine aP.sp b f k (λo c d=>E9 (v:= .i 77) rfl rfl k_ d (b.G 21) rfl f (by rw[Ct l r];omega)) λa b=> ?_;rw[Pl l o_];have s:=j.trans (dn g (xO l (i+1)) 3) o_;refine aP.uz b λa b=> ?_;refine aP.vz b (λo c d=>jU (m:=i) (n:=1) o_ d (b.G 14) rfl) λa b=> ?_;refine aP.uz b λa b=> ?_;exact aP.plain rfl (aP.plain rfl (x (i+1) _ _ o_ o_ (bZ (cs:=xO l (i+1)) (t:=3) f) s (dE.trans h) b.O))
def EF(D:l.length<=17592186044412)(hv:fm w (.slice p l.length q) (bS l))(j:∀ad,p=some ad->l≠[]->¬S ad.block)
 (next:∀w',Bw w w'->w'.heap[w.heap.size]?=some (.cells (xO l 4) 3)->w'.heap.size=w.heap.size+1->¬S w.heap.size->aP tP Post S (cD (c'.finish (.sk w.heap.size l.length (l.length+4))) cs') w'):
 aP tP Post S (bT tP 45 #[.slice p l.length q] (c'::cs')) w:=by
 refine aP.low λF=> ?_;have g:¬S w.heap.size:=λh=>aL5 _ (F _ h);refine aP.ent func45 MS λa d=> ?_
 iterate 3 refine aP.uz d λa d=> ?_
 refine aP.vz d (λo c f=>jU (m:=l.length) (n:=4) o_ f (d.G 6) rfl) λa d=> ?_;refine aP.ve (R:=λu w'=>u= .sk w.heap.size (l.length+4) (l.length+4)/\Bw w w'/\w'.heap[w.heap.size]?=some (.cells (ar6 (l.length+4) (.i 0)) 3)/\w'.heap.size=w.heap.size+1) d (λo c f=> ?_) λW i ⟨K,z,P,U⟩ a d=> ?_
 .have x:=Pq (w:=w.at c) (n:=l.length+4) o_ o_ f (d.G 7) (d.G 7);exact⟨_,_,x.1,by rw[aJ];exact aA6 _,λe E=>by rw[x.2 e E];exact CV,rfl,(fC w c).trans (aR (w.at c) _),aY (w.at c) _,aJ (w.at c) _⟩
 subst K;have k:fm i (.slice p l.length q) (bS l):=hv.below z
 iterate 3 refine aP.uz d λa d=> ?_
 refine aP.ve (R:=λu w'=>u= .i (bS l).length/\w'.heap[w.heap.size]?=some (.cells (xO l 0) 3)/\Ex (· =w.heap.size) i w'/\w'.heap.size=i.heap.size) d (λo c f=> ?_) λV v ⟨Y,O,B,T⟩ a d=> ?_
 .obtain⟨w',J,I,H,G,y⟩:=Qg (S:=S) (w:=i.at c) (L:=bS l) (cur:=ar6 (l.length+4) (.i 0)) (n:=l.length+4) k (by simp[bS]) (by intro u C;obtain⟨_,_,rfl⟩:=ZA.1 C;rfl) P s_ g (λad n c e r=>j ad (by injection e) (by rintro rfl;exact r rfl)) f (d.G 9) (d.G 10);refine⟨_,w',J,ay9 y.symm,I,rfl, ?_,(Ex.of_below (X:=(· =w.heap.size)) (fC i c)).trans G λ_ _ e=>e,y⟩;rw[H];simp[xO,Bu,bS]
 refine aP.uz d λa d=> ?_;refine aP.plain rfl (aP.plain rfl (aP.plain rfl (LM (w0:=v) D g (λa t M A Q d=> ?_) 4 0 v _ rfl o_ O Ex.refl rfl d.O)))
 iterate 3 refine aP.uz d λa d=> ?_
 refine aP.vz d (λo c f=>Gf (n:=l.length) (q:=l.length+4) o_ f (d.G 22) (d.G 24)) λa d=> ?_;refine aP.uz d λa d=> ?_;have X:Ex (λ_=>False) w t:=((Ex.of_below z).trans B o_).trans A o_;exact aP.fin1 d func45 rfl (next t ⟨X.os,X.tape,X.output,X.size,λb s=>X.block b s λe=>e⟩ M o_ g)
end
section
variable{y z:Operand}
def Ge(a:o.op= .call {callee:= .builtin .len,args:=#[.tmp k],argTypes:=#[9]})(b:ev (.tmp k)= .s s):Yl tP ev o w (.i s.size) #[]:=by
 have c:prog.underlying 9=some .string:=k_
 constructor<;>simp[execOp,a,resolve,b,invoke,builtin,Builtin.len_,run_underlying c,goInt]
def A0(a:o.op= .nilCheck x)(c:ev x= .pk b 0):Yl tP ev o w (.pk b 0) #[]:=by constructor<;>simp[execOp,a,c,go_sem]
def KJ(a:o.op= .fieldAddr 107 x 2)(c:ev x= .pk b 0):Yl tP ev o w (.pk b 3) #[]:=by unfold Yl;simp[execOp,a,c];constructor<;>kernel_rfl
def RA{j d n i c m h b l g a k}(f:o.op= .build 107 #[(0,x),(1,y),(3,z)])(r:ev x= .agg #[.sk j d n, .sk i c m])(q:ev y= .sk h b l)(p:ev z= .sk g a k):
 Yl tP ev o w (.agg (oP (.sk j d n) (.sk i c m) (.sk h b l) (.slice none 0 0) (.sk g a k) false 0)) #[]:=by unfold Yl;simp[execOp,f,r,q,p];constructor<;>kernel_rfl
def H6{cells}(c:cells.size=2)(a:o.op= .load 26 x)(d:ev x= .pk b 0)(g:w.heap[b]?=some (.cells cells 26)):(execOp ev o).run tP w= .ok (.value (.agg cells)) w/\∀e∈(execOp ev o).events tP w #[],∃k,e=⟨.cell ⟨b,k,none⟩,false,false⟩:=by
 have⟨h,c⟩:=T6 (P:=tP) (ty:=26) k_ k_ k_ g c;constructor
 .simp[execOp,a,d,as_,VJ,h]
 .intro e f;simp[execOp,a,d,as_,VJ]at f;exact c e f
def xC(s:ByteArray)(c:Nat):Obj:= .cells (bytesRow s c) 5 ((bytesRow s c).size,(bytesRow s c).size+1)
def Ro(b:o.op= .convert 9 83 x)(d:ev x= .s s):∃c,s.size<=c/\(execOp ev o).run tP w= .ok (.value (.sk w.heap.size s.size c)) (w.drew.alloc (xC s c))/\∀e∈(execOp ev o).events tP w #[],e=⟨.mark .noRoom,false,true⟩:=by
 have f:prog.underlying 9=some .string:=k_
 have i:prog.underlying 83=some (.slice 5):=k_
 have g:prog.underlying 5=some (.int .u8):=k_
 have e:execOp ev o=(do pure (.value (←convert 9 83 (.s s)))):=by simp[execOp,b,d]
 refine⟨grownCap w s.size 0 5,grownCap_ge w s.size 0 5, ?_,λj a=> ?_⟩
 .rw[e];simp[(run_bytes_of_string (P:=tP) w 9 83 5 s k_ k_ k_),xC]
 .rw[e]at a;simp[convert,s_,s_,s_,Conv.stringToBytes,aA_,newRow,markStringish]at a;split at a<;>simp at a
end
def SU(f:Func):Code:= .seq (.seq (rG f 4) (.cond (.tmp 10) .skip (.exit 0))) (.seq (.block 1 (.seq (rG f 6) (.cond (.tmp 24) (.seq (rG f 7) .ret) .skip))) (rG f 5))
def Wj(f:Func):Code:= .seq (rG f 8) .ret
def TH:f75.body=some (.seq (rG f75 0) (.seq (.seq (rG f75 1) (.cond (.tmp 6) (.seq (rG f75 2) .ret) .skip)) (.seq (.seq (rG f75 3) (.block 0 (.loop (SU f75)))) (Wj f75)))):=k_
def B0{ad}(h:w.cell? ad=some v):ad.block<w.heap.size:=by
 unfold AT at h
 grind
def zA{S}{ad}(h:w.cell? ad=some v)(b:¬S ad.block):∀e∈(#[⟨.cell ad,false,false⟩]:Array Event),EvL (dq S) w.heap.size e:=iF λe a=>⟨ad,false,by simpa using a,B0 h,b⟩
def Gl{p}{q}{l}(hv:fm w (.slice p n q) (bS l))(a:i<l.length):∃ad,p=some ad/\w.cell? (ad.add i)=some (.i (l.getD i 0)):=by have⟨c,b,e,h⟩:=hv;cases e;exact h i _ (by simp[bS,EN a])
section
variable{S:Nat->Prop}{c':Frame}{cs':List Frame}{l:List Int}{p:Option Addr}{q:Nat}
def DY(B:l.length=85)(hv:fm w (.slice p 85 q) (bS l))(t:∀ad,p=some ad->¬S ad.block)(s:∀a b k,(b=true↔g6 l)->Has [(2, .bool b)] 25 [] a->aP tP Post S (cD ((base 75).atR a (.code .ret::k)) (c'::cs')) w):
 ∀(m i:Nat) (a:Act),85- i=m->i<=85->(∀j,j<i->0<=l.getD j 0/\l.getD j 0<65536)->Has [(0, .slice p 85 q),(3, .i i)] 25 [] a->aP tP Post S (cD ((base 75).atR a [.code (SU f75), .inLoop (SU f75), .inBlock 0, .code (Wj f75)]) (c'::cs')) w:=by
 intro m;induction m with
 |zero=>
  intro i a A D u d
  iterate 4 refine aP.uz d λa d=> ?_
  refine aP.plain rfl (aP.cond _ (d.G 10) ?_);rw[decide_eq_false o_];refine aP.uz d λa d=> ?_;exact aP.plain rfl (s _ true _ ⟨λ_=>⟨B,λj C=>u j o_⟩,λ_=>rfl⟩ d.O)
 |succ m z=>
  intro i a A D u d;obtain⟨ad,rfl,r⟩:=Gl hv (i:=i) o_;have g:¬S (ad.add i).block:=by rw[addBlock];exact t ad rfl
  iterate 4 refine aP.uz d λa d=> ?_
  refine aP.plain rfl (aP.cond _ (d.G 10) ?_);rw[decide_eq_true o_]
  iterate 2 refine aP.uz d λa d=> ?_
  refine aP.vz d (λo c f=>Bz f (d.G 13) (d.G 14) o_) λa d=> ?_;refine aP.vv d (λo c f=>aO tu f (d.G 15) r) (zA r g) λa d=> ?_
  iterate 2 refine aP.uz d λa d=> ?_
  by_cases y:l.getD i 0<0
  .rw[decide_eq_true y]at d
   iterate 5 refine aP.us d λa d=> ?_
   refine aP.vz (v:= .bool true) d (λo c f=>ue f (d.G 18) rfl) λa d=> ?_;refine aP.plain rfl (aP.cond _ (d.G 24) ?_);refine aP.uz d λa d=> ?_;exact aP.plain rfl (s _ false _ ⟨λe=>(by cases e),λh=>by have:=(h.2 i o_).1;omega⟩ d.O)
  .rw[decide_eq_false y]at d
   iterate 2 refine aP.uz d λa d=> ?_
   refine aP.vz d (λo c f=>Bz f (d.G 19) (d.G 20) o_) λa d=> ?_;refine aP.vv d (λo c f=>aO tu f (d.G 21) r) (zA r g) λa d=> ?_;refine aP.uz d λa d=> ?_;refine aP.vz d (λo c f=>rH f (d.G 18) (d.G 23)) λa d=> ?_;refine aP.plain rfl (aP.cond _ (d.G 24) ?_);by_cases x:l.getD i 0>65535
   .rw[decide_eq_true x];refine aP.uz d λa d=> ?_;exact aP.plain rfl (s _ false _ ⟨λe=>(by cases e),λh=>by have:=(h.2 i o_).2;omega⟩ d.O)
   .rw[decide_eq_false x];refine aP.uz d λa d=> ?_;refine aP.vz d (λo c f=>jU (m:=i) (n:=1) o_ f (d.G 11) rfl) λa d=> ?_;refine aP.uz d λa d=> ?_;exact aP.plain rfl (aP.plain rfl (z (i+1) _ o_ o_ (λj C=>by
     by_cases e:j=i
     .rw[e];omega
     .exact u j o_) d.O))
def KR(hv:fm w (.slice p l.length q) (bS l))(f:∀ad,p=some ad->l≠[]->¬S ad.block)(next:∀b,(b=true↔g6 l)->aP tP Post S (cD (c'.finish (.bool b)) cs') w):
 aP tP Post S (bT tP 75 #[.slice p l.length q] (c'::cs')) w:=by
 refine aP.ent func75 TH λa c=> ?_
 iterate 4 refine aP.uz c λa c=> ?_
 by_cases d:l.length=85
 .rw[d]at c hv;refine aP.plain rfl (aP.cond _ (c.G 6) ?_);refine aP.uz c λa c=> ?_;exact aP.plain rfl (aP.plain rfl (aP.plain rfl (DY d hv (λad e=>f ad e (by grind)) (λa b k g c=>aP.fin1 c func75 rfl (next b g)) 85 0 _ rfl o_ o_ c.O)))
 .rw[show(((l.length:Nat):Int) !=85)=true from bne_iff_ne.2 o_]at c;refine aP.plain rfl (aP.cond _ (c.G 6) ?_);refine aP.uz c λa c=> ?_;exact aP.fin1 c func75 rfl (next false ⟨s_,λh=>absurd h.1 d⟩)
end
def TV:f47.body=some (.seq (rG f47 0) (.seq (rG f47 1) (.seq (.seq (rG f47 2) (.cond (.tmp 20) (.seq (rG f47 3) .ret) .skip)) (.seq (rG f47 4) (.seq (rG f47 5) (.seq (rG f47 6) .ret)))))):=k_
def XX{cs}(a:o.op= .box t x)(b:ev x= .agg cs):(execOp ev o).run P w= .ok (.value (.pk w.heap.size 0)) (w.alloc (.cells cs t))/\(execOp ev o).events P w #[]=#[]:=by have h:Mk P ev o w (ev x).cells t:=mg P a;rw[b]at h;exact h
section
variable{S:Nat->Prop}{b:Frame}{k:List Item}
def aP.bx{e}{d x:Tmp}{c}(f:Has F N ds a)(next:∀w' a',Bw w w'->w'.heap[w.heap.size]?=some (.cells c t)->w'.heap.size=w.heap.size+1->Has ((d, .pk w.heap.size 0)::F) N ds a'->aP P Post S (cD (b.atR a' (.inRegion ops rest::e)) cs) w')(l:fV 6 (b.atR a k)= .inRegion ops (m::rest)::e:=by rfl)
 (h:(ops[m]?).map (λo=>(o.dst,o.op,o.guard))=some (some d, .box t (.tmp x),none):=by rfl) (g:F.lookup x=some (.agg c):=by rfl) (j:d<N:=by decide):aP P Post S (cD (b.atR a k) cs) w:=
 aP.aa f (λ_ n i=>XX i (f.get g)) next l h j rfl
def aP.tb{l}{d x:Tmp}(f:Has F N ds a)(next:∀w' a' c,s.size<=c->Bw w w'->w'.heap[w.heap.size]?=some (xC s c)->w'.heap.size=w.heap.size+1->Has ((d, .sk w.heap.size s.size c)::F) N ds a'->aP tP Post S (cD (b.atR a' (.inRegion ops rest::l)) cs) w')(z:fV 6 (b.atR a k)= .inRegion ops (m::rest)::l:=by rfl)
 (h:(ops[m]?).map (λo=>(o.dst,o.op,o.guard))=some (some d, .convert 9 83 (.tmp x),none):=by rfl) (n:F.lookup x=some (.s s):=by rfl) (t:d<N:=by decide):aP tP Post S (cD (b.atR a k) cs) w:=
 aP.ve (R:=λu w'=>∃c,u= .sk w.heap.size s.size c/\s.size<=c/\Bw w w'/\w'.heap[w.heap.size]?=some (xC s c)/\w'.heap.size=w.heap.size+1) f (λo c p=>by
  have⟨q,j,i,g⟩:=Ro (w:=w.at c) p (f.get n);exact⟨_,_,i,by rw[aJ];exact Nat.le_succ _,λe r=>by rw[g e r];exact CV,q,rfl,j,(fC w c).trans ((fS (w.at c)).trans (aR (w.at c).drew _)),aY (w.at c).drew _,aJ (w.at c).drew _⟩) (λv w' ⟨q,e,j,i,g,y⟩ a' f=>by grind) z h (by rfl) t rfl
end
section
variable{S:Nat->Prop}{c':Frame}{cs':List Frame}{l:List Int}{p:Option Addr}{q hb hq tb tq:Nat}{L kp:ByteArray}
def yX(hv:fm w (.slice p l.length q) (bS l))(hvS:∀ad,p=some ad->l≠[]->¬S ad.block)
 (nx0:¬(g6 l/\kp.size=16)->∀w',Bw w w'->aP tP Post S (cD (c'.finish (.tuple #[.pointer none, .i 11])) cs') w')
 (nx1:g6 l->kp.size=16->∀w' frq qk qw k,Bw w w'->w'.heap[w.heap.size+1]?=some (xC L frq)->L.size<=frq->w'.heap[w.heap.size+2]?=some (xC kp qk)->16<=qk->w'.heap[w.heap.size+3]?=some (.cells (oP (.sk hb 8 hq) (.sk tb 64 tq) (.sk (w.heap.size+1) L.size frq) (.sk (w.heap.size+4) 85 qw) (.sk (w.heap.size+2) 16 qk) false 0) 107)->w'.heap[w.heap.size+4]?=some (.cells (bS l++ar9 k (Value.i 0)).toArray 3)->w'.heap.size=w.heap.size+5->aP tP Post S (cD (c'.finish (.tuple #[.pk (w.heap.size+3) 0, .i 0])) cs') w'):
 aP tP Post S (bT tP 47 #[.agg #[.sk hb 8 hq, .sk tb 64 tq], .s L, .slice p l.length q, .s kp] (c'::cs')) w:=by
 refine aP.low λhS=> ?_;have nS:∀b,w.heap.size<=b->¬S b:=λb hb h=>by grind
 refine aP.ent (N:=38) func47 TV λa hF=> ?_;refine aP.bx hF λw1 a b1 c1 z1 hF=> ?_;have hv1:=hv.below b1
 iterate 3 refine aP.uz hF λa hF=> ?_
 refine aP.cc hF func75 λc2 hcm iZ=>KR hv1 hvS λbb hbb=>iZ S w1 (.bool bb) λa hF=> ?_;refine aP.uz hF λa hF=> ?_;refine aP.uz hF λa hF=> ?_;cases bb with
 |false=>
  iterate 2 refine aP.uz hF λa hF=> ?_
  iterate 3 refine aP.us hF λa hF=> ?_
  refine aP.vz (v:= .bool true) hF (λo c ho=>ue ho (hF.G 16) rfl) λa hF=> ?_;refine aP.plain rfl (aP.cond _ (hF.G 20) ?_)
  iterate 2 refine aP.uz hF λa hF=> ?_
  exact aP.fin2 hF func47 rfl (nx0 (λh=>by simp_all) w1 b1)
 |true=>
  have hW:=hbb.1 rfl
  iterate 3 refine aP.uz hF λa hF=> ?_
  refine aP.vz hF (λo c ho=>Ge ho (hF.G 17)) λa hF=> ?_;refine aP.uz hF λa hF=> ?_;refine aP.vz hF (λo c ho=>rH ho (hF.G 16) (hF.G 19)) λa hF=> ?_;refine aP.plain rfl (aP.cond _ (hF.G 20) ?_);by_cases hk:kp.size=16
  .rw[show(((kp.size:Nat):Int) !=16)=false from by simp[hk]];refine aP.lv hF c1 (nS _ o_) (λo c ho=>H6 (w:=w1.at c) rfl ho (hF.G 4) c1) λa hF=> ?_;refine aP.uz hF λa hF=> ?_;refine aP.tb hF λw2 a frq hfq b2 c2 z2 hF=> ?_;refine aP.uz hF λa hF=> ?_;refine aP.tb hF λw3 a qk hqk b3 c3 z3 hF=> ?_;rw[hk]at hF hqk;refine aP.vz hF (λo c ho=>RA ho (hF.G 21) (hF.G 23) (hF.G 25)) λa hF=> ?_;refine aP.bx hF λw4 a b4 c4 z4 hF=> ?_
   iterate 3 refine aP.uz hF λa hF=> ?_
   refine aP.vz hF (λo c ho=>A0 ho (hF.G 29)) λa hF=> ?_;refine aP.vz hF (λo c ho=>KJ ho (hF.G 30)) λa hF=> ?_;refine aP.vv hF (λo c ho=>aO (w:=w4.at c) (t:=24) (v:= .slice none 0 0) (λw=>⟨k_,k_⟩) ho (hF.G 31) ((aH c4 3).trans rfl)) (WE c4 (nS _ o_)) λa hF=> ?_;refine aP.uz hF λa hF=> ?_;have b14:=aD (aD b2 b2.size b3) o_ b4;have hv4:=hv1.below b14;obtain⟨i,hi,hzz⟩:=IT.1 (show(prog.info? 3).map (λi=>(i.zero,i.size,i.bytes))=some (some (.i 0),1,8) by kernel_rfl);simp only[Prod.mk.injEq]at hzz;have hlen:(bS l).length=85:=(by simpa[bS]using hW.1);refine aP.ve (R:=λu w'=>∃c k,u= .sk w4.heap.size 85 c/\Bw w4 w'/\w'.heap[w4.heap.size]?=some (.cells (bS l++ar9 k (Value.i 0)).toArray 3)/\w'.heap.size=w4.heap.size+1) hF (λo c ho=> ?_) λv5 w5 ⟨qw,k,e5,b5,c5,z5⟩ a hF=> ?_
   .obtain⟨v',w',h1,h2,h3⟩:=QD (S:=S) (w:=w4.at c) (L:=bS l) k_ hi hzz.1 hzz.2.1 rfl ho (hF.G 32) (hF.G 33) hv4 (by simp_all) o_ (λad n c e _=>hvS ad (by injection e) (by rintro rfl;cases hlen));rcases h3 with⟨e,_⟩|⟨_,k,cc,rfl,rfl⟩
    .simp_all
    .rw[hlen]at h1;exact⟨_,_,h1,by rw[aJ];exact aA6 _,h2,cc,k,rfl,(fC w4 c).trans ((fS (w4.at c)).trans (aR (w4.at c).drew _)),aY (w4.at c).drew _,aJ (w4.at c).drew _⟩
   subst e5;refine aP.vz hF (λo c ho=>A0 ho (hF.G 28)) λa hF=> ?_;refine aP.vz hF (λo c ho=>KJ ho (hF.G 35)) λa hF=> ?_;have r5:=bk b5 c4;refine aP.sp hF r5 (nS _ o_) (λo c ho=>E9 (w:=w5.at c) (v:= .sk w4.heap.size 85 qw) rfl rfl k_ ho (hF.G 36) (hF.G 34) r5 (d_:3<7)) λa hF=> ?_;rw[show(oP (.sk hb 8 hq) (.sk tb 64 tq) (.sk w1.heap.size L.size frq) (.slice none 0 0) (.sk w2.heap.size 16 qk) false 0).setIfInBounds 3 (.sk w4.heap.size 85 qw)=oP (.sk hb 8 hq) (.sk tb 64 tq) (.sk w1.heap.size L.size frq) (.sk w4.heap.size 85 qw) (.sk w2.heap.size 16 qk) false 0 from rfl];have r6:=bZ (cs:=oP (.sk hb 8 hq) (.sk tb 64 tq) (.sk w1.heap.size L.size frq) (.sk w4.heap.size 85 qw) (.sk w2.heap.size 16 qk) false 0) (t:=107) r5;have x6:=dn (w:=w5) w3.heap.size (oP (.sk hb 8 hq) (.sk tb 64 tq) (.sk w1.heap.size L.size frq) (.sk w4.heap.size 85 qw) (.sk w2.heap.size 16 qk) false 0) 107;have X6:=(Ex.of_below (X:=λ_=>False) (aD (aD b1 b1.size b14) o_ b5)).trans x6 λb hb e=>o_
   have s6:=dE (w:=w5) (b:=w3.heap.size) (cs:=oP (.sk hb 8 hq) (.sk tb 64 tq) (.sk w1.heap.size L.size frq) (.sk w4.heap.size 85 qw) (.sk w2.heap.size 16 qk) false 0) (t:=107);have f6:=x6.at o_ (bk b5 (bk b4 (bk b3 c2)));have k6:=x6.at o_ (bk b5 (bk b4 c3));have w6:=x6.at o_ c5
   iterate 3 refine aP.uz hF λa hF=> ?_
   have e1:w1.heap.size=w.heap.size+1:=z1;have e2:w2.heap.size=w.heap.size+2:=o_;have e3:w3.heap.size=w.heap.size+3:=o_;have e4:w4.heap.size=w.heap.size+4:=o_;refine aP.fin2 hF func47 rfl ?_;revert r6 X6 s6 f6 k6 w6;generalize gK w5 w3.heap.size (oP (.sk hb 8 hq) (.sk tb 64 tq) (.sk w1.heap.size L.size frq) (.sk w4.heap.size 85 qw) (.sk w2.heap.size 16 qk) false 0) 107=wz;intro r6 X6 s6 f6 k6 w6;rw[e1]at f6;rw[e2]at k6;rw[e1,e2,e3,e4]at r6;rw[e4]at w6;rw[e3];exact nx1 hW hk wz frq qk qw k ⟨X6.os,X6.tape,X6.output,X6.size,λb hb=>X6.block b hb λe=>e⟩ f6 hfq k6 hqk r6 w6 o_
  .rw[show(((kp.size:Nat):Int) !=16)=true from bne_iff_ne.2 o_]
   iterate 2 refine aP.uz hF λa hF=> ?_
   exact aP.fin2 hF func47 rfl (nx0 (λh=>hk h.2) w1 b1)
end
section
variable{y:Operand}{m n:Int}
def Rs(h:m<n)(a:o.op= .binOp .lss 3 x y u)(c:ev x= .i m)(b:ev y= .i n):Yl tP ev o w (.bool true) #[]:=by have:=gy (w:=w) a c b;simp_all
def Rt(h:¬m<n)(a:o.op= .binOp .lss 3 x y u)(c:ev x= .i m)(b:ev y= .i n):Yl tP ev o w (.bool false) #[]:=by
 have:=gy (w:=w) a c b
 grind
def Rx(h:m≥n)(a:o.op= .binOp .geq 3 x y u)(c:ev x= .i m)(b:ev y= .i n):Yl tP ev o w (.bool true) #[]:=by have:=DW (w:=w) a c b;simp_all
def Ry(h:¬m≥n)(a:o.op= .binOp .geq 3 x y u)(c:ev x= .i m)(b:ev y= .i n):Yl tP ev o w (.bool false) #[]:=by
 have:=DW (w:=w) a c b
 grind
def A2{g a cap n:Nat}(b:o.op= .indexAddr 24 x y)(d:ev x= .sk g a cap)(c:ev y= .i n)(e:n<a):Yl tP ev o w (.pk g n) #[]:=by
 have:=Bz (w:=w) b d c e
 rwa [AS,as5]at this
def KH(a:o.op= .binOp .neq 3 x y u)(c:ev x= .i m)(b:ev y= .i m):Yl tP ev o w (.bool false) #[]:=by have:=KG (w:=w) a c b;simp_all
end
def SF{l}(a:i<l.length):(xO l 4)[i]?=some (.i (l.getD i 0)):=by
 have h:(bS l).length=l.length:=by simp[bS]
 unfold xO;rw[Va,as9 o_];simp[bS,EN a]
def SG{l}(b:l.length<=i)(a:i<l.length+4):(xO l 4)[i]?=some (.i 77):=by
 have h:(bS l).length=l.length:=by simp[bS]
 unfold xO;rw[Va,as1 o_,h,ax5];exact LQ o_
section
variable{S:Nat->Prop}{c':Frame}{cs':List Frame}{l:List Int}{p:Option Addr}{q g:Nat}
def JF(G:l.length<=17592186044412)(hv:fm w0 (.slice p l.length q) (bS l))(s:∀ad,p=some ad->l≠[]->¬S ad.block)(D:w0.heap[g]?=some (.cells (xO l 4) 3))(k:¬S g)(x:∀a w,Bw w0 w->Has [] 46 [] a->aP tP Post S (cD ((base 48).atR a [.code (Jt f48)]) (c'::cs')) w):
 ∀m i w a,l.length+4- i=m->i<=l.length+4->Bw w0 w->Has [(1, .slice p l.length q),(5, .sk g (l.length+4) (l.length+4)),(6, .i i)] 46 [] a->aP tP Post S (cD ((base 48).atR a [.code (Jw f48), .inLoop (Jw f48), .inBlock 0, .code (Jt f48)]) (c'::cs')) w:=by
 intro m;induction m with
 |zero=>
  intro i w a B C h b
  iterate 4 refine aP.uz b λa b=> ?_
  refine aP.plain rfl (aP.cond _ (b.G 15) ?_);rw[decide_eq_false o_];exact aP.plain rfl (x _ _ h (b.only trivial))
 |succ m y=>
  intro i w a B C h b
  iterate 4 refine aP.uz b λa b=> ?_
  refine aP.plain rfl (aP.cond _ (b.G 15) ?_);rw[decide_eq_true o_];have b:Has [(1, .slice p l.length q),(5, .sk g (l.length+4) (l.length+4)),(6, .i i)] 46 [] a:=b.O
  iterate 4 refine aP.plain rfl ?_
  have j:=bk h D;have r:∀a v,Bw w v->Has ([(45, .bool false)]++[(1, .slice p l.length q),(5, .sk g (l.length+4) (l.length+4)),(6, .i i)]) 46 [] a->aP tP Post S (cD ((base 48).atR a [.code (.cond (.tmp 45) (.seq (rG f48 6) .ret) .skip), .inBlock 1, .code (rG f48 4), .inLoop (Jw f48), .inBlock 0, .code (Jt f48)]) (c'::cs')) v:=λa F E b=>by refine aP.cond _ (b.G 45) ?_;refine aP.uz b λa b=> ?_;refine aP.vz b (λo c A=>jU (m:=i) (n:=1) o_ A (b.G 16) rfl) λa b=> ?_;refine aP.uz b λa b=> ?_;exact aP.plain rfl (aP.plain rfl (y (i+1) _ _ o_ o_ (aD h h.size E) b.O))
  by_cases d:i<l.length
  .obtain⟨ad,rfl,t⟩:=Gl (hv.below h) d;have u:¬S (ad.add i).block:=(by rw[addBlock];grind);have f:=(aH j i).trans (SF d);refine aP.tabQ b [(18, .i i),(19, .slice (some ad) l.length q),(20, .i l.length),(21, .bool true),(22, .bool true),(23, .sk g (l.length+4) (l.length+4)),(24, .i i),(25, .pk g i),(26, .i (l.getD i 0)),(27, .slice (some ad) l.length q),(28, .i i),(29, .pointer (some (ad.add i))),(30, .i (l.getD i 0)),(31, .bool false),(32, .bool false),(33, .bool false),(34, .i i),(35, .slice (some ad) l.length q),(36, .i l.length),(37, .bool false),(38, .bool false),(39,undef),(40,undef),(41,undef),(42,undef),(43,undef),(44, .bool false),(45, .bool false)] [18,19,22,23,24,27,28,33,34,35,38] [39,40,41,42,43] [(45, .bool false)]
    ⟨λz=>nc λ_=>vM (z.e) (z.k 19),
     λz=>nc λ_=>Rs (m:=i) (n:=l.length) o_ (z.e (p:= .binOp .lss 3 (.tmp 18) (.tmp 20) 3)) (z.k 18) (z.k 20),
     λz=>nc λ_=>A2 (z.e) (z.k 23) (z.k 24) o_,
     λz=>have e:=bM z.b f;Xo (λ_=>aO tu (z.e) (z.k 25) e) (zA e k),
     λz=>nc λ_=>Bz (z.e) (z.k 27) (z.k 28) d,
     λz=>have e:=bM z.b t;Xo (λ_=>aO tu (z.e) (z.k 29) e) (zA e u),
     λz=>nc λ_=>KH (z.e (p:= .binOp .neq 3 (.tmp 26) (.tmp 30) 3)) (z.k 26) (z.k 30),
     λz=>nc λ_=>ue (z.e (p:= .pick (.tmp 22) (.tmp 31) (.const (.bool false)))) (z.k 22) (z.k 31),
     λz=>nc λ_=>vM (z.e (p:= .call {callee:= .builtin .len,args:=#[.tmp 35],argTypes:=#[24]})) (z.k 35),
     λz=>nc λ_=>Ry (m:=i) (n:=l.length) o_ (z.e (p:= .binOp .geq 3 (.tmp 34) (.tmp 36) 3)) (z.k 34) (z.k 36),
     λz=>nc λ_=>rH (z.e (p:= .pick (.tmp 38) (.tmp 43) (.const (.bool false)))) (z.k 38) rfl,
     λz=>nc λ_=>rH (z.e (p:= .pick (.tmp 33) (.const (.bool true)) (.tmp 44))) (z.k 33) (z.k 44),
     trivial⟩ r
  .have f:w.cell? ⟨g,i,none⟩=some (.i 77):=(aH j i).trans (SG o_ o_);refine aP.tabQ b [(18, .i i),(19, .slice p l.length q),(20, .i l.length),(21, .bool false),(22, .bool false),(23,undef),(24,undef),(25,undef),(26,undef),(27,undef),(28,undef),(29,undef),(30,undef),(31,undef),(32, .bool false),(33, .bool false),(34, .i i),(35, .slice p l.length q),(36, .i l.length),(37, .bool true),(38, .bool true),(39, .sk g (l.length+4) (l.length+4)),(40, .i i),(41, .pk g i),(42, .i 77),(43, .bool false),(44, .bool false),(45, .bool false)] [18,19,22,33,34,35,38,39,40] [23,24,25,26,27,28,29,30,31] [(45, .bool false)]
    ⟨λz=>nc λ_=>vM (z.e (p:= .call {callee:= .builtin .len,args:=#[.tmp 19],argTypes:=#[24]})) (z.k 19),
     λz=>nc λ_=>Rt (m:=i) (n:=l.length) o_ (z.e (p:= .binOp .lss 3 (.tmp 18) (.tmp 20) 3)) (z.k 18) (z.k 20),
     λz=>nc λ_=>rH (z.e (p:= .pick (.tmp 22) (.tmp 31) (.const (.bool false)))) (z.k 22) rfl,
     λz=>nc λ_=>vM (z.e (p:= .call {callee:= .builtin .len,args:=#[.tmp 35],argTypes:=#[24]})) (z.k 35),
     λz=>nc λ_=>Rx (m:=i) (n:=l.length) o_ (z.e (p:= .binOp .geq 3 (.tmp 34) (.tmp 36) 3)) (z.k 34) (z.k 36),
     λz=>nc λ_=>A2 (n:=i) (z.e (p:= .indexAddr 24 (.tmp 39) (.tmp 40))) (z.k 39) (z.k 40) o_,
     λz=>have e:=bM z.b f;Xo (λ_=>aO tu (z.e (p:= .load 3 (.tmp 41))) (z.k 41) e) (zA e k),
     λz=>nc λ_=>KH (z.e (p:= .binOp .neq 3 (.tmp 42) (.const (.i 77)) 3)) (z.k 42) rfl,
     λz=>nc λ_=>ue (z.e (p:= .pick (.tmp 38) (.tmp 43) (.const (.bool false)))) (z.k 38) (z.k 43),
     λz=>nc λ_=>rH (z.e (p:= .pick (.tmp 33) (.const (.bool true)) (.tmp 44))) (z.k 33) (z.k 44),
     trivial⟩ r
def PF(i:l.length<=17592186044412)(hv:fm w (.slice p l.length q) (bS l))(d:∀ad,p=some ad->l≠[]->¬S ad.block)(j:w.heap[g]?=some (.cells (xO l 4) 3))(f:¬S g)(next:∀w',Bw w w'->aP tP Post S (cD (c'.finish (.bool true)) cs') w'):
 aP tP Post S (bT tP 48 #[.sk g l.length (l.length+4), .slice p l.length q] (c'::cs')) w:=by
 refine aP.ent func48 MV λa b=> ?_
 iterate 4 refine aP.uz b λa b=> ?_
 refine aP.vz b (λo c e=>jU (m:=l.length) (n:=4) o_ e (b.G 9) rfl) λa b=> ?_;refine aP.vz b (λo c e=>Gf (n:=l.length+4) (q:=l.length+4) o_ e (b.G 7) (b.G 10)) λa b=> ?_
 iterate 2 refine aP.uz b λa b=> ?_
 refine aP.plain rfl (aP.plain rfl (aP.plain rfl (JF i hv d j f (λa h k b=> ?_) (l.length+4) 0 w _ o_ o_ (bR) b.O)));refine aP.uz b λa b=> ?_;exact aP.fin1 b func48 rfl (next h k)
end
section
variable{y:Operand}
def Ru{m n}(a:o.op= .binOp .leq 3 x y u)(c:ev x= .i m)(b:ev y= .i n):Yl tP ev o w (.bool (decide (m<=n))) #[]:=by constructor<;>simp[execOp,a,c,b,go_sem]
def KI{m n}(a:o.op= .binOp .neq 36 x y u)(c:ev x= .i m)(b:ev y= .i n):Yl tP ev o w (.bool (m !=n)) #[]:=by constructor<;>simp[execOp,a,c,b,go_sem]
def RE{p}{c}(a:o.op= .build 149 #[(0,x)])(b:ev x= .slice p l c):Yl tP ev o w (.agg (qj (.slice p l c) (KE 85) (KE 16) false 0)) #[]:=by unfold Yl;simp[execOp,a,b];constructor<;>kernel_rfl
def RD(a:o.op= .build 127 #[(0,x)])(c:ev x= .pk b 0):Yl tP ev o w (.agg #[.pk b 0]) #[]:=by unfold Yl;simp[execOp,a,c];constructor<;>kernel_rfl
def KL(j)(d:j=1\/j=2)(a:o.op= .fieldAddr 149 x j)(c:ev x= .pk b 0):Yl tP ev o w (.pk b (85*j- 84)) #[]:=by unfold Yl;simp[execOp,a,c];rcases d with rfl|rfl<;>constructor<;>kernel_rfl
def Vv(a:o.op= .slice 144 x none none none)(c:ev x= .pk b 1):Yl tP ev o w (.slice (some ⟨b,1,none⟩) 85 85) #[]:=by
 have e:execOp ev o=(do pure (.value (←Mv 144 (.pk b 1) none none none))):=by simp only[execOp,a,c];rfl
 unfold Yl;rw[e];constructor<;>kernel_rfl
def Vw(a:o.op= .slice 145 x none none none)(c:ev x= .pk b 86):Yl tP ev o w (.slice (some ⟨b,86,none⟩) 16 16) #[]:=by
 have e:execOp ev o=(do pure (.value (←Mv 145 (.pk b 86) none none none))):=by simp only[execOp,a,c];rfl
 unfold Yl;rw[e];constructor<;>kernel_rfl
def WK{S}{g a q cap}{ad}{L}{cur}{i}(I:L.length=n)(E:n<=m)(l:∀j u,L[j]?=some u->w.cell? (ad.add j)=some u)(J:0<n)(A:∀u∈L,u.oneCell'=true)(p:w.heap[g]?=some (.cells cur i))(z:a+n<=cur.size)(v:¬S g)(s:¬S ad.block)(t:o.op= .call {callee:= .builtin .copy,args:=#[.tmp k, .tmp j],argTypes:=#[24,24]})(D:ev (.tmp k)= .slice (some ⟨g,a,none⟩) m q)(C:ev (.tmp j)= .slice (some ad) n cap):
 (execOp ev o).run tP w= .ok (.value (.i n)) (gK w g (cur.toList.take a++L++cur.toList.drop (a+n)).toArray i)/\∀e∈(execOp ev o).events tP w #[],EvL (dq S) w.heap.size e:=by
 subst I;have x:prog.underlying 24=some (.slice 3):=k_
 have e:execOp ev o=(do pure (.value (←Yf #[24,24] o.type #[.slice (some ⟨g,a,none⟩) m q, .slice (some ad) L.length cap]))):=by simp[execOp,t,resolve,D,C,invoke,builtin]
 have B:∀w,(sizeOf 3).run tP w= .ok 1 w:=s_;have r:∀w es,(sizeOf 3).events tP w es=es:=s_;have b:=ax0 E;have y:=run_copy_row (P:=tP) w 24 24 o.type 3 g a m q ad L.length cap cur i L x k_ p b.symm l z A;rw[lR p]at y;refine⟨e▸Li y,λf c=> ?_⟩;rw[e]at c;simp[Yf,s_,Zm,Tw,B,r,b,(run_loadCells_list (P:=tP) w ad L l),goInt]at c;rcases AQ g a i L 0 cur w _ p z A f c with h|⟨k,rfl⟩
 .simp[loadCells]at h;rcases sM ad _ 0 _ _ _ (λj F=>by simp_all) f h with h|⟨ad',e1,rfl⟩
  .simp at h
  .have d:=B0 (l 0 L[0] s_);rw[addBlock]at d;exact iF (es:=#[⟨.cell ad',false,false⟩]) (λe H=>⟨ad',false,by simpa using H,o_,by simp_all⟩) _ s_
 .exact qg (aK p) v
def TA{S}{fl}{W K}{on}{sl}(a:W.length=85)(p:K.length=16)(i:s.size=16)(d:w.heap[b]?=some (.cells (qj fl W K on sl) t))(n:¬S b)(l:o.op= .call {callee:= .builtin .copy,args:=#[.tmp k, .tmp j],argTypes:=#[83,9]})(D:ev (.tmp k)= .slice (some ⟨b,86,none⟩) 16 16)(C:ev (.tmp j)= .s s):
 (execOp ev o).run tP w= .ok (.value (.i 16)) (gK w b (qj fl W (Ha s) on sl) t)/\∀e∈(execOp ev o).events tP w #[],EvL (dq S) w.heap.size e:=by
 have m:s.data.toList.length=16:=by simp_all
 have y:prog.underlying 83=some (.slice 5):=k_
 have u:∀w,(sizeOf 5).run tP w= .ok 1 w:=s_;have f:∀w r,(sizeOf 5).events tP w r=r:=s_;have z:List.take 16 (List.map (λb=>Value.int .u8 b.toNat) s.data.toList)=List.map (λb=>Value.int .u8 b.toNat) s.data.toList:=No (by simp_all);have g:(qj fl W K on sl).toList.take (86+0)++(s.data.map λb=>Value.int .u8 b.toNat).toList++(qj fl W K on sl).toList.drop (86+0+(s.data.map λb=>Value.int .u8 b.toNat).toList.length)=(qj fl W (Ha s) on sl).toList:=by simp only[qj,Ha,Ye,List.length_map,m];rw[show 86+0+16=101+1 from rfl,show 86+0=85+1 from rfl,aK9,aL_,List.take_append_of_le_length (by simp[a]),No (by simp[a]),aO3,ZS (by simp[a]),aO3,ZS (by simp[a,p])];simp[a,p]
 have A:86+0+(s.data.map λb=>Value.int .u8 b.toNat).toList.length<=(qj fl W K on sl).size:=by simp[qj,a,p,m]
 have B:∀v∈(s.data.map λb=>Value.int .u8 b.toNat).toList,v.oneCell'=true:=by intro v x;rw[Ye]at x;obtain⟨_,_,rfl⟩:=ZA.1 x;rfl
 have h:=run_storeCells_at tP b 86 t (s.data.map λb=>Value.int .u8 b.toNat).toList 0 _ w d A B;rw[g,aC9,lR d,Ye]at h;simp[execOp,l,resolve,D,C,invoke,builtin];refine⟨by simp[Yf,s_,Zm,Tw,u,i,z,h,goInt],λq c=> ?_⟩;simp[Yf,s_,Zm,Tw,u,f,i,z,goInt]at c;rcases AQ b 86 t _ 0 _ w _ d (by simpa using A) (by simpa using B) q c with h|⟨k,rfl⟩
 .simp at h
 .exact qg (aK d) n
end
section
variable{S:Nat->Prop}{c':Frame}{cs':List Frame}{l:List Int}{g q:Nat}{L kp:ByteArray}
def Td(x)(next:aP tP Post S (cD (c'.finish (.bool (decide (0<=x/\x<65536)))) cs') w):aP tP Post S (bT tP 104 #[.i x] (c'::cs')) w:=by
 refine aP.ent func104 MX λa b=> ?_
 iterate 4 refine aP.uz b λa b=> ?_
 by_cases e:0<=x
 .rw[decide_eq_true e]at b;refine aP.uz b λa b=> ?_;refine aP.vz b (λo c d=>Ru d (b.G 6) rfl) λa b=> ?_;refine aP.uz b λa b=> ?_;rw[show decide (x<=65535)=decide (0<=x/\x<65536)from decide_eq_decide.2 o_]at b;refine aP.uz b λa b=> ?_;exact aP.fin1 b func104 rfl next
 .rw[decide_eq_false e]at b
  iterate 2 refine aP.us b λa b=> ?_
  refine aP.vz b (λo c d=>rH d (b.G 5) rfl) λa b=> ?_;rw[show false=decide (0<=x/\x<65536)from(decide_eq_false o_).symm]at b;refine aP.uz b λa b=> ?_;exact aP.fin1 b func104 rfl next
def Nc(z:l.length=85)(hv:fm w (.sk g 85 q) (bS l))(u:¬S g)(v:∀a b k,(b=true↔g6 l)->Has [(2, .bool b)] 18 [] a->aP tP Post S (cD ((base 98).atR a (.code .ret::k)) (c'::cs')) w):
 ∀m i a,85- i=m->i<=85->(∀j,j<i->0<=l.getD j 0/\l.getD j 0<65536)->Has [(8, .sk g 85 q),(9, .i 85),(10, .i i)] 18 [] a->aP tP Post S (cD ((base 98).atR a [.code (Wo f98), .inLoop (Wo f98), .inBlock 0, .code (Mf f98)]) (c'::cs')) w:=by
 intro m;induction m with
 |zero=>
  intro i a y B s d;refine aP.uz d λa d=> ?_;refine aP.plain rfl (aP.plain rfl (aP.cond _ (d.G 11) ?_));rw[decide_eq_false o_];refine aP.uz d λa d=> ?_;exact aP.plain rfl (v _ true _ ⟨λ_=>⟨z,λj A=>s j o_⟩,λ_=>rfl⟩ d.O)
 |succ m x=>
  intro i a y B s d;have⟨E,e,t⟩:=Gl hv (i:=i) o_;cases e;rw[AS,as5]at t;refine aP.uz d λa d=> ?_;refine aP.plain rfl (aP.plain rfl (aP.cond _ (d.G 11) ?_));rw[decide_eq_true o_];refine aP.vz d (λo c f=>A2 f (d.G 8) (d.G 10) o_) λa d=> ?_;refine aP.vv d (λo c f=>aO tu f (d.G 12) t) (zA t u) λa d=> ?_
  iterate 2 refine aP.uz d λa d=> ?_
  refine aP.cc d func104 λD C p=>Td _ (p S w _ λa d=> ?_);by_cases r:0<=l.getD i 0/\l.getD i 0<65536
  .rw[decide_eq_true r]at d;refine aP.uz d λa d=> ?_;refine aP.plain rfl (aP.cond _ (d.G 16) ?_);refine aP.vz d (λo c f=>jU (m:=i) (n:=1) o_ f (d.G 10) rfl) λa d=> ?_;refine aP.uz d λa d=> ?_;exact aP.plain rfl (aP.plain rfl (x (i+1) _ o_ o_ (λj A=>by
    by_cases e:j=i
    .exact e▸r
    .grind) d.O))
  .rw[decide_eq_false r]at d;refine aP.uz d λa d=> ?_;refine aP.plain rfl (aP.cond _ (d.G 16) ?_);refine aP.uz d λa d=> ?_;exact aP.plain rfl (v _ false _ ⟨s_,λh=>absurd (h.2 i o_) r⟩ d.O)
def UK(hv:fm w (.sk g l.length q) (bS l))(f:¬S g)(next:∀b,(b=true↔g6 l)->aP tP Post S (cD (c'.finish (.bool b)) cs') w):
 aP tP Post S (bT tP 98 #[.sk g l.length q] (c'::cs')) w:=by
 refine aP.ent func98 MZ λa c=> ?_
 iterate 4 refine aP.uz c λa c=> ?_
 by_cases d:l.length=85
 .rw[d]at c hv;refine aP.plain rfl (aP.cond _ (c.G 7) ?_)
  iterate 3 refine aP.uz c λa c=> ?_
  exact aP.plain rfl (aP.plain rfl (aP.plain rfl (Nc d hv f (λa b k i c=>aP.fin1 c func98 rfl (next b i)) 85 0 _ rfl o_ o_ c.O)))
 .rw[show(((l.length:Nat):Int) !=85)=true from bne_iff_ne.2 o_]at c;refine aP.plain rfl (aP.cond _ (c.G 7) ?_);refine aP.uz c λa c=> ?_;exact aP.fin1 c func98 rfl (next false ⟨s_,λh=>absurd h.1 d⟩)
def Pp(W:w.heap[g]?=some (.cells (xO l 4) 3))(B:¬S g)
 (y:¬(g6 l/\kp.size=16)->aP tP Post S (cD (c'.finish (.tuple #[.pointer none, .int .i64 11])) cs') w)
 (J:g6 l->kp.size=16->∀w' m,Bw w w'->L.size<=m->w'.heap[w.heap.size]?=some (xC L m)->w'.heap[w.heap.size+1]?=some (.cells (qj (.sk w.heap.size L.size m) l (Ha kp) false 0) 149)->w'.heap.size=w.heap.size+2->aP tP Post S (cD (c'.finish (.tuple #[.pk (w.heap.size+1) 0, .int .i64 0])) cs') w'):
 aP tP Post S (bT tP 74 #[.s L, .sk g l.length (l.length+4), .s kp] (c'::cs')) w:=by
 refine aP.low λhS=> ?_;have V:∀b,w.heap.size<=b->¬S b:=λb G h=>by grind
 have lg:=aK W;have k:∀j u,(bS l)[j]?=some u->w.cell? ((⟨g,0,none⟩:Addr).add j)=some u:=λj u t=>by
  rw[AS,as5,aH W];unfold xO
  grind
 refine aP.ent (N:=34) func74 U0 λa f=> ?_
 iterate 3 refine aP.uz f λa f=> ?_
 refine aP.cc f func98 λP a0 C=>UK (q:=l.length+4) ⟨some ⟨g,0,none⟩,l.length+4,by simp[bS],λj u t=>⟨_,rfl,k j u t⟩⟩ B λbb A=>C S w (.bool bb) λa f=> ?_;cases bb with
 |false=>
  iterate 2 refine aP.uz f λa f=> ?_
  iterate 3 refine aP.us f λa f=> ?_
  refine aP.vz (v:= .bool true) f (λo c i=>ue i (f.get (d:=12) rfl) rfl) λa f=> ?_;refine aP.plain rfl (aP.cond _ (f.get (d:=16) rfl) ?_)
  iterate 2 refine aP.uz f λa f=> ?_
  exact aP.fin2 f func74 rfl (y λh=>by simp_all)
 |true=>
  have H:=A.1 rfl;have z:(bS l).length=85:=by simpa[bS]using H.1
  iterate 3 refine aP.uz f λa f=> ?_
  refine aP.vz f (λo c i=>Ge i (f.get (d:=13) rfl)) λa f=> ?_;refine aP.uz f λa f=> ?_;refine aP.vz f (λo c i=>rH i (f.get (d:=12) rfl) (f.get (d:=15) rfl)) λa f=> ?_;refine aP.plain rfl (aP.cond _ (f.get (d:=16) rfl) ?_);by_cases F:kp.size=16
  .rw[show(((kp.size:Nat):Int) !=16)=false from by simp[F]];refine aP.uz f λa f=> ?_;refine aP.tb f λE a m M I c1 z1 f=> ?_;refine aP.vz f (λo c i=>RE i (f.get (d:=18) rfl)) λa f=> ?_;refine aP.bx f λs a Q P z2 f=> ?_
   iterate 2 refine aP.uz f λa f=> ?_
   refine aP.vz f (λo c i=>A0 i (f.get (d:=21) rfl)) λa f=> ?_;refine aP.vz f (λo c i=>KL 1 (.inl rfl) i (f.get (d:=22) rfl)) λa f=> ?_;refine aP.vz f (λo c i=>Vv i (f.get (d:=23) rfl)) λa f=> ?_;refine aP.uz f λa f=> ?_;rw[H.1]at f;have p:∀j u,(bS l)[j]?=some u->s.cell? ((⟨g,0,none⟩:Addr).add j)=some u:=λj u t=>bM (aD I I.size Q) (k j u t);have r:∀(o:Oper) (c:Nat),o.op= .call {callee:= .builtin .copy,args:=#[.tmp 24, .tmp 25],argTypes:=#[24,24]}->_:=λo c i=>WK (S:=S) (w:=s.at c) (n:=85) (L:=bS l) (cap:=85+4) z (ar5 _) p d_ (by intro u hu;obtain⟨_,_,rfl⟩:=ZA.1 hu;rfl) P (by simp[qj,KE]) (V _ o_) B i (f.get (d:=24) rfl) (f.get (d:=25) rfl);have K:(qj (.sk w.heap.size L.size m) (KE 85) (KE 16) false 0).toList.take 1++bS l++(qj (.sk w.heap.size L.size m) (KE 85) (KE 16) false 0).toList.drop (1+85)=(qj (.sk w.heap.size L.size m) l (KE 16) false 0).toList:=by simp only[qj];rw[show 1+85=85+1 from rfl,aK9,aL_,List.drop_append_of_le_length (by simp[KE]),ZS (by simp[KE])];simp[bS]
   rw[K,aC9]at r;refine aP.ve (R:=λu w'=>u= .int .i64 ((85:Nat):Int)/\Ex (· =E.heap.size) s w'/\w'.heap.size=s.heap.size/\w'.heap[E.heap.size]?=some (.cells (qj (.sk w.heap.size L.size m) l (KE 16) false 0) 149)) f (λo c i=>⟨_,_,(r o c i).1,ay9 dE.symm,λe O=>by rw[dE];grind,rfl,(Ex.of_below (fC s c)).trans (dn _ _ _) λ_ _ e=>e,dE,bZ (w:=s.at c) P⟩) λv3 x ⟨e3,U,z3,Z⟩ a f=> ?_
   iterate 1 refine aP.uz f λa f=> ?_
   refine aP.vz f (λo c i=>A0 i (f.get (d:=27) rfl)) λa f=> ?_;refine aP.vz f (λo c i=>KL 2 (.inr rfl) i (f.get (d:=28) rfl)) λa f=> ?_;refine aP.vz f (λo c i=>Vw i (f.get (d:=29) rfl)) λa f=> ?_;refine aP.uz f λa f=> ?_;refine aP.ve (R:=λu w'=>u= .int .i64 16/\Ex (· =E.heap.size) x w'/\w'.heap.size=x.heap.size/\w'.heap[E.heap.size]?=some (.cells (qj (.sk w.heap.size L.size m) l (Ha kp) false 0) 149)) f (λo c i=> ?_) λv4 w4 ⟨e4,T,z4,Y⟩ a f=> ?_
   .have h:=TA (S:=S) (w:=x.at c) H.1 (by simp[KE]) F Z (V _ o_) i (f.get (d:=30) rfl) (f.get (d:=31) rfl);exact⟨_,_,h.1,ay9 dE.symm,λe O=>by rw[dE];exact h.2 e O,rfl,(Ex.of_below (fC x c)).trans (dn _ _ _) λ_ _ e=>e,dE,bZ (w:=x.at c) Z⟩
   iterate 3 refine aP.uz f λa f=> ?_
   have D:=((Ex.of_below (X:=λ_=>False) (aD I I.size Q)).trans U λb G e=>o_).trans T λb G e=>o_
   have f4:=T.at o_ (U.at o_ (bk Q c1));refine aP.fin2 f func74 rfl ?_;rw[z1]at Y⊢;exact J H F w4 m ⟨D.os,D.tape,D.output,D.size,λb G=>D.block b G λe=>e⟩ M f4 Y o_
  .rw[show(((kp.size:Nat):Int) !=16)=true from bne_iff_ne.2 o_]
   iterate 2 refine aP.uz f λa f=> ?_
   exact aP.fin2 f func74 rfl (y λh=>F h.2)
def Po(y:w.heap[g]?=some (.cells (xO l 4) 3))(k:¬S g)
 (i:¬(g6 l/\kp.size=16)->aP tP Post S (cD (c'.finish (.tuple #[.pointer none, .i 11])) cs') w)
 (h:g6 l->kp.size=16->∀w' f,Bw w w'->L.size<=f->w'.heap[w.heap.size]?=some (xC L f)->w'.heap[w.heap.size+1]?=some (.cells (qj (.sk w.heap.size L.size f) l (Ha kp) false 0) 149)->w'.heap[w.heap.size+2]?=some (.cells #[.pk (w.heap.size+1) 0] 127)->w'.heap.size=w.heap.size+3->aP tP Post S (cD (c'.finish (.tuple #[.pk (w.heap.size+2) 0, .i 0])) cs') w'):
 aP tP Post S (bT tP 46 #[.s L, .sk g l.length (l.length+4), .s kp] (c'::cs')) w:=by
 refine aP.ent func46 U4 λa b=> ?_
 iterate 5 refine aP.uz b λa b=> ?_
 refine aP.cc b func74 λp z d=>Pp y k (λv=>d S w _ λa b=> ?_) λA x u f r j C B s=>d S u _ λa b=> ?_
 .iterate 6 refine aP.uz b λa b=> ?_
  refine aP.vz b (λo c e=>KI e (b.G 17) rfl) λa b=> ?_;refine aP.plain rfl (aP.cond _ (b.G 18) ?_)
  iterate 3 refine aP.uz b λa b=> ?_
  exact aP.fin2 b func46 rfl (i v)
 .iterate 6 refine aP.uz b λa b=> ?_
  refine aP.vz b (λo c e=>KI e (b.G 17) rfl) λa b=> ?_;refine aP.plain rfl (aP.cond _ (b.G 18) ?_);refine aP.uz b λa b=> ?_;refine aP.vz b (λo c e=>RD e (b.G 20)) λa b=> ?_;refine aP.bx b λt a q p D b=> ?_
  iterate 2 refine aP.uz b λa b=> ?_
  refine aP.fin2 b func46 rfl ?_;rw[s]at p⊢;exact h A x t f (aD r r.size q) j (bk q C) (bk q B) p o_
end
section
variable{y:Operand}{p p':Option Addr}
def Rr(a:o.op= .binOp .neq 56 x y u)(c:ev x= .pointer p)(b:ev y= .pointer none):Yl tP ev o w (.bool p.isSome) #[]:=by
 cases p with
 |none=>
  unfold Yl;simp[execOp,a,c,b];constructor<;>kernel_rfl
 |some p=>
  unfold Yl;simp[execOp,a,c,b];constructor<;>kernel_rfl
def Rq(a:o.op= .binOp .neq 57 x y u)(c:ev x= .pointer p)(b:ev y= .pointer none):Yl tP ev o w (.bool p.isSome) #[]:=by
 cases p with
 |none=>
  unfold Yl;simp[execOp,a,c,b];constructor<;>kernel_rfl
 |some p=>
  unfold Yl;simp[execOp,a,c,b];constructor<;>kernel_rfl
def Rz{m}(a:o.op= .binOp .eql 4 x y u)(c:ev x= .bool m)(b:ev y= .bool m):Yl tP ev o w (.bool true) #[]:=by unfold Yl;simp[execOp,a,c,b];cases m<;>constructor<;>kernel_rfl
def RB(a:o.op= .build 60 #[(0,x),(1,y)])(c:ev x= .pointer p)(b:ev y= .pointer p'):Yl tP ev o w (.agg #[.pointer p, .pointer p', .slice none 0 0, .slice none 0 0]) #[]:=by unfold Yl;simp[execOp,a,c,b];constructor<;>kernel_rfl
end
def HV(f:Func):Code:= .seq (.seq (rG f 6) (.cond (.tmp 40) .skip (.exit 0))) (.seq (.block 1 (rG f 8)) (rG f 7))
def SS(f:Func):Code:= .seq (rG f 9) .ret
def VI(f:Func):Code:= .seq (rG f 4) (.seq (.seq (rG f 5) (.block 0 (.loop (HV f)))) (SS f))
def Ug:f21.body=some (.seq (rG f21 0) (.seq (rG f21 1) (.seq (rG f21 2) (.seq (rG f21 3) (VI f21))))):=k_
section
variable{S:Nat->Prop}{c':Frame}{cs':List Frame}{W:World}{l:List Int}{p:Option Addr}{q g:Nat}{pl pr:Option Addr}{e:Int}
def Hd.bel(a:Hd W S D w)(b:Bw w w'):Hd W S D w':=⟨a.two,⟨b.os.trans a.old.os,b.tape.trans a.old.tape,b.output.trans a.old.output,as8 a.old.size b.size,λr c=>(b.block r (ar4 c a.old.size)).trans (a.old.block r c)⟩,a.shun,λr c=>by have⟨g,f,o,d,e⟩:=a.own r c;exact⟨g,f,o,(b.block r (aK d)).trans d,e⟩⟩
def Hd.more(c:Hd W S D w){X:Nat->Prop}(h:∀b,X b->W.heap.size<=b/\¬S b/\∃o,w.heap[b]?=some o/\pK (λb=>D b\/X b) o):Hd W S (λb=>D b\/X b) w:=⟨c.two,c.old,c.shun,λr a=>by
 obtain a|a:=a
 .have⟨g,f,o,e,d⟩:=c.own r a;exact⟨g,f,o,e,wj (λ_=> .inl) d⟩
 .exact h r a⟩
def FO(x:l.length<=17592186044412)(dg:D g)(k:¬S g)(q:∀a w,Hd W S D w->Ex (· =g) w0 w->w.heap.size=w0.heap.size->Has [(11, .pointer pl),(12, .i e),(13, .pointer pr),(14, .i e),(15, .bool true)] 65 [] a->aP tP Post S (cD ((base 21).atR a [.code (SS f21)]) (c'::cs')) w):
 ∀m i w a,l.length- i=m->i<=l.length->(∃cur,w.heap[g]?=some (.cells cur 3)/\cur.size=l.length+4)->Hd W S D w->Ex (· =g) w0 w->w.heap.size=w0.heap.size->Has [(10, .sk g l.length (l.length+4)),(11, .pointer pl),(12, .i e),(13, .pointer pr),(14, .i e),(15, .bool true),(16, .i i)] 65 [] a->aP tP Post S (cD ((base 21).atR a [.code (HV f21), .inLoop (HV f21), .inBlock 0, .code (SS f21)]) (c'::cs')) w:=by
 intro m;induction m with
 |zero=>
  intro i w a s u f p j h b
  iterate 4 refine aP.uz b λa b=> ?_
  refine aP.plain rfl (aP.cond _ (b.G 40) ?_);rw[decide_eq_false o_];exact aP.plain rfl (q _ _ p j h b.O)
 |succ m r=>
  intro i w a s u ⟨cur,f,t⟩ p j h b
  iterate 4 refine aP.uz b λa b=> ?_
  refine aP.plain rfl (aP.cond _ (b.G 40) ?_);rw[decide_eq_true o_]
  iterate 3 refine aP.uz b λa b=> ?_
  refine aP.vz b (λo c d=>jU (m:=1) (n:=i) o_ d rfl (b.G 45)) λa b=> ?_;refine aP.vz b (λo c d=>A2 d (b.G 43) (b.G 44) o_) λa b=> ?_;refine aP.sp b f k (λo c d=>E9 rfl rfl k_ d (b.G 47) (b.G 46) f o_) λa b=> ?_;refine aP.uz b λa b=> ?_;refine aP.vz b (λo c d=>jU (m:=i) (n:=1) o_ d (b.G 41) rfl) λa b=> ?_;refine aP.uz b λa b=> ?_;exact aP.plain rfl (aP.plain rfl (r (i+1) _ _ o_ o_ ⟨_,bZ f,by simpa using t⟩ (p.poke dg f i _).1 (j.trans (dn ..) o_) (dE.trans h) b.O))
def xz(r:l.length<=17592186044412)(hv:fm W (.slice p l.length q) (bS l))(m:∀ad,p=some ad->l≠[]->¬S ad.block)(t:Hd W S D w)(dg:D g)(f:¬S g)(s:w.heap[g]?=some (.cells (xO l 4) 3))(n:pl.isSome=pr.isSome)
 (A:∀w' k,Hd W S D w'->Ex (· =g) w w'->w.heap.size<=k->Ow W S D w' k (.cells #[.pointer pl, .pointer pr, .slice none 0 0, .slice none 0 0] 60)->aP tP Post S (cD (c'.finish (.tuple #[.pk k 0, .bool true])) cs') w')
 (b:Has [(2, .slice p l.length q),(10, .sk g l.length (l.length+4)),(11, .pointer pl),(12, .i e),(13, .pointer pr),(14, .i e)] 65 [] a):
 aP tP Post S (cD ((base 21).atR a [.code (VI f21)]) (c'::cs')) w:=by
 iterate 2 refine aP.uz b λa b=> ?_
 refine aP.cc b func48 λL B h=>PF r (hv.below t.old) m s f λj i=>h S j (.bool true) λa b=> ?_
 iterate 2 refine aP.uz b λa b=> ?_
 refine aP.plain rfl (aP.plain rfl (aP.plain rfl (FO r dg f (λa y G v J b=> ?_) l.length 0 j _ o_ o_ ⟨_,bk i s,Ct l o_⟩ (t.bel i) Ex.refl rfl b.O)));have K:=i.size
 iterate 2 refine aP.uz b λa b=> ?_
 refine aP.vz b (λo c d=>RB d (b.G 48) (b.G 49)) λa b=> ?_;refine aP.low λC=> ?_;refine aP.bx b λx a u E I b=> ?_;have⟨F,z,_⟩:=G.made C u E
 iterate 4 refine aP.uz b λa b=> ?_
 refine aP.vz b (λo c d=>KN d (b.G 54) (b.G 55)) λa b=> ?_;rw[beq_self_eq_true e]at b;refine aP.vz b (λo c d=>ue d (b.G 53) (b.G 56)) λa b=> ?_
 iterate 2 refine aP.uz b λa b=> ?_
 refine aP.vz b (λo c d=>Rr d (b.G 59) rfl) λa b=> ?_;refine aP.uz b λa b=> ?_;refine aP.vz b (λo c d=>Rq d (b.G 61) rfl) λa b=> ?_;rw[n]at b;refine aP.vz b (λo c d=>Rz d (b.G 60) (b.G 62)) λa b=> ?_;refine aP.vz b (λo c d=>ue d (b.G 58) (b.G 63)) λa b=> ?_
 iterate 2 refine aP.uz b λa b=> ?_
 exact aP.fin2 b func21 rfl (A x y.heap.size F (((Ex.of_below i).trans v o_).trans (Ex.of_below (X:=λ_=>False) u) s_) o_ z)
end
def M3(w)(Z):Ls w Z (.slice none 0 0) (.slice none 0 0) [] []:=⟨⟨rfl, .inl ⟨rfl,rfl⟩⟩,⟨rfl, s_⟩,rfl,s_,s_,λb h=>(by cases h),s_⟩
def MA{q}{L}(d:L.size<4611686018427387904)(hq:L.size<=q)(h:w.heap[b]?=some (xC L q)):qP w (.sk b L.size q) L:=⟨d,b,q,_,_,rfl,hq,h,by simp[bytesRow],λj c=>by
 have a:j<L.data.size:=o_
 rw[bytesRow_at L q j a,Array.getElem_toList]⟩
def T7{q}{kp}(c:kp.size=16)(hq:16<=q)(h:w.heap[b]?=some (xC kp q)):Bo w b q (Ha kp):=⟨QZ c,hq,_,_,h,by
 have:=c;simp[bytesRow];omega,λj d=>by
 have a:j<kp.data.size:=by rw[←au3];simpa[Ha]using d
 rw[bytesRow_at kp q j a];simp[Ha]⟩
def Fj{l}{r}(h:w.heap[b]?=some (.cells (bS l++r).toArray 3)):pN w b l:=⟨_,h,λi x a=>by
 have c:i<(bS l).length:=by simpa[bS]using(as4.1 a).1
 rw[Va,as9 c];simp[bS,a]⟩
def qv{cs}{fr}(h:∀a,aV 2 D id a->∀v∈cs,aE a v=v):pK D (.cells cs t fr):=⟨rfl,λa b=>by
 show Obj.cells (cs.map (aE a)) t fr=_
 congr 1
 grind⟩
def RY{q}:pK D (xC s q):=qv λb _ v a=>by simp[bytesRow,Array.mem_append,Array.mem_map,Array.mem_replicate]at a;rcases a with⟨x,_,rfl⟩|⟨_,rfl⟩<;>simp[aE]
def VN{l}{r}(h:∀v∈r,bW v=true):pK D (.cells (bS l++r).toArray t):=qv λb _ v a=>by
 simp[V2,av1,bS,ZA]at a;obtain⟨x,_,rfl⟩|a:=a
 .simp[aE]
 .exact eA b v (h v a)
section
variable{S:Nat->Prop}{c':Frame}{cs':List Frame}{W:World}{l:List Int}{p:Option Addr}{q hb hq tb tq:Nat}{L kp:ByteArray}
def Hd.far(d:Hd W S D w)(hv:fm W (.slice p l.length q) (bS l)):∀ad,p=some ad->l≠[]->¬S ad.block:=λad e b h=>by have⟨g,a,c⟩:=Gl hv (az2.2 b);rw[e]at a;cases a;have f:=B0 c;rw[addBlock]at f;have:=d.shun _ h;omega
def BgE(D:Nat->Prop)(pb hb hq tb tq:Nat)(l:List Int)(kp L:ByteArray)(w:World):Prop:=w.heap[pb]?=some (.cells #[.pointer none, .pointer none, .slice none 0 0, .slice none 0 0] 60)\/(g6 l/\∃lb cb fb fq rb fr frq wb qw kb qk,(D lb/\D cb/\D fb/\D rb/\D fr/\D wb/\D kb)/\jK w pb lb cb fb fq rb fr frq wb qw kb qk hb hq tb tq vm l (Ha kp) L false 0 false 0 (.slice none 0 0) (.slice none 0 0) [] [])
def N8(hL:L.size<4611686018427387904)(hl:l.length<=17592186044412)(hv:fm W (.slice p l.length q) (bS l))(hH:Hd W S D w)(dh:D m)(dt:D tb)(K:w.heap[m]?=some (.cells (bA H0).toArray 3))(H:w.heap[tb]?=some (.cells (bA vm).toArray 3))
 (next:∀(S' D':Nat->Prop) w' y,Hd W S' D' w'->(∀b,D b->D' b)->D' y->BgE D' y m hq tb tq l kp L w'->aP tP Post S' (cD (c'.finish (.tuple #[.pk y 0, .bool true])) cs') w'):
 aP tP Post S (bT tP 21 #[.agg #[.sk m 8 hq, .sk tb 64 tq], .s L, .slice p l.length q, .s kp] (c'::cs')) w:=by
 refine aP.low λhS=> ?_;refine aP.ent (N:=65) func21 Ug λa d=> ?_;have lh:=aK K;have lt:=aK H;refine aP.bx d λY a b1 c1 z1 d=> ?_;obtain⟨H1,o1,_⟩:=hH.made hS b1 c1
 iterate 3 refine aP.uz d λa d=> ?_
 refine aP.cc d func45 λc2 a8 P=>EF hl (hv.below H1.old) (H1.far hv) λi b2 z z2 B=>P S i _ λa d=> ?_;obtain⟨H2,og,ko⟩:=H1.made (λr hr=>by grind) b2 z;have G:=(ko _ _ o1).lend (x:=Y.heap.size) o_;have E:=H2.lend og (VN λv hv=>by have:v∈(Bu 4).toList:=hv;simp only[Bu,av1,aM1]at this;rcases this with⟨_,rfl⟩|⟨_,rfl⟩<;>rfl)
 iterate 4 refine aP.uz d λa d=> ?_
 have a7:=E.old.size;refine aP.cc d func46 λc3 a6 s=>Po z B (λh0=>s S i _ λa d=> ?_) λO J g fq Q a3 f3 h3 l3 z3=>s S g _ λa d=> ?_
 .iterate 5 refine aP.uz d λa d=> ?_
  refine aP.lv d G.lies G.ours (λo c ho=>H6 (w:=i.at c) rfl ho (d.G 4) G.lies) λa d=> ?_
  iterate 3 refine aP.uz d λa d=> ?_
  refine aP.cc d func47 λc4 M j=>yX (hv.below E.old) (E.far hv) (λ_ X u=>j S X _ λa d=> ?_) λO J=>absurd ⟨O,J⟩ h0
  iterate 5 refine aP.uz d λa d=> ?_
  refine aP.plain rfl (xz (pl:=none) (pr:=none) (e:=11) hl hv (E.far hv) (E.bel u) (.inr rfl) B (bk u z) rfl (λV y H5 t a1 R=> ?_) d.O);exact next S (λb=>(D b\/b=Y.heap.size)\/b=y) V y (H5.lend R (qv λf _ v hv=>by simp only[V2,V4,PI,or_false]at hv;rcases hv with rfl|rfl|rfl|rfl<;>simp[aE])) (λb m=> .inl (.inl m)) (.inr rfl) (.inl R.lies)
 .have T:=E.bel Q;have o3:=bk Q G.lies
  iterate 5 refine aP.uz d λa d=> ?_
  refine aP.lv d o3 G.ours (λo c ho=>H6 (w:=g.at c) rfl ho (d.G 4) o3) λa d=> ?_
  iterate 3 refine aP.uz d λa d=> ?_
  refine aP.cc d func47 λc4 M j=>yX (hv.below T.old) (T.far hv) (λhn=>absurd ⟨O,J⟩ hn) λ_ _ X a5 qk qw k u f4 a2 k4 a0 r4 U z4=>j S X _ λa d=> ?_
  iterate 5 refine aP.uz d λa d=> ?_
  refine aP.plain rfl (xz (pl:=some ⟨i.heap.size+2,0,none⟩) (pr:=some ⟨g.heap.size+3,0,none⟩) (e:=0) hl hv (T.far hv) (T.bel u) (.inr rfl) B (bk u (bk Q z)) rfl (λV y H5 t a1 R=> ?_) d.O);have A:∀b,i.heap.size<=b->¬S b:=λb m h=>by grind
  have F5:=t.at o_ (bk u f3);have C5:=t.at o_ (bk u h3);have L5:=t.at o_ (bk u l3);have f5:=t.at o_ f4;have k5:=t.at o_ k4;have r5:=t.at o_ r4;have F:=t.at o_ U;have a4:=t.at o_ (bk u (bk Q (bk b2 (bk b1 K))));have Z:=t.at o_ (bk u (bk Q (bk b2 (bk b1 H))));have I:=R.lies;refine next S (λb=>(D b\/b=Y.heap.size)\/((b=i.heap.size\/b=i.heap.size+1\/b=i.heap.size+2)\/(b=g.heap.size+1\/b=g.heap.size+2\/b=g.heap.size+3\/b=g.heap.size+4\/b=y))) V y (H5.more λb m=> ?_) (λb m=> .inl (.inl m)) s_ (.inr ⟨O,i.heap.size+2,i.heap.size+1,i.heap.size,fq,g.heap.size+3,g.heap.size+1,a5,g.heap.size+4,qw,g.heap.size+2,qk,s_,I,L5,⟨O.1,QZ J,C5⟩,MA hL a3 F5,r5,MA hL a2 f5,Fj F,T7 J a0 k5,Fj (r:=[]) (by rw[ax_];exact a4),Fj (r:=[]) (by rw[ax_];exact Z),M3 _ _,o_,o_⟩)
  rcases m with(rfl|rfl|rfl)|rfl|rfl|rfl|rfl|rfl
  .exact⟨o_,A _ o_,_,F5,RY⟩
  .refine⟨o_,A _ o_,_,C5,qv λf n v hv=> ?_⟩;have C:f i.heap.size=i.heap.size:=n.2 _ s_;simp only[qj,V2,V4,av1,ZA,PI,or_false]at hv;rcases hv with rfl|⟨x,_,rfl⟩|⟨x,_,rfl⟩|rfl|rfl<;>simp[aE,bB,C]
  .refine⟨o_,A _ o_,_,L5,qv λf n v hv=> ?_⟩;have C:f (i.heap.size+1)=i.heap.size+1:=n.2 _ s_;simp only[V2,V4,PI,or_false]at hv;rcases hv with rfl;simp[aE,bB,C]
  .exact⟨o_,A _ o_,_,f5,RY⟩
  .exact⟨o_,A _ o_,_,k5,RY⟩
  .refine⟨o_,A _ o_,_,r5,qv λf n v hv=> ?_⟩;have C:f m=m:=n.2 _ (.inl (.inl dh));have e2:f tb=tb:=n.2 _ (.inl (.inl dt));have e3:f (g.heap.size+1)=g.heap.size+1:=n.2 _ s_;have e4:f (g.heap.size+4)=g.heap.size+4:=n.2 _ s_;have e5:f (g.heap.size+2)=g.heap.size+2:=n.2 _ s_;simp only[oP,V2,V4,PI,or_false]at hv;rcases hv with rfl|rfl|rfl|rfl|rfl|rfl|rfl<;>simp[aE,bB,C,e2,e3,e4,e5]
  .exact⟨o_,A _ o_,_,F,VN λv hv=>by rw[(aM1.1 hv).2];rfl⟩
  .refine⟨o_,A _ o_,_,I,qv λf n v hv=> ?_⟩;have C:f (i.heap.size+2)=i.heap.size+2:=n.2 _ s_;have e2:f (g.heap.size+3)=g.heap.size+3:=n.2 _ s_;simp only[V2,V4,PI,or_false]at hv;rcases hv with rfl|rfl|rfl|rfl<;>simp[aE,bB,C,e2]
end
structure qs (F:List (Nat×Value)) (N:Nat) (ds:List Deferred) (a:Act):Prop extends Has F N ds a where
 rest:∀d v,F.lookup d=none->a.tmps[d]?=some v->v=undef
def qs.putU(h:qs F N ds a){d}(g:d<N)(v):qs ((d,v)::F) N ds (a.put (some d) v):=by
 refine⟨h.toHas.put g v,λe u f c=> ?_⟩;by_cases b:e=d
 .simp_all
 .have i:(e==d)=false:=by simpa using b
  simp only[ZU,i]at f;have c:(a.tmps.setIfInBounds d v)[e]?=some u:=c;rw[sN o_]at c;exact h.rest e u f c
def qC:∀L k d,(gC k L).lookup d=none->d<k\/k+L.length<=d
 |[],k,d,_=>by simp;omega
 |u::L,k,d,h=>by
  by_cases a:d=k
  .subst a;simp[gC]at h
  .have b:(d==k)=false:=(by simpa using a);simp only[gC,ZU,b]at h;have:=qC L (k+1) d h
   grind
def Fp(L)(N)(h:L.length<=N):qs (gC 0 L) N [] ⟨L.toArray++ar6 (N- L.toArray.size) undef,[]⟩:=by
 refine⟨aN L N h,λd v b a=> ?_⟩;have c:=qC L 0 d b
 grind
def PK{D0}(j:qs F N [] a)(c:dY f=2)(h:∀p∈F,qH 2 p.1=true\/∀b,aV 2 D0 id b->aE b p.2=p.2)(n:∀b,K.map (dx b)=K):∀b,aV 2 D0 id b->(base f).atR a K=bF b ((base f).atR a K):=by
 intro b o;have l:jX b f a.tmps=a.tmps:=by
  apply Array.ext_getElem?;intro i;cases d:qH 2 i with
  |true=>rw[lN b f a.tmps i (c▸d),c];cases a.tmps[i]?<;>rfl
  |false=>
   rw[fW b f a.tmps i (c▸d)];cases k:a.tmps[i]? with
   |none=>rfl
   |some v=>
    show some (aE b v)=some v;cases g:F.lookup i with
    |none=>rw[j.rest i v g k,gh]
    |some u=>
     have e:=j.slot i u g;rw[k]at e;cases e;rcases h _ (rl g)with h|h
     .simp_all
     .rw[h b o]
 unfold bF Frame.atR;show _=({fn:=f,tmps:=jX b f a.tmps,todo:=K.map (dx b),defers:=a.defers.map (kR b),mode:= .run,kind:= .normal,roundOf:=none}:Frame);rw[l,n,j.defers];rfl
section
variable{S:Nat->Prop}{b:Frame}{k:List Item}
def aP.vU(t:qs F N ds a)(d:Tmp)(p)(r:∀o c,o.op=p->∃v w',(execOp a.eval o).run P (w.at c)= .ok (.value v) w'/\w.heap.size<=w'.heap.size/\(∀e∈(execOp a.eval o).events P (w.at c) #[],EvL (dq S) w'.heap.size e)/\∀a',qs ((d,v)::F) N ds a'->aP P Post S (cD (b.atR a' (.inRegion ops rest::k)) cs) w')
 (s:d<N:=by decide) (h:(ops[m]?).map (λo=>(o.dst,o.op,o.guard))=some (some d,p,none):=by kernel_rfl) (f:∀c,p≠ .defer c:=by simp):aP P Post S (cD (b.atR a (.inRegion ops (m::rest)::k)) cs) w:=by have⟨o,g,x,i,u⟩:=ng h;refine aP.oper g (by simp[Region.wanted,u]) (λc=>by simp_all) λc=> ?_;have⟨v,w',q,n,l,j⟩:=r o c i;refine⟨.value v,w',q,rfl,n,l, ?_⟩;show aP P Post S (cD ((b.atR a (.inRegion ops (m::rest)::k)).finish v) cs) w';rw[Frame.finish_atR,g,Option.bind_some,x];exact j _ (t.putU s v)
def aP.nU(r:qs F N ds a)(p)(q:∀o c,o.op=p->∃w',(execOp a.eval o).run P (w.at c)= .ok .skip w'/\w.heap.size<=w'.heap.size/\(∀e∈(execOp a.eval o).events P (w.at c) #[],EvL (dq S) w'.heap.size e)/\∀a',qs F N ds a'->aP P Post S (cD (b.atR a' (.inRegion ops rest::k)) cs) w')
 (h:(ops[m]?).map (λo=>(o.dst,o.op,o.guard))=some (none,p,none):=by kernel_rfl) (d:∀c,p≠ .defer c:=by simp):aP P Post S (cD (b.atR a (.inRegion ops (m::rest)::k)) cs) w:=by have⟨o,f,t,g,s⟩:=ng h;refine aP.oper f (by simp[Region.wanted,s]) (λc=>by simp_all) λc=> ?_;have⟨w',n,l,j,i⟩:=q o c g;refine⟨.skip,w',n,rfl,l,j, ?_⟩;show aP P Post S (cD ((b.atR a (.inRegion ops (m::rest)::k)).finish undef) cs) w';rw[Frame.finish_atR,f,Option.bind_some,t];exact i _ r
def aP.yU(i:qs F N ds a)(d:Tmp)(p)(j:∀o c,o.op=p->Yl P a.eval o (w.at c) v es)(g:∀e∈es,EvL (dq S) w.heap.size e)(next:∀a',qs ((d,v)::F) N ds a'->aP P Post S (cD (b.atR a' (.inRegion ops rest::k)) cs) w)
 (q:d<N:=by decide) (h:(ops[m]?).map (λo=>(o.dst,o.op,o.guard))=some (some d,p,none):=by kernel_rfl) (f:∀c,p≠ .defer c:=by simp):aP P Post S (cD (b.atR a (.inRegion ops (m::rest)::k)) cs) w:=
 aP.vU i d p (λo c l=>⟨v,w.at c,(j o c l).1,Nat.le_refl _,λe n=>g e (by rw[(j o c l).2]at n;exact n),λa i=>(next a i).at c⟩) q h f
def aP.mU(g:qs F N ds a)(d)(x){p}(f:p= .move x\/p= .assign x)(j:a.eval x=v)
 (next:∀a',qs ((d,v)::F) N ds a'->aP P Post S (cD (b.atR a' (.inRegion ops rest::k)) cs) w) (n:d<N:=by decide) (h:(ops[m]?).map (λo=>(o.dst,o.op,o.guard))=some (some d,p,none):=by kernel_rfl):aP P Post S (cD (b.atR a (.inRegion ops (m::rest)::k)) cs) w:=by
 refine aP.vU g d p (λo c l=> ?_) n h (λc e=>by simp_all);have i:o.op= .move x\/o.op= .assign x:=by rwa [l]
 exact⟨v,w.at c,by rw[cy i,j],Nat.le_refl _,iT (Hz i),λa g=>(next a g).at c⟩
def Dj(f:qs F N ds a)(d:Nat){p}(h:(ops[m]?).map (λo=>(o.dst,o.op,o.guard))=some (some d,p,none))(e:d<N)
 (next:∀a',qs ((d,v)::F) N ds a'->aP P Post S (cD (b.atR a' (.inRegion ops rest::k)) cs) w):aP P Post S (cD ((b.atR a (.inRegion ops (m::rest)::k)).finish v) cs) w:=by
 cases c:ops[m]? with
 |none=>simp_all
 |some o=>
  rw[c]at h;simp at h;rw[Df,c,IS,h.1];exact next _ (f.putU e v)
end
def Kl{m o u t A k fr g i x p y r hq j tq}{V K}{L}{on}{sl}{v}{rs}(h:jK w m o u t A k fr g i x p y r hq j tq KS V K L on sl v rs (.slice none 0 0) (.slice none 0 0) [] [])(a:∀b,D b->w'.heap[b]?=w.heap[b]?)(S:D m)(T:D o)(X:D u)(df:D t)(R:D k)(Y:D fr)(P:D i)(U:D p)(W:D r)(Q:D j):
 jK w' m o u t A k fr g i x p y r hq j tq KS V K L on sl v rs (.slice none 0 0) (.slice none 0 0) [] []:=by
 have n:∀{b:Nat} {l:List Int},D b->pN w b l->pN w' b l:=λd ⟨c,J,s⟩=>⟨c,(a _ d).trans J,s⟩;have z:∀{b q:Nat},D b->qP w (.sk b L.size q) L->qP w' (.sk b L.size q) L:=λd G=>by have⟨M,b',q',e,f,O,s,I,H⟩:=G;cases O;exact⟨M,_,_,e,f,rfl,s,(a _ d).trans I,H⟩
 have⟨F,E,Z,N,C,B⟩:=h.kpt;exact⟨(a _ S).trans h.pr,(a _ T).trans h.lin,⟨h.ch.1,h.ch.2.1,(a _ X).trans h.ch.2.2⟩,z df h.fls,(a _ R).trans h.ref,z Y h.rfs,n P h.wds,⟨F,E,Z,N,(a _ U).trans C,B⟩,n W h.hsh,n Q h.tab,M3 _ _,h.nk⟩
def XF(a)(h:a.defers=[]):jk ((base 5).atR a [.code (IC Tryz.f5)]):=⟨⟨by rw[show((base 5).atR a [.code (IC Tryz.f5)]).defers=[]from h];rfl,rfl, .inl rfl,λ_=>rfl⟩,k_⟩
section
variable{W:World}{l:List Int}{p:Option Addr}{q:Nat}{L kp:ByteArray}
def Wb(s:2<=W.heap.size)(hT:Tb W)(hL:L.size<4611686018427387904)(hl:l.length<=17592186044412)(hv:fm W (.slice p l.length q) (bS l))(hP:∀w',Bw W w'->Post (.bool true) w'):
 aP tP Post (λ_=>False) (bT tP 5 #[.s L, .slice p l.length q, .s kp] []) W:=by
 show aP tP Post (λ_=>False) (cD (as7 tP 5 ([.s L, .slice p l.length q, .s kp]:List Value).toArray .normal) []) W;rw[aT (N:=45) [.s L, .slice p l.length q, .s kp] func5 TZ rfl];have d:=Fp [.s L, .slice p l.length q, .s kp] 45 s_;refine aP.plain rfl (aP.region (L:=[0]) rfl ?_);refine aP.mU d 6 (.const (.bool false)) (p:= .assign (.const (.bool false))) s_ rfl λa d=> ?_;refine aP.plain rfl (aP.plain rfl (aP.region (L:=[0,1,2]) rfl ?_));refine aP.enter 13 (.call {callee:= .value (.func 8),args:=#[],argTypes:=#[]}) (args:=#[]) (λo c n=>bI n s_ (rI (P:=tP) func8 _)) ?_;refine Mi s_ λi b1 E m z1=>Dj d 13 (p:= .call {callee:= .value (.func 8),args:=#[],argTypes:=#[]}) k_ d_ λa d=>aP.vU d 7 (.alloc 26) λo c n=>⟨_,_,(sK n).1,by rw[aJ];exact aA6 _,iT (sK n).2,λa d=> ?_⟩;have Q:Bw i ((i.at c).alloc (.cells #[.slice none 0 0, .slice none 0 0] 26)):=(fC i c).trans (aR (i.at c) _);have K:((i.at c).alloc (.cells #[.slice none 0 0, .slice none 0 0] 26)).heap[i.heap.size]?=_:=aY (i.at c) (.cells #[.slice none 0 0, .slice none 0 0] 26);have z2:((i.at c).alloc (.cells #[.slice none 0 0, .slice none 0 0] 26)).heap.size=i.heap.size+1:=aJ (i.at c) _;have d:qs [(7, .pt i.heap.size),(13, .agg #[.sk (W.heap.size+1) 8 8, .sk (W.heap.size+2) 64 64]),(6, .bool false),(0, .s L),(1, .slice p l.length q),(2, .s kp)] 45 [] a:=d;revert Q K z2;generalize (i.at c).alloc (.cells #[.slice none 0 0, .slice none 0 0] 26)=y;intro Q K z2;have E:=bk Q E;have m:=bk Q m;refine aP.nU d (.store 26 (.tmp 7) (.tmp 13)) λo c n=> ?_;have A:=CI (w:=y.at c) (u:= .sk (W.heap.size+1) 8 8) (v:= .sk (W.heap.size+2) 64 64) rfl rfl n (d.G 7) (d.G 13) K;rw[lR (w:=y.at c) K]at A;refine⟨_,A.1,ay9 dE.symm,iF λe B=>let ⟨k,m⟩:=A.2 e B;⟨_,_,m,by show i.heap.size<_;rw[dE];show i.heap.size<y.heap.size;omega,λh=>h⟩,λa d=> ?_⟩;clear A;have O:=bZ (w:=y.at c) (cs:=#[.sk (W.heap.size+1) 8 8, .sk (W.heap.size+2) 64 64]) (t:=26) K;have G:Ex (· =i.heap.size) y (gK (y.at c) i.heap.size #[.sk (W.heap.size+1) 8 8, .sk (W.heap.size+2) 64 64] 26):=(Ex.of_below (fC y c)).trans (dn _ _ _) o_;revert O G;generalize gK (y.at c) i.heap.size #[.sk (W.heap.size+1) 8 8, .sk (W.heap.size+2) 64 64] 26=T;intro O G;have E:=G.at o_ E;have m:=G.at o_ m;have R:Ex (λ_=>False) W T:=((Ex.of_below b1).trans (Ex.of_below (X:=λ_=>False) Q) s_).trans G o_;have B3:Bw W T:=⟨R.os,R.tape,R.output,R.size,λb F=>R.block b F λe=>e⟩;have H3:Hd W (λ_=>False) (λb=>(λ_=>False) b\/(b=W.heap.size+1\/b=W.heap.size+2\/b=i.heap.size)) T:=Hd.more (D:=λ_=>False) ⟨s,B3,s_,s_⟩ λb F=>by
  rcases F with rfl|rfl|rfl
  .exact⟨o_,λh=>h,_,E,qv λf _ v hv=>by simp only[V2,bA,ZA]at hv;obtain⟨x,_,rfl⟩:=hv;simp[aE]⟩
  .exact⟨o_,λh=>h,_,m,qv λf _ v hv=>by simp only[V2,bA,ZA]at hv;obtain⟨x,_,rfl⟩:=hv;simp[aE]⟩
  .refine⟨o_,λh=>h,_,O,qv λf hA v hv=> ?_⟩;have e1:f (W.heap.size+1)=W.heap.size+1:=hA.2 _ o_;have e2:f (W.heap.size+2)=W.heap.size+2:=hA.2 _ o_;simp only[V2,V4,PI,or_false]at hv;rcases hv with rfl|rfl<;>simp[aE,bB,e1,e2]
 refine aP.plain rfl (aP.plain rfl (aP.region (L:=[0,1,2,3,4,5,6,7,8,9]) rfl ?_));refine aP.vU d 15 (.load 26 (.tmp 7)) λo c n=> ?_;have A:=H6 (w:=T.at c) rfl n (d.G 7) O;refine⟨_,_,A.1,ar5 _,iF λe B=>let ⟨k,m⟩:=A.2 e B;⟨_,_,m,aK O,λh=>h⟩,λa d=>aP.at ?_ c⟩;clear A;refine aP.mU d 16 (.tmp 0) (p:= .move (.tmp 0)) s_ (d.G 0) λa d=> ?_;refine aP.mU d 17 (.tmp 1) (p:= .move (.tmp 1)) s_ (d.G 1) λa d=> ?_;refine aP.mU d 18 (.tmp 2) (p:= .move (.tmp 2)) s_ (d.G 2) λa d=> ?_;refine aP.enter 19 (.call {callee:= .value (.func 21),args:=#[.tmp 15, .tmp 16, .tmp 17, .tmp 18],argTypes:=#[26,9,24,9]}) (args:=#[.agg #[.sk (W.heap.size+1) 8 8, .sk (W.heap.size+2) 64 64], .s L, .slice p l.length q, .s kp]) (λo c n=>bI n (by simp only[aB7,JS,aE3,d.G 15,d.G 16,d.G 17,d.G 18]) (rI (P:=tP) func21 _)) ?_;refine N8 (hq:=8) (tq:=64) hL hl hv H3 o_ o_ E m λS D w I H C U J=>Dj d 19 (p:= .call {callee:= .value (.func 21),args:=#[.tmp 15, .tmp 16, .tmp 17, .tmp 18],argTypes:=#[26,9,24,9]}) k_ d_ λa d=>aP.mU d 14 (.tmp 19) (p:= .move (.tmp 19)) s_ (d.G 19) λa d=> ?_;refine aP.yU d 20 (.extract (.tmp 14) 0) (λo c n=>KM n (d.G 14) rfl) s_ λa d=> ?_;refine aP.yU d 21 (.extract (.tmp 14) 1) (λo c n=>KM n (d.G 14) rfl) s_ λa d=> ?_;refine aP.mU d 8 (.tmp 20) (p:= .assign (.tmp 20)) s_ (d.G 20) λa d=> ?_;refine aP.mU d 9 (.tmp 21) (p:= .assign (.tmp 21)) s_ (d.G 21) λa d=> ?_;refine aP.plain rfl ?_;have dh:=C _ (.inr (.inl rfl));have dt:=C _ (.inr (.inr (.inl rfl)));have d7:=C _ (.inr (.inr (.inr rfl)));have h2:2<=w.heap.size:=as8 s H.old.size;refine XP (fr:=(base 5).atR a [.code (IC Tryz.f5)]) (D0:=D) (r:=6) (v:= .bool true) (KS:=vm) func5 rfl rfl k_ rfl (XF a d.defers) (gT λa1 k e=>by cases e)
  (PK d rfl (λx hx=> ?_) λ_=>rfl) h2 (λb F=>by
    obtain xQ:=H.own b F
    grind) (λr hr=>as8 s (H.shun r hr)) (λj v hj=>bM H.old (hT.rng j v hj)) iz (by obtain⟨cl,e,z,Y,V⟩:=hT.obj;exact⟨cl,e,z,Y,(H.old.block 0 o_).trans V⟩) (λwL k1 k2 k3=> ?_) λw' g1 g2 Z=> ?_
 .have e1:∀f:Nat->Nat,aV 2 D id f->f (W.heap.size+1)=W.heap.size+1:=λf h=>h.2 _ dh;have e2:∀f:Nat->Nat,aV 2 D id f->f (W.heap.size+2)=W.heap.size+2:=λf h=>h.2 _ dt;have e3:∀f:Nat->Nat,aV 2 D id f->f i.heap.size=i.heap.size:=λf h=>h.2 _ d7;have e4:∀f:Nat->Nat,aV 2 D id f->f I=I:=λf h=>h.2 _ U;simp only[V4,PI,or_false]at hx;rcases hx with rfl|rfl|rfl|rfl|rfl|rfl|rfl|rfl|rfl|rfl|rfl|rfl|rfl|rfl|rfl|rfl
  all_goals first
   |exact .inl rfl
   |exact .inr λf h=>by simp[aE,bB,e1 f h,e2 f h,e3 f h,e4 f h]
 .have M:∀(a:Act) (k:List Item) (w':World),Has [(6, .bool true)] 45 [] a->Rn lT (λg w'=>vl 5 6 (.bool true) g w'/\∃a0,g=cD a0 []) ((base 5).atR a (.code .ret::k)) [] w':=λa k w' d=>Rn.ends rfl s_ (Rn.now ⟨⟨rfl,rfl,d.defers,rfl,rfl,rfl,rfl,d.slot 6 _ rfl⟩,_,rfl⟩);rcases J with J|⟨hW,lb,cb,fb,fq,rb,fr,a2,wb,qw,kb,qk,⟨dl,dc,df,dr,dR,dw,dk⟩,J⟩
  .exact LO ((k3 I U).trans J) (λa k d=>M a k _ d) (d.toHas.O)
  .have c0:W.heap.size<=cb:=(H.own cb dc).1;have p0:W.heap.size<=I:=(H.own I U).1;exact Jo P9 iz NX hW (Kl J k3 U dl dc df dr dR dw dk dh dt) (aB0 _) o_ k1 (λe=>e.elim (λe=>o_) λe=>e.elim (λe=>by cases e) λe=>by cases e) M (d.toHas.O)
 .exact hP w' ⟨Z.1.trans H.old.os,Z.2.2.trans H.old.tape,Z.2.1.trans H.old.output,as8 H.old.size g1,λk m=>(g2 k (ar4 m H.old.size) (λh=>aw5.2 (H.own k h).1 m) λh=>aw5.2 (H.shun k h) m).trans (H.old.block k m)⟩
end
end
end Go.Proofs.YtkmoglhgkcnalaaGreatDoor
