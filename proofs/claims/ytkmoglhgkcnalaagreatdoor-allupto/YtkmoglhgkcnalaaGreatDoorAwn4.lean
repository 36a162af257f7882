/- A part of what the last text of the claim imports: texts laid together, without remarks and blanks, by a program. -/
import Derived.Lib.Builder
import Derived.Test.YtkmoglhgkcnalaaGreatDoorAwn3
set_option maxHeartbeats 16000000
set_option maxRecDepth 100000
open Array renaming getElem?_eq_some_iff->av9,getElem?_setIfInBounds_ne->aw_,length_toList->ax1,getElem?_setIfInBounds_self_of_lt->ax6,replicate->ay3,getElem?_modify->By,getElem?_toList->aA9,size_map->aK4,toArray_toList->aL8,toList_map->aM4,ext_getElem?->aW6
open Bool renaming and_eq_true->aB1,or_eq_false_iff->aM_,true_and->aN2,toNat_lt->aP7,not_eq_true->aS0,false_and->aU9,true_or->aX6,or_true->aX7
open ByteArray renaming size_extract->aw6,size_append->ax3,ext->aR2
open Go.Act renaming put->aG9
open Go.Addr renaming add_mid->az3,add->aF6
open Go.Builtin renaming copy_->aJ8,len_->aM1,min_->aT_
open Go.ByteArray renaming toList_eq->aN_
open Go.Ending renaming returned->aB2
open Go.Frame renaming enter->ay2,finish_atR->aA6,round->aH4
open Go.Instr renaming fieldAt->aw1,buildSlice->ax5,build->ax9,sliceBounds->ay6,sliceBound->ay8,loadAt->ay9,alloc->az0,sliceAt->az5,slice->aD8,makeSlice->aH9,storeAt->aJ7,indexAt->aN1,index->aO0
open Go.IntKind renaming i64->ax8,u64->az1,u8->aB3
open Go.Lib renaming IsBuilder->aK0,byteCells->aN4,BuilderAt->aR3,strCells->aT4,byteCells_length->aV_
open Go.Operand renaming tmp->aH5
open Go.RowKit.Below renaming refl->aw8
open Go.Value renaming oneCell'->ax4
open Go.World renaming cell?->ay_,setCell->IT,frozen?->az2,cell?_of_block->aE7,drew->aW5
open Int renaming eq_ofNat_of_zero_le->ay0,natCast_pow->ay1,natCast_add->aA8,toNat_of_nonneg->aB7,toNat_natCast->aE3,one_mul->aG3,not_le->aT3
open List renaming getElem?_eq_getElem->aw3,getD_eq_getElem?_getD->aw4,getElem?_eq_some_iff->aw5,range->ax_,take_of_length_le->ay5,setIfInBounds_toArray->AI,size_toArray->AT,length_append->BY,getElem?_append_left->If,set_append_right->aA0,all_eq_true->aA7,map_append->aC1,length_take->aC2,getElem?_map->aC5,drop_eq_nil_of_le->aC6,getElem?_take->aC8,drop_eq_getElem_cons->aE_,length_map->aF_,flatMap_cons->aF3,getElem?_drop->aG1,drop_of_length_le->aL1,mem_map->aM2,drop_append->aM7,map_set->aO7,set_cons_succ->aQ9,length_drop->aS1,take_succ_cons->aV6,drop_succ_cons->aV7,length_set->aY9
open Nat renaming le_refl->aw0,lt_of_lt_of_le->aw2,zero_add->aw9,pow_le_pow_right->OF,zero_le->ay7,le_trans->az_,div_le_self->aF9,lt_of_le_of_lt->aG2,and_lt_two_pow->aJ0,or_lt_two_pow->aJ6,pow_succ->aL0,add_assoc->aN3,one_le_two_pow->aN9,lt_or_ge->aO4,le_of_eq->aT2,testBit_and->aT7,pow_pos->aU8,mul_comm->aX5,and_le_left->aZ_,testBit_or->aZ6
open Ne renaming symm->aA3
open Option renaming map_eq_some_iff->IS,bind_some->aD6
set_option linter.all false
open Go.Proofs.Tryz
open Go
variable{B N b b2 b3 b4 b5 b7 bh bs bu cb g gb i j k l m n q r sh:Nat}{F fx:List (Nat×Value)}{Goal:Goroutine->World->Prop}{K k':List Item}{KS:List Int}{L Xn msg s seed sig:ByteArray}{P:Program}{X:Nat->Prop}{a:Act}{ad:Addr}{args cv:Array Value}{c qi sl:Int}{cf fr:Frame}{cs:List Frame}{d:Tmp}{df ds:List Deferred}{ev:Operand->Value}{f:FuncId}{fn:Func}{gd:Option (Nat×Bool)}{o:Oper}{ops:Array Oper}{p:Op}{rest:List Nat}{t' tt ty:TypeId}{v:Value}{w w' Tm w0:World}{x y z:Operand}{xs:List Value}
namespace Go.Proofs.YtkmoglhgkcnalaaGreatDoor.L1
open Go Go.Conc Go.RowKit Go.Proofs.YtkmoglhgkcnalaaGreatDoor
theorem OW:f15.body=some (.seq (rG f15 0) (.seq (.seq (rG f15 1) (.cond (.tmp 16) (.seq (rG f15 2) .ret) .skip)) (.seq (rG f15 3) (.seq (.seq (rG f15 4) (.cond (.tmp 26) (.seq (rG f15 5) .ret) .skip))
 (.seq (.seq (rG f15 6) (.cond (.tmp 38) (.seq (rG f15 7) .ret) .skip)) (.seq (rG f15 8) (.seq (rG f15 9) (.seq (.seq (rD f15 10) (.cond (.tmp 64) (.seq (rG f15 11) .ret) .skip))
 (.seq (rD f15 12) (.seq (.seq (rG f15 13) (.cond (.tmp 84) (.seq (rG f15 14) .ret) .skip)) (.seq (rG f15 15) .ret))))))))))):=by kernel_rfl
theorem BK{key:ByteArray}(Y9:key.size=56):(decide (((hK key:Nat):Int)>0)&&decide (((wK key:Nat):Int)>0))=true↔gl key:=by
 unfold gl hK wK;simp only[aB1,decide_eq_true_eq];constructor
 .rintro⟨h1,h2⟩;exact⟨Y9,by omega,by omega⟩
 .rintro⟨_,h1,h2⟩;exact⟨by omega,by omega⟩
theorem wy(SY:KS.length=64)(Te:iS KS)(key msg sig:ByteArray)(hm:msg.size<=281474976706560)(hk:key.size<=1125899906842624)(hs:sig.size<=1125899906842624)(w:World)(hC:jl KS cv w):
 Cl kX 15 #[.agg cv,.string key,.string msg,.string sig] w λe w'=>∃c,e=.returned (.int .i64 c)/\qE KS key msg sig c/\Bw w w':=by
 refine az (N:=85) func15 OW λcs a J=>?_;refine dw J λw1 a SZ h4 _ J=>?_;have VA:=hC.mono SZ;refine ab J λa J=>?_;have out:∀(id:Nat) (c:Int) (a:Act) (w':World) (F:List (Nat×Value)) (k:List Item),qE KS key msg sig c->Bw w w'->aB F 85 [] a->ax_ (bM f15 id).size=[0]->((bM f15 id)[0]?).map (λo=>(o.dst,o.op,o.guard))=some (some 8,.assign (.const (.int .i64 c)),none)->
  Rn kX (λg w'=>∃(a:Act) (k:List Item) (v:Value),g=dj {(base 15).atR a k with mode:=.returning} cs/\a.defers=[]/\a.tmps[8]?=some v/\∃c,aB2 v=aB2 (.int .i64 c)/\qE KS key msg sig c/\Bw w w') ((base 15).atR a (.code (.seq (rG f15 id) .ret)::k)) cs w':=by
  intro id c a w' F k hver hB J hL SS;refine a9 rfl (dY hL ?_);refine v_ J 8 (.int .i64 c) d_ SS λa J=>?_;exact a9 rfl (aS rfl (.inr ⟨_,rfl⟩) (bj ⟨a,_,_,rfl,J.defers,J.slot 8 _ (by simp[List.lookup]),c,rfl,hver,hB⟩))
 iterate 3 refine ab J λa J=>?_
 refine a9 rfl (ak _ (J.Q 16) ?_);by_cases Y9:key.size=56
 .rw[show((key.size:Int) !=56)=false from by simp;omega];refine ab J λa J=>?_;refine bp J func37 (R:=λv w'=>v=.int .i64 (bq key 0 4)/\w'=w1) ((jY key 0 4 w1 d_ o_ hk).mono λe w' h=>⟨_,h.1,by rw[nT],h.2⟩) λv w2 hv a J=>?_;obtain⟨rfl,rfl⟩:=hv;refine ab J λa J=>?_;refine bp J func37 (R:=λv w'=>v=.int .i64 (bq key 4 8)/\w'=w2) ((jY key 4 4 w2 d_ o_ hk).mono λe w' h=>⟨_,h.1,by rw[nT],h.2⟩) λv w3 hv a J=>?_;obtain⟨rfl,rfl⟩:=hv;refine bz J func27 ((sj (bq key 0 4) (bq key 4 8) w3)) λw4 Tk a J=>?_
  iterate 3 refine ab J λa J=>?_
  refine bA J (λo ho=>qP ho) λw5 a TI h9 _ J=>?_;refine aP J (λo ho=>aQ (cells:=aX (bq key 0 4) (bq key 4 8) (hK key) (wK key) (nK key) (A_ key)) ho (J.Q 9) (J.Q 23) h9 so rfl (by simp[aX,ax4])) λa J=>?_;have TR:=setRow_heap w5 w4.heap.size _ (aX (bq key 0 4) (bq key 4 8) (hK key) (wK key) (nK key) (A_ key)) _ _ h9;have XT:=(av9.1 h4).1;have VJ:=Tk.size;have TF:(w5.setRow w4.heap.size (aX (bq key 0 4) (bq key 4 8) (hK key) (wK key) (nK key) (A_ key))).heap[w.heap.size]?=some (.cells cv 26):=(setRow_other w5 _ _ _ o_).trans ((TI.block _ o_).trans ((Tk.block _ XT).trans h4));have WC:Bw w3 (w5.setRow w4.heap.size (aX (bq key 0 4) (bq key 4 8) (hK key) (wK key) (nK key) (A_ key))):=(ae Tk Tk.size TI).trans (a_ _ _ _ Tk.size);revert TR TF WC;generalize w5.setRow w4.heap.size (aX (bq key 0 4) (bq key 4 8) (hK key) (wK key) (nK key) (A_ key))=w6;intro TR TF WC;have Up:Bw w w6:=ae SZ SZ.size WC;have hC6:=hC.mono Up;clear h9 TI Tk h4 WC VA;refine ab J λa J=>?_;have J:aB [(10,.bool (decide (((hK key:Nat):Int)>0)&&decide (((wK key:Nat):Int)>0))),(9,.pk w4.heap.size 0),(1,.string key),(2,.string msg),(3,.string sig),(4,.pk w.heap.size 0)] 85 [] a:=J.only ⟨rfl,rfl,rfl,rfl,rfl,rfl,trivial⟩
  iterate 2 refine ab J λa J=>?_
  refine a9 rfl (ak _ (J.Q 26) ?_);by_cases Ug:gl key
  .rw[(BK Y9).2 Ug];obtain⟨hh,hkk⟩:=kinds Ug;refine bK ?_
   iterate 12 refine ab J λa J=>?_
   refine a9 rfl (ak _ (J.Q 38) ?_);by_cases Tf:sig.size=44+32*nK key+32*hK key
   .rw[show((sig.size:Int) !=40+32*((nK key:Nat):Int)+4+32*((hK key:Nat):Int))=false from by simp;omega];refine ab J λa J=>?_;refine bp J func37 (R:=λv w'=>v=.int .i64 (bq sig 0 4)/\w'=w6) ((jY sig 0 4 w6 d_ o_ hs).mono λe w' h=>⟨_,h.1,by rw[nT],h.2⟩) λv w7 hv a J=>?_;obtain⟨rfl,rfl⟩:=hv
    iterate 5 refine ab J λa J=>?_
    rw[show(40:Int)+32*((nK key:Nat):Int)=((40+32*nK key:Nat):Int)from by omega]at J;refine ab J λa J=>?_;refine a9 rfl (a9 rfl (a9 rfl ?_));have Yu:2^hK key<=256:=az_ (OF d_ (show hK key<=8 by omega)) d_;refine Kf (H2:=2^hK key) (T:=40+32*nK key) (q:=bq sig 0 4) rfl o_ Yu hs o_ o_ rfl rfl rfl TR (J.only ⟨rfl,rfl,rfl,rfl,rfl,rfl,rfl,trivial⟩) λa w8 ⟨Y1,J⟩=>?_;have hB8:Bw w w8:=ae Up Up.size Y1;have hbox8:=bk Y1 TF;have hkd8:=bk Y1 TR;have hC8:=hC.mono hB8;refine ak _ (J.Q 64) ?_;have e4:∀(x:ByteArray) (i:Nat),i+4<=x.size->(x.extract i (i+4)).size=4:=λx i h=>by rw[aw6];omega
    have iff1:bq sig 4 8=bq key 4 8↔(sig.extract 4 8).data.toList=(key.extract 4 8).data.toList:=BF (e4 sig 4 o_) (e4 key 4 o_);have iff2:bq sig (40+32*nK key) (40+32*nK key+4)=bq key 0 4↔(sig.extract (40+32*nK key) (40+32*nK key+4)).data.toList=(key.extract 0 4).data.toList:=BF (e4 sig _ o_) (e4 key 0 o_);by_cases Vf:jr (i7 key) (hK key) (nK key) sig
    .have e:(decide (bq sig 0 4≥((2^hK key:Nat):Int))||(bq sig 4 8 !=bq key 4 8)||(bq sig (40+32*nK key) (40+32*nK key+4) !=bq key 0 4))=false:=by
      obtain⟨_,h1,h2,h3⟩:=Vf;rw[show 44+32*nK key=40+32*nK key+4 from by omega]at h3;have h1':¬bq sig 0 4≥((2^hK key:Nat):Int):=(by rw[ay1];exact aT3.2 h1);rw[decide_eq_false h1',iff1.2 h2,iff2.2 h3];simp
     rw[e];have f:=Gq Ug Vf;have h0:0<=bq sig 0 4:=(iB (sig.extract 0 4).data.toList 4 (by simp;omega)).1;have XL:((bq sig 0 4).toNat:Int)=bq sig 0 4:=aB7 h0;have hleaf:=f.leaf;rw[←XL]at J;refine a9 rfl (a9 rfl ?_);have TW:(key.extract 8 24).size<=16:=(by rw[aw6];omega);have hsa:(sig.extract 8 40).size<=32:=(by rw[aw6];omega);have hroot:sK KS (key.extract 8 24) (sig.extract 8 40) msg (sig.extract 40 (40+32*nK key)) (sig.extract (40+32*nK key+4) sig.size) (hK key) (wK key) (A_ key) (nK key) (bq sig 0 4).toNat=kQ KS key msg sig:=by
      have:=CQ KS (sZ (i7 key) (nK key) sig) (hK key) (wK key) (A_ key) (nK key) (bq sig 0 4).toNat msg XL.symm rfl;rw[show 40+32*nK key+4=44+32*nK key from by omega];exact this
     refine Ke (KS:=KS) (rt:=kQ KS key msg sig) Y9 o_ o_ o_ (λw' Ud=>?_) hC8 hbox8 hkd8 (J.only ⟨rfl,rfl,rfl,rfl,rfl,rfl,rfl,trivial⟩) λa w9 ⟨Zh,J⟩=>?_
     .have:=DL SY Te (key.extract 8 24) (sig.extract 8 40) msg (sig.extract 40 (40+32*nK key)) (sig.extract (40+32*nK key+4) sig.size) (bq key 0 4) (bq key 4 8) (hK key) (wK key) (A_ key) (nK key) (bq sig 0 4).toNat f.wid f.shift8 f.one f.most o_ o_ o_ o_ (by rw[aw6];omega) (by rw[aw6];omega) w' (hC8.mono Ud);rw[hroot]at this;exact this
     have hB9:Bw w w9:=ae hB8 hB8.size Zh
     iterate 2 refine ab J λa J=>?_
     refine ai J (λo ho=>lU (n:=24) ho (J.Q 82) rfl o_) λa J=>?_;refine ai J (λo ho=>lW ho (J.Q 81) (J.Q 83)) λa J=>?_;refine a9 rfl (ak _ (J.Q 84) ?_);by_cases hr:(kQ KS key msg sig).data.toList=(key.extract 24 key.size).data.toList
     .rw[show((kQ KS key msg sig).data.toList !=(key.extract 24 key.size).data.toList)=false from by rw[bne_eq_false_iff_eq];exact hr];refine a9 rfl ?_;exact out 15 0 a w9 _ _ (.inr (.inr (.inr ⟨Ug,Vf,hr,rfl⟩))) hB9 J rfl k_
     .rw[show((kQ KS key msg sig).data.toList !=(key.extract 24 key.size).data.toList)=true from by rw[bne_iff_ne];exact hr];exact out 14 10 a w9 _ _ (.inr (.inr (.inl ⟨Ug,Vf,hr,rfl⟩))) hB9 J rfl k_
    .have e:(decide (bq sig 0 4≥((2^hK key:Nat):Int))||(bq sig 4 8 !=bq key 4 8)||(bq sig (40+32*nK key) (40+32*nK key+4) !=bq key 0 4))=true:=by
      refine Classical.byContradiction λT2=>Vf ?_;rw[aS0,aM_,aM_,decide_eq_false_iff_not,bne_eq_false_iff_eq,bne_eq_false_iff_eq]at T2;obtain⟨⟨h1,h2⟩,h3⟩:=T2;refine⟨Tf,?_,iff1.1 h2,?_⟩
      .rw[ay1]at h1;exact aT3.1 h1
      .rw[show 44+32*nK key=40+32*nK key+4 from by omega];exact iff2.1 h3
     rw[e];exact out 11 10 a w8 _ _ (.inr (.inl ⟨Ug,Vf,rfl⟩)) hB8 J rfl k_
   .rw[show((sig.size:Int) !=40+32*((nK key:Nat):Int)+4+32*((hK key:Nat):Int))=true from by simp;omega];exact out 7 10 a w6 _ _ (.inr (.inl ⟨Ug,λh=>Tf h.1,rfl⟩)) Up J rfl k_
  .rw[show(decide (((hK key:Nat):Int)>0)&&decide (((wK key:Nat):Int)>0))=false from aS0 _▸λh=>Ug ((BK Y9).1 h)];exact out 5 9 a w6 _ _ (.inl ⟨Ug,rfl⟩) Up J rfl k_
 .rw[show((key.size:Int) !=56)=true from by simp;omega];exact out 2 9 a w1 _ _ (.inl ⟨λh=>Y9 h.1,rfl⟩) SZ J rfl k_

theorem uE{key:ByteArray}{d:Int}(h:qE KS key msg sig c)(h':qE KS key msg sig d):c=d:=by
 rcases h with⟨a1,rfl⟩|⟨a1,a2,rfl⟩|⟨a1,a2,a3,rfl⟩|⟨a1,a2,a3,rfl⟩<;>rcases h' with⟨b1,rfl⟩|⟨b1,b2,rfl⟩|⟨b1,b2,b3,rfl⟩|⟨b1,b2,b3,rfl⟩<;>first|rfl|exact absurd ‹gl key› ‹¬gl key›|exact absurd a2 b2|exact absurd b2 a2|exact absurd a3 b3|exact absurd b3 a3
theorem uU{t u:TypeId}{m n:Int}(SS:o.op=.binOp .eql t x y u)(ht:t=36)(hx:ev x=.int .i64 m)(hy:ev y=.int .i64 n):(execOp ev o).run prog w=.ok (.value (.bool (m==n))) w:=by
 subst ht;simp[execOp,SS,hx,hy,go_sem]

structure Sc where
 t:Nat
 c:Nat
 h:Nat
 wd:Nat
 n:Nat
 sh:Nat
 id:ByteArray
 q:Nat
 seed:ByteArray
 path:ByteArray
 root:ByteArray
def Sc.cells(s:Sc):Array Value:=#[.int .i64 s.t,.int .i64 s.c,.int .i64 s.h,.int .i64 s.wd,.int .i64 s.n,.int .i64 s.sh,.string s.id,.int .i64 s.q,.string s.seed,.string s.path,.string s.root]
def D_:ByteArray:=⟨#[255]⟩
theorem pf:D_.size=1:=rfl
def Sc.kind(s:Sc):Array Value:=aX s.t s.c s.h s.wd s.n s.sh
theorem ma:(prog.info? 31).map (·.size)=some 11:=by kernel_rfl
section
variable{u:Operand}{s:Sc}
theorem PR(SS:o.op=.fieldAddr 31 x 0)(hx:ev x=.pk b 0):(execOp ev o).run prog w=.ok (.value (.pk b 0)) w:=by
 have e:execOp ev o=(do pure (.value (←aw1 31 (.pk b 0) 0))):=by simp only[execOp,SS,hx]
 have h2:(do pure (.value (←aw1 31 (.pk b 0) 0)):Sem Next).run prog w=.ok (.value (.pk b 0)) w:=by kernel_rfl
 rw[e,h2]
theorem PQ(SS:o.op=.fieldAddr 31 x 1)(hx:ev x=.pk b 0):(execOp ev o).run prog w=.ok (.value (.pk b 6)) w:=by
 have e:execOp ev o=(do pure (.value (←aw1 31 (.pk b 0) 1))):=by simp only[execOp,SS,hx]
 have h2:(do pure (.value (←aw1 31 (.pk b 0) 1)):Sem Next).run prog w=.ok (.value (.pk b 6)) w:=by kernel_rfl
 rw[e,h2]
theorem PP(SS:o.op=.fieldAddr 31 x 2)(hx:ev x=.pk b 0):(execOp ev o).run prog w=.ok (.value (.pk b 7)) w:=by
 have e:execOp ev o=(do pure (.value (←aw1 31 (.pk b 0) 2))):=by simp only[execOp,SS,hx]
 have h2:(do pure (.value (←aw1 31 (.pk b 0) 2)):Sem Next).run prog w=.ok (.value (.pk b 7)) w:=by kernel_rfl
 rw[e,h2]
theorem PO(SS:o.op=.fieldAddr 31 x 3)(hx:ev x=.pk b 0):(execOp ev o).run prog w=.ok (.value (.pk b 8)) w:=by
 have e:execOp ev o=(do pure (.value (←aw1 31 (.pk b 0) 3))):=by simp only[execOp,SS,hx]
 have h2:(do pure (.value (←aw1 31 (.pk b 0) 3)):Sem Next).run prog w=.ok (.value (.pk b 8)) w:=by kernel_rfl
 rw[e,h2]
theorem Le(SS:o.op=.fieldAddr 31 x 4)(hx:ev x=.pk b 0):(execOp ev o).run prog w=.ok (.value (.pk b 9)) w:=by
 have e:execOp ev o=(do pure (.value (←aw1 31 (.pk b 0) 4))):=by simp only[execOp,SS,hx]
 have h2:(do pure (.value (←aw1 31 (.pk b 0) 4)):Sem Next).run prog w=.ok (.value (.pk b 9)) w:=by kernel_rfl
 rw[e,h2]
theorem EX(SS:o.op=.fieldAddr 31 x 5)(hx:ev x=.pk b 0):(execOp ev o).run prog w=.ok (.value (.pk b 10)) w:=by
 have e:execOp ev o=(do pure (.value (←aw1 31 (.pk b 0) 5))):=by simp only[execOp,SS,hx]
 have h2:(do pure (.value (←aw1 31 (.pk b 0) 5)):Sem Next).run prog w=.ok (.value (.pk b 10)) w:=by kernel_rfl
 rw[e,h2]
theorem ny(SS:o.op=.load 31 x)(hx:ev x=.pk b 0)(h:w.heap[b]?=some (.cells s.cells 31)):(execOp ev o).run prog w=.ok (.value (.agg s.cells)) w:=by
 have h1:(isAgg 31).run prog w=.ok true w:=by kernel_rfl
 have hc:=ar h;simp[execOp,SS,hx,ay9,loadVar,h1,loadCells,loadCellsFrom,aF6,hc,Sc.cells,go_sem]
theorem EW(SS:o.op=.load 29 x)(hx:ev x=.pk b 0)(h:w.heap[b]?=some (.cells s.cells 31)):(execOp ev o).run prog w=.ok (.value (.agg s.kind)) w:=by
 have h1:(isAgg 29).run prog w=.ok true w:=by kernel_rfl
 have hc:=ar h;simp[execOp,SS,hx,ay9,loadVar,h1,loadCells,loadCellsFrom,aF6,hc,Sc.cells,Sc.kind,aX,go_sem]
theorem vr(SS:o.op=.alloc 31):(execOp ev o).run prog w=.ok (.value (.pk w.heap.size 0)) (w.alloc (.cells (Sc.mk 0 0 0 0 0 0 ⟨#[]⟩ 0 ⟨#[]⟩ ⟨#[]⟩ ⟨#[]⟩).cells 31)):=by
 have e:execOp ev o=(do pure (.value (←az0 31 true (.tuple #[])))):=by simp only[execOp,SS]
 have h2:(do pure (.value (←az0 31 true (.tuple #[]))):Sem Next).run prog w=.ok (.value (.pk w.heap.size 0)) (w.alloc (.cells (Sc.mk 0 0 0 0 0 0 ⟨#[]⟩ 0 ⟨#[]⟩ ⟨#[]⟩ ⟨#[]⟩).cells 31)):=by kernel_rfl
 rw[e,h2]
theorem EY(SS:o.op=.build 31 #[(0,x),(1,y),(2,z),(3,u)])(h1:ev x=.agg s.kind)(h2:ev y=.string s.id)(h3:ev z=.int .i64 s.q)(h4:ev u=.string s.seed):(execOp ev o).run prog w=.ok (.value (.agg {s with path:=⟨#[]⟩,root:=⟨#[]⟩}.cells)) w:=by
 have e:execOp ev o=(do pure (.value (←ax9 31 #[(0,.agg s.kind),(1,.string s.id),(2,.int .i64 s.q),(3,.string s.seed)]))):=by simp[execOp,SS,h1,h2,h3,h4]
 have h5:(do pure (.value (←ax9 31 #[(0,.agg s.kind),(1,.string s.id),(2,.int .i64 s.q),(3,.string s.seed)])):Sem Next).run prog w=.ok (.value (.agg {s with path:=⟨#[]⟩,root:=⟨#[]⟩}.cells)) w:=by kernel_rfl
 rw[e,h5]
end

theorem Ny(SY:KS.length=64)(Te:iS KS){s:Sc}(hX:Xn=⟨(dG KS (s.id++ob i 2++D_++s.seed).data.toList).toArray⟩)(hi:i<65536)(hlen:s.id.size+3+s.seed.size<=140737488355328)(hC:jl KS cv w)(TF:w.heap[b3]?=some (.cells cv 26))(Tr:w.heap[b4]?=some (.cells s.cells 31))
 (J:aB [(2,.int .i64 i),(3,.pk b3 0),(4,.pk b4 0)] 18 [] a)
 (next:∀a w',(Bw w w'/\aB [(6,.string Xn),(2,.int .i64 i),(3,.pk b3 0),(4,.pk b4 0)] 18 [] a)->Rn kX Goal (fr.atR a K) cs w'):
 Rn kX Goal (fr.atR a (.code (rD f33 1)::K)) cs w:=by
 refine cC J ?_;refine aj (v:=.agg cv) ?_;refine aj (v:=.pk b4 6) ?_;refine aj (v:=.string s.id) ?_ (y:=λo a w1 ho z=>((av bU ho gx ((ar ((z.b.block _ (av9.1 Tr).1).trans Tr) 6).trans rfl)).1));refine aj ?_;refine cy (v:=.string (ob i 2)) func29 (λw1 hb _=>(gj (i) 2 _ d_ o_)) ?_;refine aj (v:=.string (s.id++ob i 2)) ?_;refine aj (v:=.string (s.id++ob i 2++D_)) ?_ (y:=λo a w1 ho z=>(cN ho gx rfl (by simp only[ax3,ce,pf];omega)));refine aj (v:=.pk b4 8) ?_ (y:=λo a w1 ho z=>(PO ho gx));refine aj (v:=.string s.seed) ?_ (y:=λo a w1 ho z=>((av bU ho gx ((ar ((z.b.block _ (av9.1 Tr).1).trans Tr) 8).trans rfl)).1));refine aj (v:=.string (s.id++ob i 2++D_++s.seed)) ?_ (y:=λo a w1 ho z=>(cN ho gx gx (by simp only[ax3,ce,pf];omega)));refine cy (v:=.string Xn) func12 (λw1 hb _=>(kq (js KS SY Te cv (s.id++ob i 2++D_++s.seed) _ (hC.mono hb) (by simp only[ax3,ce,pf];omega)) (congrArg Value.string hX.symm))) ?_;refine aj ?_;exact cc λa w' J hb _=>next a w' ⟨hb,J.O⟩
def jD(KS:List Int)(s:Sc)(i:Nat):ByteArray:=⟨(dG KS (s.id++ob i 2++D_++s.seed).data.toList).toArray⟩
theorem OQ:f33.body=some (.seq (rG f33 0) (.seq (rD f33 1) .ret)):=by kernel_rfl
theorem tJ(SY:KS.length=64)(Te:iS KS)(s:Sc)(i:Nat)(hi:i<65536)(hlen:s.id.size+3+s.seed.size<=140737488355328)(w:World)(hC:jl KS cv w):
 Cl kX 33 #[.agg cv,.agg s.cells,.int .i64 i] w λe w'=>e=.returned (.string (jD KS s i))/\Bw w w':=by
 refine az (N:=18) func33 OQ λcs a J=>?_;refine bK ?_;refine tx J 3 0 26 rfl λa J=>?_;show Rn _ _ _ _ (w.alloc (.cells cv 26));refine tx J 4 1 31 rfl λa J=>?_;rw[ay]at J;show Rn _ _ _ _ ((w.alloc (.cells cv 26)).alloc (.cells s.cells 31));have SZ:Bw w ((w.alloc (.cells cv 26)).alloc (.cells s.cells 31)):=ae (aJ w _) (by rw[ay];omega) (aJ _ _);have h5:=(bD (w.alloc (.cells cv 26)) (.cells s.cells 31) (b:=w.heap.size) (by rw[ay];omega)).trans (aR w _);have h6:=aR (w.alloc (.cells cv 26)) (.cells s.cells 31);rw[ay]at h6;revert SZ h5 h6;generalize (w.alloc (.cells cv 26)).alloc (.cells s.cells 31)=w1;intro SZ h5 h6;refine ab J λa J=>?_;refine a9 rfl (a9 rfl ?_);refine Ny SY Te rfl hi hlen (hC.mono SZ) h5 h6 (J.only ⟨rfl,rfl,rfl,trivial⟩) λa w2 ⟨S_,J⟩=>?_;exact aH J ⟨rfl,ae SZ SZ.size S_⟩
theorem NB{s:Sc}(ht:s.t<1000)(hc:s.c<1000)(TW:s.id.size<=1000)(hrt:s.root.size<=1000)(Tr:w.heap[b4]?=some (.cells s.cells 31))
 (J:aB [(1,.pk b4 0)] 18 [] a)
 (next:∀a w',(Bw w w'/\aB [(2,.string (ob s.t 4++ob s.c 4++s.id++s.root)),(1,.pk b4 0)] 18 [] a)->Rn kX Goal (fr.atR a K) cs w'):
 Rn kX Goal (fr.atR a (.code (rD f10 1)::K)) cs w:=by
 refine cC J ?_;refine aj (v:=.pk b4 0) ?_;refine aj (v:=.pk b4 0) ?_;refine aj (v:=.int .i64 s.t) ?_;refine cy (v:=.string (ob s.t 4)) func29 (λw1 hb _=>(gj (s.t) 4 _ d_ o_)) ?_;refine aj (v:=.pk b4 0) ?_;refine aj (v:=.pk b4 1) ?_;refine aj (v:=.int .i64 s.c) ?_;refine cy (v:=.string (ob s.c 4)) func29 (λw1 hb _=>(gj (s.c) 4 _ d_ o_)) ?_;refine aj (v:=.string (ob s.t 4++ob s.c 4)) ?_;refine aj (v:=.pk b4 6) ?_;refine aj (v:=.string s.id) ?_ (y:=λo a w1 ho z=>((av bU ho gx ((ar ((z.b.block _ (av9.1 Tr).1).trans Tr) 6).trans rfl)).1));refine aj (v:=.string (ob s.t 4++ob s.c 4++s.id)) ?_;refine aj (v:=.pk b4 10) ?_;refine aj (v:=.string s.root) ?_ (y:=λo a w1 ho z=>((av bU ho gx ((ar ((z.b.block _ (av9.1 Tr).1).trans Tr) 10).trans rfl)).1));refine aj (v:=.string (ob s.t 4++ob s.c 4++s.id++s.root)) ?_;refine aj ?_;exact cc λa w' J hb _=>next a w' ⟨hb,J.O⟩
theorem OZ:f10.body=some (.seq (rG f10 0) (.seq (rD f10 1) .ret)):=by kernel_rfl
theorem JU(s:Sc)(ht:s.t<1000)(hc:s.c<1000)(TW:s.id.size<=1000)(hrt:s.root.size<=1000)(w:World):
 Cl kX 10 #[.agg s.cells] w λe w'=>e=.returned (.string (ob s.t 4++ob s.c 4++s.id++s.root))/\Bw w w':=by
 refine az (N:=18) func10 OZ λcs a J=>?_;refine bK ?_;refine tx J 1 0 31 rfl λa J=>?_;show Rn _ _ _ _ (w.alloc (.cells s.cells 31));have SZ:=aJ w (.cells s.cells 31);refine ab J λa J=>?_;refine a9 rfl (a9 rfl ?_);refine NB ht hc TW hrt (aR w _) (J.only ⟨rfl,trivial⟩) λa w2 ⟨S_,J⟩=>?_;exact aH J ⟨rfl,ae SZ SZ.size S_⟩

def yB(KS:List Int)(s:Sc)(i:Nat):ByteArray:=yy KS s.id s.q i (cM s.wd) 0 (jD KS s i)
def lH(KS:List Int)(s:Sc):Nat->ByteArray
 |0=>⟨#[]⟩
 |i+1=>lH KS s i++yB KS s i
def pB(KS:List Int)(seed:ByteArray)(n:Nat):ByteArray:=⟨(dG KS (ob n 4++seed).data.toList).toArray⟩
def pK(KS:List Int)(seed:ByteArray)(lf:Nat):Nat->ByteArray
 |0=>⟨#[]⟩
 |i+1=>pK KS seed lf i++pB KS seed (cD lf i)
def jT(KS:List Int)(id seed:ByteArray)(lf:Nat)(x:ByteArray):Nat->ByteArray
 |0=>x
 |i+1=>Cq KS id (cD lf i) (pB KS seed (cD lf i)) (jT KS id seed lf x i)
theorem AU(KS:List Int)(s:Sc)(i:Nat):(yB KS s i).size=32:=lE KS s.id s.q i _ 0 _ (dx KS _)
theorem mP(KS:List Int)(s:Sc):∀i,(lH KS s i).size=32*i
 |0=>rfl
 |i+1=>by rw[lH,ax3,mP KS s i,AU];omega
theorem mF(KS:List Int)(seed:ByteArray)(lf:Nat):∀i,(pK KS seed lf i).size=32*i
 |0=>rfl
 |i+1=>by rw[pK,ax3,mF KS seed lf i,pB,dx];omega
theorem rF(KS:List Int)(id seed:ByteArray)(lf:Nat)(x:ByteArray)(hx:x.size=32):∀i,(jT KS id seed lf x i).size=32
 |0=>hx
 |_+1=>fh KS _
theorem Kb(SY:KS.length=64)(Te:iS KS){s:Sc}{en:ByteArray}{b6 b10:Nat}(hi:i<65536)(hlen:s.id.size+3+s.seed.size<=140737488355328)(TW:s.id.size<=1000)(hq:s.q<4294967296)(Uj:s.wd<=8)(h2:2^s.wd<=256)(h21:1<=2^s.wd)(htp:cM s.wd<65536)(hC:jl KS cv w)(TF:w.heap[b5]?=some (.cells cv 26)){t:Int}{h:Nat}(TR:w.heap[b6]?=some (.cells (aX t c h s.wd n sh) 29))(Tr:w.heap[b4]?=some (.cells s.cells 31))
 (J:aB [(2,.string s.id),(3,.int .i64 s.q),(4,.string s.seed),(5,.pk b5 0),(6,.pk b6 0),(10,.pk b10 0),(11,.pk b4 0),(12,.string en),(13,.int .i64 i)] 93 [] a)
 (next:∀a w',(Bw w w'/\aB [(14,.string (yB KS s i)),(2,.string s.id),(3,.int .i64 s.q),(4,.string s.seed),(5,.pk b5 0),(6,.pk b6 0),(10,.pk b10 0),(11,.pk b4 0),(12,.string en),(13,.int .i64 i)] 93 [] a)->Rn kX Goal (fr.atR a K) cs w'):
 Rn kX Goal (fr.atR a (.code (rD f28 6)::K)) cs w:=by
 refine cC J ?_;refine aj (v:=.agg cv) ?_;refine aj ?_;refine aj ?_;refine aj ?_;refine aj (v:=.pk b6 3) ?_;refine aj (v:=.int .i64 s.wd) ?_;refine aj (v:=.int .i64 ((2^s.wd:Nat):Int)) ?_ (y:=λo a w1 ho z=>by
  have hp:(1:Int)*2^s.wd=((2^s.wd:Nat):Int):=by rw[aG3,ay1];rfl
  exact dq (g_ (m:=1) (k:=s.wd) ho rfl gx o_ (by rw[hp];omega)) (by rw[hp]<;>rfl))
 refine aj (v:=.int .i64 (cM s.wd)) ?_ (y:=λo a w1 ho z=>dq (mC (n:=1) ho gx rfl o_) (by exact congrArg (Value.int .i64) (by unfold cM;omega)));refine aj (v:=.agg cv) ?_;refine aj (v:=.agg s.cells) ?_ (y:=λo a w1 ho z=>(ny ho gx ((z.b.block _ (av9.1 Tr).1).trans Tr)));refine aj ?_;refine cy (v:=.string (jD KS s i)) func33 (λw1 hb _=>(tJ SY Te s i o_ hlen _ (hC.mono hb))) ?_;refine cy (v:=.string (yB KS s i)) func32 (λw1 hb _=>(zn SY Te s.id (jD KS s i) s.q i 0 (cM s.wd) hq o_ d_ htp TW (dx KS _) _ (hC.mono hb))) ?_;refine aj ?_;exact cc λa w' J hb _=>next a w' ⟨hb,J.O⟩
theorem Ka(SY:KS.length=64)(Te:iS KS){id:ByteArray}{nn b10:Nat}(hX:pB KS seed nn=⟨(dG KS (ob nn 4++seed).data.toList).toArray⟩)(hn:nn<4294967296)(hlen:seed.size+4<=140737488355328)(hC:jl KS cv w)(TF:w.heap[b5]?=some (.cells cv 26))
 (J:aB [(2,.string id),(4,.string seed),(5,.pk b5 0),(10,.pk b10 0),(11,.pk b4 0),(15,.int .i64 nn)] 93 [] a)
 (next:∀a w',(Bw w w'/\aB [(16,.string (pB KS seed nn)),(2,.string id),(4,.string seed),(5,.pk b5 0),(10,.pk b10 0),(11,.pk b4 0),(15,.int .i64 nn)] 93 [] a)->Rn kX Goal (fr.atR a K) cs w'):
 Rn kX Goal (fr.atR a (.code (rD f28 12)::K)) cs w:=by
 refine cC J ?_;refine aj (v:=.agg cv) ?_;refine aj ?_;refine cy (v:=.string (ob nn 4)) func29 (λw1 hb _=>(gj (nn) 4 _ d_ o_)) ?_;refine aj ?_;refine aj (v:=.string (ob nn 4++seed)) ?_;refine cy (v:=.string (pB KS seed nn)) func12 (λw1 hb _=>(kq (js KS SY Te cv (ob nn 4++seed) _ (hC.mono hb) (by first|(simp only[ce];omega)|(simp only[ax3,ce];omega))) (congrArg Value.string hX.symm))) ?_;refine aj ?_;exact cc λa w' J hb _=>next a w' ⟨hb,J.O⟩

section
variable{m:Int}{u:TypeId}
theorem Mh(SS:o.op=.unOp .neg 3 x)(hx:ev x=.int .i64 m)(h: -9223372036854775808<= -m/\ -m<9223372036854775808):(execOp ev o).run prog w=.ok (.value (.int .i64 (-m))) w:=by
 have e:ax8.wrap (-m)= -m:=by rw[IntKind.wrap_i64];omega
 simp[execOp,SS,hx,go_sem,e]
theorem Fi{t:ByteArray}(SS:o.op=.slice 9 x none (some y) none)(hx:ev x=.string t)(hy:ev y=.int .i64 n)(h':n<=t.size):(execOp ev o).run prog w=.ok (.value (.string (t.extract 0 n))) w:=by
 have hu:prog.underlying 9=some .string:=by kernel_rfl
 simp[execOp,SS,hx,hy,az5,aD8,ay6,run_underlying hu,ay8,asIntOf,h']
end
theorem OV:f17.body=some (.seq (rG f17 0) (.seq (.seq (rG f17 1) (.cond (.tmp 6) (.seq (rG f17 2) .ret) .skip)) (.seq (.seq (rG f17 3) (.cond (.tmp 8) (rG f17 4) .skip)) (.seq (rG f17 5) .ret)))):=by kernel_rfl
theorem xe(hn:0<n)(J:aB [(0,.int .i64 m),(1,.int .i64 n)] 15 [] a)(next:∀a,aB [(4,.int .i64 ((m%n:Nat):Int))] 15 [] a->Rn kX Goal ((base 17).atR a [.code .ret]) cs w):
 Rn kX Goal ((base 17).atR a [.code (.seq (rG f17 5) .ret)]) cs w:=by
 iterate 2 refine ab J λa J=>?_
 refine ab J λa J=>?_;refine ab J λa J=>?_;exact a9 rfl (next a (J.only ⟨rfl,trivial⟩))
def eF(c:Int)(n:Nat):Nat:=(if c<0 then-(c+1)else c).toNat%n
theorem iH(c:Int)(hn:0<n):eF c n<n:=Nat.mod_lt _ hn
theorem gJ(c:Int)(n:Nat)(hc: -9223372036854775808<=c/\c<9223372036854775808)(hn:0<n)(w:World):
 Cl kX 17 #[.int .i64 c,.int .i64 n] w λe w'=>e=.returned (.int .i64 (eF c n:Nat))/\w'=w:=by
 refine az (N:=15) func17 OV λcs a J=>?_
 iterate 3 refine ab J λa J=>?_
 refine a9 rfl (ak _ (J.Q 6) ?_);rw[show((n:Int)==0)=false from by simp;omega]
 iterate 2 refine ab J λa J=>?_
 refine a9 rfl (ak _ (J.Q 8) ?_);by_cases h:c<0
 .rw[decide_eq_true h]
  iterate 2 refine ab J λa J=>?_
  refine ai J (λo ho=>Mh ho (J.Q 10) o_) λa J=>?_;refine ab J λa J=>?_;refine a9 rfl (xe (m:=(-(c+1)).toNat) hn (J.only ⟨?_,rfl,trivial⟩) λa J=>aS rfl (.inr ⟨_,rfl⟩) (bj ⟨a,_,_,rfl,J.defers,J.slot 4 _ rfl,by simp[eF,h],rfl⟩));rw[aB7 o_];rfl
 .rw[decide_eq_false h];refine a9 rfl (xe (m:=c.toNat) hn (J.only ⟨?_,rfl,trivial⟩) λa J=>aS rfl (.inr ⟨_,rfl⟩) (bj ⟨a,_,_,rfl,J.defers,J.slot 4 _ rfl,by simp[eF,h],rfl⟩));rw[aB7 o_];rfl
theorem oO(c:Int)(n:Nat)(hc: -9223372036854775808<=c/\c<9223372036854775808)(hn:0<n)(w:World):
 Cl kX 17 #[.int .i64 c,.int .i64 n] w λe w'=>∃r:Nat,e=.returned (.int .i64 r)/\r<n/\w'=w:=(gJ c n hc hn w).mono λ_ _ h=>⟨_,h.1,iH c hn,h.2⟩

section
variable{b:Frame}{k:List Item}
theorem qW(J:aB F N ds a)(d x n:Nat)(hx:F.lookup x=some (.int .i64 c))(hc: -9223372036854775808<=c/\c<9223372036854775808)(hn:0<n)
 (next:∀r:Nat,r<n->∀a',aB ((d,.int .i64 r)::F) N ds a'->Rn kX Goal (b.atR a' (.inRegion ops rest::k)) cs w) (hd:d<N:=by decide) (h:(ops[m]?).map (λo=>(o.dst,o.op,o.guard))=some (some d,.call {callee:=.value (.func 17),args:=#[.tmp x,.const (.int .i64 n)],argTypes:=#[3,3]},none):=by kernel_rfl):Rn kX Goal (b.atR a (.inRegion ops (m::rest)::k)) cs w:=by
 obtain⟨o,ho,e1,e2,e3⟩:=kS h;refine vZ ho (e3 _) (by rw[e2];simp) (nA e2 (args:=#[.int .i64 c,.int .i64 n]) (by simp only[List.map_toArray,List.map_cons,List.map_nil,J.get hx];rfl) func17 k_ k_ rfl) (R:=λv w'=>∃r:Nat,v=.int .i64 r/\r<n/\w'=w) ((oO c n hc hn w).mono λe w' ⟨r,h1,h2,h3⟩=>⟨_,h1,r,rfl,h2,h3⟩) λv w' hv=>?_;rw[e1];obtain⟨r,rfl,hr,hw⟩:=hv;rw[hw];exact next r hr _ (J.put hd _)
theorem AL(J:aB F N ds a)(d x y:Nat){t:ByteArray}(hx:F.lookup x=some (.string s))(hy:F.lookup y=some (.string t))(hs:s.size+t.size<=9223372036854775807)
 (next:∀a',aB ((d,.string (s++t))::F) N ds a'->Rn kX Goal (b.atR a' (.inRegion ops rest::k)) cs w) (hd:d<N:=by decide) (h:(ops[m]?).map (λo=>(o.dst,o.op,o.guard))=some (some d,.binOp .add 9 (.tmp x) (.tmp y) 9,none):=by kernel_rfl):Rn kX Goal (b.atR a (.inRegion ops (m::rest)::k)) cs w:=
 gm J d (.binOp .add 9 (.tmp x) (.tmp y) 9) hd h s_ (λo ho=>cN ho (J.get hx) (J.get hy) hs) next (ok:=.inl ⟨pl (J.get hx),pl (J.get hy)⟩)
theorem Hm(J:aB F N ds a)(d e x j:Nat){c1 c2:Int}{hh wd b19:Nat}(v:Value)(hx:F.lookup x=some (.pk b19 0))(TR:w.heap[b19]?=some (.cells (aX c1 c2 hh wd n sh) 29))(hj:j<6)(hv:(aX c1 c2 hh wd n sh)[j]?=some v)
 (next:∀a',aB ((e,v)::(d,.pk b19 j)::F) N ds a'->Rn kX Goal (b.atR a' (.inRegion ops rest::k)) cs w) {m1:Nat} (hd:d<N:=by decide) (he:e<N:=by decide) (h:(ops[m]?).map (λo=>(o.dst,o.op,o.guard))=some (some d,.fieldAddr 29 (.tmp x) j,none):=by kernel_rfl) (h1:(ops[m1]?).map (λo=>(o.dst,o.op,o.guard))=some (some e,.load 3 (.tmp d),none):=by kernel_rfl):Rn kX Goal (b.atR a (.inRegion ops (m::m1::rest)::k)) cs w:=by
 refine gm J d (.fieldAddr 29 (.tmp x) j) hd h s_ (λo ho=>lc j hj ho (J.get hx)) (ok:=zo (by rcases(by omega:j=0\/j=1\/j=2\/j=3\/j=4\/j=5)with rfl|rfl|rfl|rfl|rfl|rfl<;>kernel_rfl)) λa J=>?_;exact gm J e (.load 3 (.tmp d)) he h1 s_ (λo ho=>(av aC ho (J.get (d:=d) (by simp[List.lookup])) ((ar TR j).trans hv)).1) next
theorem eL{V:Value->Prop}(h:(execOp ev o).run P w=.ok (.value v) w')(hR:V v/\w'=w):∃v,(execOp ev o).run P w=.ok (.value v) w/\V v:=⟨v,hR.2▸h,hR.1⟩
theorem gn(J:aB F N ds a)(d:Nat)(p:Op)(g gd:Nat)(q:Bool)(V:Value->Prop)(hq:F.lookup gd=some (.bool q))(T5:∀c,p≠ .defer c)(hy:q=true->∀o:Oper,o.op=p->∃v,(execOp a.eval o).run prog w=.ok (.value v) w/\V v)
 (next:∀v a',(q=true->V v)->aB ((d,v)::F) N ds a'->Rn kX Goal (b.atR a' (.inRegion ops rest::k)) cs w) (hd:d<N:=by decide) (h:(ops[m]?).map (λo=>(o.dst,o.op,o.guard))=some (some d,p,some (g,true)):=by kernel_rfl) (hg:(ops[g]?).bind (·.dst)=some gd:=by kernel_rfl) (ok:q=true->kU prog a.eval p:=by first|(intro h;cases h;done)|(intro _;exact nR)):Rn kX Goal (b.atR a (.inRegion ops (m::rest)::k)) cs w:=by
 obtain⟨o,ho,e1,e2,e3⟩:=lz h;have hw:=oH (tmps:=a.tmps) e3 hg (J.slot gd _ hq);cases q with
 |false=>
  refine oy ho hw ?_;rw[e1];exact next _ _ (λh=>by cases h) (J.put hd _)
 |true=>
  obtain⟨v,h1,h2⟩:=hy rfl o e2;refine pn ho hw (by rw[e2];exact T5) ⟨h1,i3 (e2▸ok rfl),λ_=>rfl,rfl⟩ ?_;rw[e1];exact next v _ (λ_=>h2) (J.put hd v)
end

def vt(f:Func):Code:=.seq (.seq (rG f 4) (.cond (.tmp 25) .skip (.exit 0))) (.seq (.block 1 (.seq (rD f 6) (rG f 7))) (rG f 5))
def qR(f:Func):Code:=.seq (.seq (rG f 10) (.cond (.tmp 57) .skip (.exit 2))) (.seq (.block 3 (.seq (rD f 12) (.seq (rG f 13) (.seq (rG f 14) (.cond (.tmp 73) (rG f 15) (rG f 16)))))) (rG f 11))
theorem OS:f28.body=some (.seq (rG f28 0) (.seq (rG f28 1) (.seq (rG f28 2) (.seq (.seq (rG f28 3) (.block 0 (.loop (vt f28)))) (.seq (rG f28 8) (.seq (.seq (rG f28 9) (.block 2 (.loop (qR f28)))) (.seq (rG f28 17) .ret))))))):=by kernel_rfl
structure Sw (w0 w:World) (cv:Array Value) (s:Sc) (N:Nat):Prop where
 at0:N=w0.heap.size
 old:Bw w0 w
 h5:w.heap[N]?=some (.cells cv 26)
 h6:w.heap[N+1]?=some (.cells (aX s.t s.c s.h s.wd s.n s.sh) 29)
 h10:w.heap[N+2]?=some (.cells (Sc.mk 0 0 0 0 0 0 ⟨#[]⟩ 0 ⟨#[]⟩ ⟨#[]⟩ ⟨#[]⟩).cells 31)
 h11:w.heap[N+3]?=some (.cells s.cells 31)
section
variable{s:Sc}
theorem Sw.mono(h:Sw w0 w cv s N)(hb:Bw w w'):Sw w0 w' cv s N:=⟨h.at0,ae h.old h.old.size hb,bk hb h.h5,bk hb h.h6,bk hb h.h10,bk hb h.h11⟩
theorem Sw.put(h:Sw w0 w cv s N)(s':Sc)(k:Nat)(v:Value)(e:s.cells.setIfInBounds k v=s'.cells)(e2:(aX s.t s.c s.h s.wd s.n s.sh)=(aX s'.t s'.c s'.h s'.wd s'.n s'.sh)):Sw w0 (w.setCell ⟨N+3,k,none⟩ v) cv s' N:=by
 have hb:=dc w ⟨N+3,k,none⟩ v (aw0 (N+3));refine⟨h.at0,h.old.trans (hb.mono (by have:=h.at0;omega)),(hb.block _ o_).trans h.h5,?_,(hb.block _ o_).trans h.h10,?_⟩
 .rw[←e2];exact(hb.block _ o_).trans h.h6
 .rw[←e];exact jO h.h11
end
section
variable(SY:KS.length=64)(Te:iS KS)(Xj:jl KS cv w0)
include SY Te Xj
theorem JP{s:Sc}(hlen:s.id.size+3+s.seed.size<=140737488355328)(TW:s.id.size<=1000)(hq:s.q<256)(hw:ox s.wd)(hn:s.n<=136)
 (next:∀a w,Sw w0 w cv s N->aB [(2,.string s.id),(3,.int .i64 s.q),(4,.string s.seed),(5,.pk N 0),(6,.pk ((N+1)) 0),(10,.pk ((N+2)) 0),(11,.pk ((N+3)) 0),(12,.string (lH KS s s.n))] 93 [] a->Rn kX Goal (fr.atR a K) cs w):
 ∀(m i:Nat) (a:Act) (w:World),s.n- i=m->i<=s.n->Sw w0 w cv s N->aB [(2,.string s.id),(3,.int .i64 s.q),(4,.string s.seed),(5,.pk N 0),(6,.pk ((N+1)) 0),(10,.pk ((N+2)) 0),(11,.pk ((N+3)) 0),(12,.string (lH KS s i)),(13,.int .i64 i)] 93 [] a->
  Rn kX Goal (fr.atR a (.code (vt f28):: .inLoop (vt f28):: .inBlock 0::K)) cs w:=by
 have h2:2^s.wd<=256/\1<=2^s.wd/\s.wd<=8:=by rcases hw with h|h|h<;>rw[h]<;>decide
 have htp:cM s.wd<65536:=by unfold cM;omega
 intro m;induction m with
 |zero=>
  intro i a w hm hi hS J;refine ab J λa J=>?_;refine Hm J 23 24 6 4 (.int .i64 s.n) rfl hS.h6 d_ rfl λa J=>?_;refine ab J λa J=>?_;refine a9 rfl (ak _ (J.Q 25) ?_);rw[decide_eq_false o_];have e:i=s.n:=by omega
  subst e;exact a9 rfl (next a w hS (J.only ⟨rfl,rfl,rfl,rfl,rfl,rfl,rfl,rfl,trivial⟩))
 |succ m ih=>
  intro i a w hm hi hS J;refine ab J λa J=>?_;refine Hm J 23 24 6 4 (.int .i64 s.n) rfl hS.h6 d_ rfl λa J=>?_;refine ab J λa J=>?_;refine a9 rfl (ak _ (J.Q 25) ?_);rw[decide_eq_true o_];refine a9 rfl (a9 rfl (a9 rfl (a9 rfl ?_)));refine Kb SY Te o_ hlen TW o_ h2.2.2 h2.1 h2.2.1 htp (Xj.mono hS.old) hS.h5 hS.h6 hS.h11 (J.only ⟨rfl,rfl,rfl,rfl,rfl,rfl,rfl,rfl,rfl,trivial⟩) λa w2 ⟨S_,J⟩=>?_;have hS:=hS.mono S_
  iterate 2 refine ab J λa J=>?_
  refine AL J 43 41 42 rfl rfl (by rw[mP,AU];omega) λa J=>?_
  iterate 4 refine ab J λa J=>?_
  refine a9 rfl (a9 rfl (ih (i+1) a w2 o_ o_ hS (J.only ⟨rfl,rfl,rfl,rfl,rfl,rfl,rfl,rfl,?_,trivial⟩)));rw[aA8];rfl
end

section
variable{b:Frame}{k:List Item}
theorem vV(J:aB F N ds a)(x y j:Nat){cells:Array Value}{t:TypeId}{v0:Value}(hx:F.lookup x=some (.pk g j))(hy:F.lookup y=some (.string s))(hb:w.heap[g]?=some (.cells cells t))(hv:cells[j]?=some v0)
 (next:∀a',aB F N ds a'->Rn kX Goal (b.atR a' (.inRegion ops rest::k)) cs (w.setCell ⟨g,j,none⟩ (.string s))) (h:(ops[m]?).map (λo=>(o.dst,o.op,o.guard))=some (none,.store 9 (.tmp x) (.tmp y),none):=by kernel_rfl):Rn kX Goal (b.atR a (.inRegion ops (m::rest)::k)) cs w:=
 iP J (.store 9 (.tmp x) (.tmp y)) h s_ (λo ho=>(dC (w:=w) (b:=g) (k:=j) (v:=.string s) (v0:=v0) rfl rfl k_ ho (J.get hx) (J.get hy) (by rw[ar hb];exact hv) (by simp[World.frozen?,hb])).1) next
theorem Hj(J:aB F N ds a)(d e x j jo:Nat){s:Sc}(v:ByteArray)(hx:F.lookup x=some (.pk g 0))(hr:∀o:Oper,o.op=.fieldAddr 31 (.tmp x) j->a.eval (.tmp x)=.pk g 0->(execOp a.eval o).run prog w=.ok (.value (.pk g jo)) w)(hs:w.heap[g]?=some (.cells s.cells 31))(hv:s.cells[jo]?=some (.string v))
 (next:∀a',aB ((e,.string v)::(d,.pk g jo)::F) N ds a'->Rn kX Goal (b.atR a' (.inRegion ops rest::k)) cs w) {m1:Nat} (hd:d<N:=by decide) (he:e<N:=by decide) (h:(ops[m]?).map (λo=>(o.dst,o.op,o.guard))=some (some d,.fieldAddr 31 (.tmp x) j,none):=by kernel_rfl) (h1:(ops[m1]?).map (λo=>(o.dst,o.op,o.guard))=some (some e,.load 9 (.tmp d),none):=by kernel_rfl) (sz:mB prog 31 j=true:=by kernel_rfl):Rn kX Goal (b.atR a (.inRegion ops (m::m1::rest)::k)) cs w:=by
 refine gm J d (.fieldAddr 31 (.tmp x) j) hd h s_ (λo ho=>hr o ho (J.get hx)) (ok:=zo sz) λa J=>?_;exact gm J e (.load 9 (.tmp d)) he h1 s_ (λo ho=>(av bU ho (J.get (d:=d) (by simp[List.lookup])) ((ar hs jo).trans hv)).1) next
end
theorem u0{lf h:Nat}(h1:2^h<=lf)(h2:lf<2^(h+1))(i:Nat)(hi:i<=h):(1<cD lf i↔i<h)/\1<=cD lf i/\cD lf i<=lf:=by
 rw[nV];have e:h=i+(h- i):=by omega
 have p:2^h=2^i*2^(h- i):=by rw[←Nat.pow_add,←e]
 have pos:0<2^i:=aU8 d_;have q1:2^(h- i)<=lf/2^i:=by rw[Nat.le_div_iff_mul_le pos,aX5,←p];exact h1
 have one:1<=2^(h- i):=aN9;refine⟨⟨λhh=>?_,λhh=>?_⟩,az_ one q1,aF9 _ _⟩
 .rcases aO4 i h with k|k
  .exact k
  .have:i=h:=(by omega);subst this;have:lf/2^i<2:=(by rw[Nat.div_lt_iff_lt_mul pos];rw[aL0]at h2;omega);omega
 .have:2<=2^(h- i):=by
   rw[show h- i=(h- i- 1)+1 from by omega,aL0];have:=aN9 (n:=h- i- 1);omega
  omega
def pH(KS:List Int)(s:Sc)(lf:Nat)(x:ByteArray)(i:Nat):Sc:={s with path:=pK KS s.seed lf i,root:=jT KS s.id s.seed lf x i}
section
variable(SY:KS.length=64)(Te:iS KS)(Xj:jl KS cv w0)
include SY Te Xj
theorem JO{s:Sc}{lf:Nat}{x:ByteArray}(hx:x.size=32)(h1:2^s.h<=lf)(h2:lf<2^(s.h+1))(hlf:lf<512)(hh:s.h<=8)(hlen:s.seed.size+4<=140737488355328)(TW:s.id.size<=1000)
 (next:∀a w,Sw w0 w cv (pH KS s lf x s.h) N->aB [(10,.pk ((N+2)) 0),(11,.pk ((N+3)) 0)] 93 [] a->Rn kX Goal (fr.atR a K) cs w):
 ∀(m i:Nat) (a:Act) (w:World),s.h- i=m->i<=s.h->Sw w0 w cv (pH KS s lf x i) N->aB [(2,.string s.id),(4,.string s.seed),(5,.pk N 0),(10,.pk ((N+2)) 0),(11,.pk ((N+3)) 0),(15,.int .i64 (cD lf i))] 93 [] a->
  Rn kX Goal (fr.atR a (.code (qR f28):: .inLoop (qR f28):: .inBlock 2::K)) cs w:=by
 intro m;induction m with
 |zero=>
  intro i a w hm hi hS J;have W4:=u0 h1 h2 i hi
  iterate 2 refine ab J λa J=>?_
  refine a9 rfl (ak _ (J.Q 57) ?_);rw[decide_eq_false (by have:=W4.1;omega)];have e:i=s.h:=by omega
  subst e;exact a9 rfl (next a w hS (J.only ⟨rfl,rfl,trivial⟩))
 |succ m ih=>
  intro i a w hm hi hS J;have W4:=u0 h1 h2 i hi;have hrs:=rF KS s.id s.seed lf x hx i;have hps:=mF KS s.seed lf i
  iterate 2 refine ab J λa J=>?_
  refine a9 rfl (ak _ (J.Q 57) ?_);rw[decide_eq_true (by have:=W4.1;omega)];refine a9 rfl (a9 rfl (a9 rfl (a9 rfl ?_)));have hpz:(pB KS s.seed (cD lf i)).size=32:=dx KS _;refine Ka SY Te rfl o_ hlen (Xj.mono hS.old) hS.h5 (J.only ⟨rfl,rfl,rfl,rfl,rfl,rfl,trivial⟩) λa w2 ⟨S_,J⟩=>?_;have hS:=hS.mono S_;refine bK ?_;refine Hj J 66 67 11 4 9 (pK KS s.seed lf i) rfl (λo ho hx=>Le ho hx) hS.h11 rfl λa J=>?_;refine ab J λa J=>?_;refine AL J 69 67 68 rfl rfl o_ λa J=>?_;refine ab J λa J=>?_;refine vV J 70 69 9 rfl rfl hS.h11 rfl λa J=>?_;have hS:=hS.put {pH KS s lf x i with path:=pK KS s.seed lf (i+1)} 9 (.string (pK KS s.seed lf i++pB KS s.seed (cD lf i))) rfl rfl;revert hS;generalize w2.setCell ⟨N+3,9,none⟩ (.string (pK KS s.seed lf i++pB KS s.seed (cD lf i)))=w3;intro hS;refine ab J λa J=>?_;refine ai J (λo ho=>qL (n:=2) ho (J.Q 71) rfl d_) λa J=>?_;refine ab J λa J=>?_;refine a9 rfl (ak _ (J.Q 73) ?_);have tail:∀(a:Act) (w4:World),Sw w0 w4 cv (pH KS s lf x (i+1)) N->aB [(2,.string s.id),(4,.string s.seed),(5,.pk N 0),(10,.pk ((N+2)) 0),(11,.pk ((N+3)) 0),(15,.int .i64 (cD lf i))] 93 [] a->Rn kX Goal (fr.atR a (.inBlock 3:: .code (rG f28 11):: .inLoop (qR f28):: .inBlock 2::K)) cs w4:=by
   intro a w4 hS J
   iterate 3 refine ab J λa J=>?_
   exact a9 rfl (a9 rfl (ih (i+1) a w4 o_ o_ hS (J.only ⟨rfl,rfl,rfl,rfl,rfl,rfl,trivial⟩)))
  by_cases odd:cD lf i%2=1
  .rw[show(((cD lf i%2:Nat):Int)==1)=true from by simp;omega];refine ai J (λo ho=>cF Xj.two ho (J.Q 5) hS.h5) λa J=>?_
   iterate 4 refine ab J λa J=>?_
   refine Hj J 79 80 11 5 10 (jT KS s.id s.seed lf x i) rfl (λo ho hx=>EX ho hx) hS.h11 rfl λa J=>?_;refine bp J func65 (R:=λv w'=>v=.string (jT KS s.id s.seed lf x (i+1))/\Bw w3 w') ((kA SY Te s.id (pB KS s.seed (cD lf i)) (jT KS s.id s.seed lf x i) (cD lf i/2) o_ o_ w3 (Xj.mono hS.old)).mono λe w' h=>⟨_,h.1,by rw[jT,Cq,if_pos odd,if_pos odd],h.2⟩) λv w4 hv a J=>?_;obtain⟨rfl,Tk⟩:=hv;have hS:=hS.mono Tk;refine ab J λa J=>?_;refine vV J 82 81 10 rfl rfl hS.h11 rfl λa J=>?_;exact a9 rfl (tail a _ (hS.put (pH KS s lf x (i+1)) 10 (.string (jT KS s.id s.seed lf x (i+1))) rfl rfl) (J.only ⟨rfl,rfl,rfl,rfl,rfl,rfl,trivial⟩))
  .rw[show(((cD lf i%2:Nat):Int)==1)=false from by simp;omega];refine ai J (λo ho=>cF Xj.two ho (J.Q 5) hS.h5) λa J=>?_
   iterate 3 refine ab J λa J=>?_
   refine Hj J 87 88 11 5 10 (jT KS s.id s.seed lf x i) rfl (λo ho hx=>EX ho hx) hS.h11 rfl λa J=>?_;refine ab J λa J=>?_;refine bp J func65 (R:=λv w'=>v=.string (jT KS s.id s.seed lf x (i+1))/\Bw w3 w') ((kA SY Te s.id (jT KS s.id s.seed lf x i) (pB KS s.seed (cD lf i)) (cD lf i/2) o_ o_ w3 (Xj.mono hS.old)).mono λe w' h=>⟨_,h.1,by rw[jT,Cq,if_neg odd,if_neg odd],h.2⟩) λv w4 hv a J=>?_;obtain⟨rfl,Tk⟩:=hv;have hS:=hS.mono Tk;refine ab J λa J=>?_;refine vV J 91 90 10 rfl rfl hS.h11 rfl λa J=>?_;exact a9 rfl (tail a _ (hS.put (pH KS s lf x (i+1)) 10 (.string (jT KS s.id s.seed lf x (i+1))) rfl rfl) (J.only ⟨rfl,rfl,rfl,rfl,rfl,rfl,trivial⟩))
end

theorem EA(w:World)(cv:Array Value)(s:Sc):Sw w (((((w.alloc (.cells cv 26)).alloc (.cells (aX s.t s.c s.h s.wd s.n s.sh) 29)).alloc (.cells (Sc.mk 0 0 0 0 0 0 ⟨#[]⟩ 0 ⟨#[]⟩ ⟨#[]⟩ ⟨#[]⟩).cells 31)).alloc (.cells (Sc.mk 0 0 0 0 0 0 ⟨#[]⟩ 0 ⟨#[]⟩ ⟨#[]⟩ ⟨#[]⟩).cells 31)).setRow (w.heap.size+3) s.cells) cv s w.heap.size:=by
 have z1:(w.alloc (.cells cv 26)).heap.size=w.heap.size+1:=ay w _;have z2:((w.alloc (.cells cv 26)).alloc (.cells (aX s.t s.c s.h s.wd s.n s.sh) 29)).heap.size=w.heap.size+2:=by rw[ay,z1]
 have z3:(((w.alloc (.cells cv 26)).alloc (.cells (aX s.t s.c s.h s.wd s.n s.sh) 29)).alloc (.cells (Sc.mk 0 0 0 0 0 0 ⟨#[]⟩ 0 ⟨#[]⟩ ⟨#[]⟩ ⟨#[]⟩).cells 31)).heap.size=w.heap.size+3:=by rw[ay,z2]
 have a0:=aR w (.cells cv 26);have a1:=aR (w.alloc (.cells cv 26)) (.cells (aX s.t s.c s.h s.wd s.n s.sh) 29);have a2:=aR ((w.alloc (.cells cv 26)).alloc (.cells (aX s.t s.c s.h s.wd s.n s.sh) 29)) (.cells (Sc.mk 0 0 0 0 0 0 ⟨#[]⟩ 0 ⟨#[]⟩ ⟨#[]⟩ ⟨#[]⟩).cells 31);have a3:=aR (((w.alloc (.cells cv 26)).alloc (.cells (aX s.t s.c s.h s.wd s.n s.sh) 29)).alloc (.cells (Sc.mk 0 0 0 0 0 0 ⟨#[]⟩ 0 ⟨#[]⟩ ⟨#[]⟩ ⟨#[]⟩).cells 31)) (.cells (Sc.mk 0 0 0 0 0 0 ⟨#[]⟩ 0 ⟨#[]⟩ ⟨#[]⟩ ⟨#[]⟩).cells 31);rw[z1]at a1;rw[z2]at a2;rw[z3]at a3;have b0:=aJ w (.cells cv 26);have b1:=aJ (w.alloc (.cells cv 26)) (.cells (aX s.t s.c s.h s.wd s.n s.sh) 29);have b2:=aJ ((w.alloc (.cells cv 26)).alloc (.cells (aX s.t s.c s.h s.wd s.n s.sh) 29)) (.cells (Sc.mk 0 0 0 0 0 0 ⟨#[]⟩ 0 ⟨#[]⟩ ⟨#[]⟩ ⟨#[]⟩).cells 31);have b3:=aJ (((w.alloc (.cells cv 26)).alloc (.cells (aX s.t s.c s.h s.wd s.n s.sh) 29)).alloc (.cells (Sc.mk 0 0 0 0 0 0 ⟨#[]⟩ 0 ⟨#[]⟩ ⟨#[]⟩ ⟨#[]⟩).cells 31)) (.cells (Sc.mk 0 0 0 0 0 0 ⟨#[]⟩ 0 ⟨#[]⟩ ⟨#[]⟩ ⟨#[]⟩).cells 31);have s3:=λk hk=>setRow_other ((((w.alloc (.cells cv 26)).alloc (.cells (aX s.t s.c s.h s.wd s.n s.sh) 29)).alloc (.cells (Sc.mk 0 0 0 0 0 0 ⟨#[]⟩ 0 ⟨#[]⟩ ⟨#[]⟩ ⟨#[]⟩).cells 31)).alloc (.cells (Sc.mk 0 0 0 0 0 0 ⟨#[]⟩ 0 ⟨#[]⟩ ⟨#[]⟩ ⟨#[]⟩).cells 31)) (w.heap.size+3) k s.cells hk;refine⟨rfl,?_,?_,?_,?_,?_⟩
 .exact(ae (ae (ae b0 b0.size b1) (by rw[z2];omega) b2) (by rw[z3];omega) b3).trans (a_ _ _ _ o_)
 .exact(s3 _ o_).trans ((b3.block _ (by rw[z3];omega)).trans ((b2.block _ (by rw[z2];omega)).trans ((b1.block _ (by rw[z1];omega)).trans a0)))
 .exact(s3 _ o_).trans ((b3.block _ (by rw[z3];omega)).trans ((b2.block _ (by rw[z2];omega)).trans a1))
 .exact(s3 _ o_).trans ((b3.block _ (by rw[z3];omega)).trans a2)
 .exact setRow_heap _ _ _ _ _ _ a3
def ua(KS:List Int)(s:Sc):ByteArray:=j1 KS [s.id,ob (2^s.h+s.q) 4,ob 33410 2,j1 KS [s.id,ob s.q 4,ob 32896 2,lH KS s s.n]]
def dT(KS:List Int)(s:Sc):Sc:=pH KS s (2^s.h+s.q) (ua KS s) s.h
structure E7 (s:Sc):Prop where
 len:s.id.size+100+s.seed.size<=140737488355328
 id:s.id.size<=1000
 q:s.q<2^s.h
 h:s.h<=5
 wd:ox s.wd
 n:s.n<=136
theorem sG(KS:List Int)(s:Sc)(p r:ByteArray):∀i,lH KS {s with path:=p,root:=r} i=lH KS s i
 |0=>rfl
 |i+1=>by rw[lH,lH,sG KS s p r i];rfl
theorem yQ(SY:KS.length=64)(Te:iS KS)(s:Sc)(ok:E7 s)(w:World)(hC:jl KS cv w):
 Cl kX 28 #[.agg cv,.agg s.kind,.string s.id,.int .i64 s.q,.string s.seed] w λe w'=>e=.returned (.agg (dT KS s).cells)/\Bw w w':=by
 obtain⟨k1,k2,k3,k4,k5,k6⟩:=ok;have p5:2^s.h<=32:=az_ (OF d_ k4) d_;refine cJ (t:=10) (ty:=31) (n:=11) func28 rfl (by exact underlying31) rfl ma λcs=>?_;refine bv (N:=93) func28 OS λa J=>?_;refine bK ?_;refine tx J 5 0 26 rfl λa J=>?_;show Rn _ _ _ _ (w.alloc (.cells cv 26));refine tx J 6 1 29 rfl λa J=>?_;rw[ay]at J;show Rn _ _ _ _ ((w.alloc (.cells cv 26)).alloc (.cells (aX s.t s.c s.h s.wd s.n s.sh) 29));refine ai J (λo ho=>vr ho) λa J=>?_;rw[ay,ay]at J;have TR:=aR (w.alloc (.cells cv 26)) (.cells (aX s.t s.c s.h s.wd s.n s.sh) 29);have XW:=(bD ((w.alloc (.cells cv 26)).alloc (.cells (aX s.t s.c s.h s.wd s.n s.sh) 29)) (.cells (Sc.mk 0 0 0 0 0 0 ⟨#[]⟩ 0 ⟨#[]⟩ ⟨#[]⟩ ⟨#[]⟩).cells 31) (b:=(w.alloc (.cells cv 26)).heap.size) (by simp only[ay];omega)).trans TR;rw[ay]at XW;refine ai J (λo ho=>j2 ho (J.Q 6) XW) λa J=>?_
 iterate 3 refine ab J λa J=>?_
 refine ai J (λo ho=>EY (s:=s) ho (J.Q 17) (J.Q 18) (J.Q 19) (J.Q 20)) λa J=>?_;refine ai J (λo ho=>vr ho) λa J=>?_;have h11:=aR (((w.alloc (.cells cv 26)).alloc (.cells (aX s.t s.c s.h s.wd s.n s.sh) 29)).alloc (.cells (Sc.mk 0 0 0 0 0 0 ⟨#[]⟩ 0 ⟨#[]⟩ ⟨#[]⟩ ⟨#[]⟩).cells 31)) (.cells (Sc.mk 0 0 0 0 0 0 ⟨#[]⟩ 0 ⟨#[]⟩ ⟨#[]⟩ ⟨#[]⟩).cells 31);rw[ay,ay,ay]at J h11;refine aP J (λo ho=>aQ (cells:={s with path:=⟨#[]⟩,root:=⟨#[]⟩}.cells) ho (J.Q 11) (J.Q 21) h11 ma rfl (by simp[Sc.cells,ax4])) λa J=>?_;have hS:=EA w cv {s with path:=⟨#[]⟩,root:=⟨#[]⟩};clear TR XW h11;revert hS;show Sw w _ cv {s with path:=⟨#[]⟩,root:=⟨#[]⟩} w.heap.size->_;generalize (((((w.alloc (.cells cv 26)).alloc (.cells (aX s.t s.c s.h s.wd s.n s.sh) 29)).alloc (.cells (Sc.mk 0 0 0 0 0 0 ⟨#[]⟩ 0 ⟨#[]⟩ ⟨#[]⟩ ⟨#[]⟩).cells 31)).alloc (.cells (Sc.mk 0 0 0 0 0 0 ⟨#[]⟩ 0 ⟨#[]⟩ ⟨#[]⟩ ⟨#[]⟩).cells 31)).setRow (w.heap.size+3) {s with path:=⟨#[]⟩,root:=⟨#[]⟩}.cells)=w5;intro hS
 iterate 2 refine ab J λa J=>?_
 refine a9 rfl (a9 rfl (a9 rfl ?_));have hq32:s.q<32:=by omega
 refine JP SY Te hC (s:={s with path:=⟨#[]⟩,root:=⟨#[]⟩}) (by show s.id.size+3+s.seed.size<=_;omega) k2 (by show s.q<256;omega) k5 k6 (λa w hS J=>?_) s.n 0 a w5 rfl (ay7 _) hS (J.only ⟨rfl,rfl,rfl,rfl,rfl,rfl,rfl,rfl,rfl,trivial⟩);have hes:=mP KS {s with path:=⟨#[]⟩,root:=⟨#[]⟩} s.n;refine ai J (λo ho=>cF hC.two ho (J.Q 5) hS.h5) λa J=>?_;refine ai J (λo ho=>j2 ho (J.Q 6) hS.h6) λa J=>?_
 iterate 3 refine ab J λa J=>?_
 refine bp J func64 (R:=λv w'=>v=.string (ua KS s)/\Bw w w') ((xw SY Te s.id (lH KS {s with path:=⟨#[]⟩,root:=⟨#[]⟩} s.n) s.q s.h s.wd s.n s.sh s.t s.c o_ o_ o_ w (hC.mono hS.old)).mono λe w' h=>⟨_,h.1,by rw[ua,sG],h.2⟩) λv w6 hv a J=>?_;obtain⟨rfl,hb6⟩:=hv;have hS:=hS.mono hb6;refine ab J λa J=>?_;refine vV J 50 49 10 rfl rfl hS.h11 rfl λa J=>?_;have hS:=hS.put (pH KS s (2^s.h+s.q) (ua KS s) 0) 10 (.string (ua KS s)) rfl rfl;revert hS;generalize w6.setCell _ _=w7;intro hS;refine bK ?_;refine Hm J 51 52 6 2 (.int .i64 s.h) rfl hS.h6 d_ rfl λa J=>?_;have hp:(1:Int)*2^s.h=((2^s.h:Nat):Int):=by rw[aG3,ay1];rfl
 refine ai J (λo ho=>g_ (m:=1) (k:=s.h) ho rfl (J.Q 52) o_ (by rw[hp];omega)) λa J=>?_;rw[hp]at J;refine ab J λa J=>?_;refine ai J (λo ho=>eQ ho (J.Q 53) (J.Q 54) (by show _<=((2^s.h:Nat):Int)+(s.q:Int)/\_+(s.q:Int)<_;omega)) λa J=>?_;refine ab J λa J=>?_;refine a9 rfl (a9 rfl (a9 rfl ?_));refine JO SY Te hC (s:=s) (lf:=2^s.h+s.q) (x:=ua KS s) (fh KS _) o_ (by rw[aL0];omega) o_ o_ o_ k2 (λa w hS J=>?_) s.h 0 a w7 rfl (ay7 _) hS (J.only ⟨rfl,rfl,rfl,rfl,rfl,?_,trivial⟩)
 .refine ai J (λo ho=>ny ho (J.Q 11) hS.h11) λa J=>?_;refine aP J (λo ho=>aQ (cells:=(dT KS s).cells) ho (J.Q 10) (J.Q 92) hS.h10 ma rfl (by simp[Sc.cells,ax4])) λa J=>?_;exact a9 rfl (aS rfl (.inr ⟨_,rfl⟩) (bj ⟨a,_,_,_,_,rfl,J.defers,J.slot 10 _ rfl,setRow_heap _ _ _ _ _ _ hS.h10,rfl,rfl,hS.old.trans (a_ _ _ _ o_)⟩))
 .show some (Value.int .i64 (((2^s.h:Nat):Int)+(s.q:Int)))=some (Value.int .i64 ((2^s.h+s.q:Nat):Int));rw[aA8]

theorem Kl{s:Sc}{salt:ByteArray}(hq:s.q<1000)(hc:s.c<1000)(VP:salt.size<=1000)(Tr:w.heap[b4]?=some (.cells s.cells 31))
 (J:aB [(2,.string salt),(3,.string msg),(4,.pk b3 0),(5,.pk b4 0)] 68 [] a)
 (next:∀a w',(Bw w w'/\aB [(9,.string (ob s.q 4++ob s.c 4++salt)),(2,.string salt),(3,.string msg),(4,.pk b3 0),(5,.pk b4 0)] 68 [] a)->Rn kX Goal (fr.atR a K) cs w'):
 Rn kX Goal (fr.atR a (.code (rD f11 1)::K)) cs w:=by
 refine cC J ?_;refine aj (v:=.pk b4 7) ?_;refine aj (v:=.int .i64 s.q) ?_;refine cy (v:=.string (ob s.q 4)) func29 (λw1 hb _=>(gj (s.q) 4 _ d_ o_)) ?_;refine aj (v:=.pk b4 0) ?_;refine aj (v:=.pk b4 1) ?_;refine aj (v:=.int .i64 s.c) ?_;refine cy (v:=.string (ob s.c 4)) func29 (λw1 hb _=>(gj (s.c) 4 _ d_ o_)) ?_;refine aj (v:=.string (ob s.q 4++ob s.c 4)) ?_;refine aj ?_;refine aj (v:=.string (ob s.q 4++ob s.c 4++salt)) ?_;refine aj ?_;exact cc λa w' J hb _=>next a w' ⟨hb,J.O⟩
theorem Kk(SY:KS.length=64)(Te:iS KS){s:Sc}{salt o9 Qb:ByteArray}(Zj:Qb=j1 KS [s.id,ob s.q 4,ob 33153 2,salt,msg])(hw:ox s.wd)(hsh:s.sh<=8)(Um:1<=s.n)(TZ:s.n<=34*(8/s.wd))(hq:s.q<1000)(hlen:s.id.size+6+salt.size+msg.size<=281474976710400)(hC:jl KS cv w)(TF:w.heap[b3]?=some (.cells cv 26))(Tr:w.heap[b4]?=some (.cells s.cells 31))
 (J:aB [(2,.string salt),(3,.string msg),(4,.pk b3 0),(5,.pk b4 0),(9,.string o9)] 68 [] a)
 (next:∀a w',(Bw w w'/\∃v,iQ s.n (λc=>cP (iO Qb.data.toList s.wd s.sh) s.wd c) v w'/\aB [(10,v),(2,.string salt),(3,.string msg),(4,.pk b3 0),(5,.pk b4 0),(9,.string o9)] 68 [] a)->Rn kX Goal (fr.atR a K) cs w'):
 Rn kX Goal (fr.atR a (.code (rD f11 2)::K)) cs w:=by
 refine cC J ?_;refine aj ?_;refine aj ?_ (y:=λo a w1 ho z=>EW ho gx (bk z.b Tr));refine aj ?_ (y:=λo a w1 ho z=>cF hC.two ho gx (bk z.b TF))
 iterate 6 refine aj ?_
 refine cy (v:=.string Qb) func31 (λw1 hb _=>kq (nI SY Te s.id salt msg s.q o_ hlen w1 (hC.mono hb)) (congrArg Value.string Zj.symm)) ?_;refine Hy [.inr (iQ s.n λc=>cP (iO Qb.data.toList s.wd s.sh) s.wd c),.inr (iQ s.n λc=>cP (iO Qb.data.toList s.wd s.sh) s.wd c)] ?_;refine Ed (λ_ _ _=>iQ.mono) func30 (λw1 _ _=>BU Qb s.t s.c s.h s.wd s.n s.sh w1 hw hsh Um TZ (by rw[Zj];exact fh _ _)) λv=>?_;exact wi (λ_ _ _=>iQ.mono) (λv2=>oE λa w' J hb hM=>next a w' ⟨hb,v2,hM.1 rfl,J.only ⟨rfl,rfl,rfl,rfl,rfl,rfl,trivial⟩⟩) (y:=λo a w ho z=>⟨v,w,vj ho gx,(z.m _ (aw8 _ _)).1 k_,aw8 _ _⟩)
theorem Kj(SY:KS.length=64)(Te:iS KS){s:Sc}{o9:ByteArray}{d cap:Nat}(UF:i<s.n)(hn:s.n<=136)(Dn:d<256)(hlen:s.id.size+3+s.seed.size<=140737488355328)(TW:s.id.size<=1000)(hq:s.q<1000)(Uy:gb<w.heap.size)(hd:w.cell? ⟨gb,i,none⟩=some (.int .i64 (d:Int)))(hC:jl KS cv w)(TF:w.heap[b3]?=some (.cells cv 26))(Tr:w.heap[b4]?=some (.cells s.cells 31))
 (J:aB [(4,.pk b3 0),(5,.pk b4 0),(9,.string o9),(10,.sk gb s.n cap),(11,.int .i64 i)] 68 [] a)
 (next:∀a w',(Bw w w'/\aB [(12,.string (yy KS s.id s.q i d 0 (jD KS s i))),(4,.pk b3 0),(5,.pk b4 0),(9,.string o9),(10,.sk gb s.n cap),(11,.int .i64 i)] 68 [] a)->Rn kX Goal (fr.atR a K) cs w'):
 Rn kX Goal (fr.atR a (.code (rD f11 6)::K)) cs w:=by
 refine cC J ?_;refine aj (v:=.agg cv) ?_;refine aj (v:=.pk b4 6) ?_;refine aj (v:=.string s.id) ?_ (y:=λo a w1 ho z=>((av bU ho gx ((ar ((z.b.block _ (av9.1 Tr).1).trans Tr) 6).trans rfl)).1));refine aj (v:=.pk b4 7) ?_;refine aj (v:=.int .i64 s.q) ?_;refine aj ?_;refine aj ?_;refine aj ?_;refine aj (v:=.pk gb i) ?_ (y:=λo a w1 ho z=>dq ((bR (w:=_) (t:=24) (e:=3) k_ (λw=>by kernel_rfl) ho gx gx UF).1) (by rw[gG,aw9]<;>rfl));refine aj (v:=.int .i64 (d:Int)) ?_ (y:=λo a w1 ho z=>((av (v:=.int .i64 (d:Int)) aC ho gx ((aE7 (w:=w) (a:=⟨gb,i,none⟩) (z.b.block gb Uy)).trans hd)).1));refine aj (v:=.agg cv) ?_;refine aj (v:=.agg s.cells) ?_ (y:=λo a w1 ho z=>(ny ho gx ((z.b.block _ (av9.1 Tr).1).trans Tr)));refine aj ?_;refine cy (v:=.string (jD KS s i)) func33 (λw1 hb _=>(tJ SY Te s i o_ hlen _ (hC.mono hb))) ?_;refine cy (v:=.string (yy KS s.id s.q i d 0 (jD KS s i))) func32 (λw1 hb _=>(zn SY Te s.id (jD KS s i) s.q i 0 d o_ o_ d_ o_ TW (dx KS _) _ (hC.mono hb))) ?_;refine aj ?_;exact cc λa w' J hb _=>next a w' ⟨hb,J.O⟩
theorem Ki{s:Sc}{o9:ByteArray}(ht:s.t<1000)(ho:o9.size<=100000)(hp:s.path.size<=1000)(Tr:w.heap[b4]?=some (.cells s.cells 31))
 (J:aB [(5,.pk b4 0),(9,.string o9)] 68 [] a)
 (next:∀a w',(Bw w w'/\aB [(8,.string (o9++ob s.t 4++s.path)),(5,.pk b4 0),(9,.string o9)] 68 [] a)->Rn kX Goal (fr.atR a K) cs w'):
 Rn kX Goal (fr.atR a (.code (rD f11 8)::K)) cs w:=by
 refine cC J ?_;refine aj ?_;refine aj (v:=.pk b4 0) ?_;refine aj (v:=.pk b4 0) ?_;refine aj (v:=.int .i64 s.t) ?_;refine cy (v:=.string (ob s.t 4)) func29 (λw1 hb _=>(gj (s.t) 4 _ d_ o_)) ?_;refine aj (v:=.string (o9++ob s.t 4)) ?_;refine aj (v:=.pk b4 9) ?_;refine aj (v:=.string s.path) ?_ (y:=λo a w1 ho z=>((av bU ho gx ((ar ((z.b.block _ (av9.1 Tr).1).trans Tr) 9).trans rfl)).1));refine aj (v:=.string (o9++ob s.t 4++s.path)) ?_;refine aj ?_;exact cc λa w' J hb _=>next a w' ⟨hb,J.O⟩

def zJ(f:Func):Code:=.seq (.seq (rG f 4) (.cond (.tmp 38) .skip (.exit 0))) (.seq (.block 1 (.seq (rD f 6) (rG f 7))) (rG f 5))
theorem OY:f11.body=some (.seq (rG f11 0) (.seq (rD f11 1) (.seq (rD f11 2) (.seq (.seq (rG f11 3) (.block 0 (.loop (zJ f11)))) (.seq (rD f11 8) .ret))))):=by kernel_rfl
def D5(KS:List Int)(s:Sc)(dg:Nat->Nat)(x:ByteArray):Nat->ByteArray
 |0=>x
 |i+1=>D5 KS s dg x i++yy KS s.id s.q i (dg i) 0 (jD KS s i)
theorem BP(KS:List Int)(s:Sc)(i d:Nat):(yy KS s.id s.q i d 0 (jD KS s i)).size=32:=lE KS s.id s.q i d 0 _ (dx KS _)
theorem m7(KS:List Int)(s:Sc)(dg:Nat->Nat)(x:ByteArray):∀i,(D5 KS s dg x i).size=x.size+32*i
 |0=>rfl
 |i+1=>by rw[D5,ax3,m7 KS s dg x i,BP];omega
section
variable(SY:KS.length=64)(Te:iS KS)(Xj:jl KS cv w0){s:Sc}{cap:Nat}(Y0:w0.heap[b3]?=some (.cells cv 26))(VO:w0.heap[b4]?=some (.cells s.cells 31))
include SY Te Xj Y0 VO
theorem zI{dg:Nat->Nat}{x:ByteArray}(hx:x.size<=2000)(hlen:s.id.size+3+s.seed.size<=140737488355328)(TW:s.id.size<=1000)(hq:s.q<1000)(hn:s.n<=136)(Dn:∀c,dg c<256)(Uy:gb<w0.heap.size)(Xf:∀c,c<s.n->w0.cell? ⟨gb,c,none⟩=some (.int .i64 (dg c)))
 (next:∀a w,Bw w0 w->aB [(5,.pk b4 0),(9,.string (D5 KS s dg x s.n))] 68 [] a->Rn kX Goal (fr.atR a K) cs w):
 ∀(m i:Nat) (a:Act) (w:World),s.n- i=m->i<=s.n->Bw w0 w->aB [(4,.pk b3 0),(5,.pk b4 0),(10,.sk gb s.n cap),(9,.string (D5 KS s dg x i)),(11,.int .i64 i)] 68 [] a->
  Rn kX Goal (fr.atR a (.code (zJ f11):: .inLoop (zJ f11):: .inBlock 0::K)) cs w:=by
 intro m;induction m with
 |zero=>
  intro i a w hm hi hB J;have Tr:=(hB.block _ (av9.1 VO).1).trans VO
  iterate 5 refine ab J λa J=>?_
  refine a9 rfl (ak _ (J.Q 38) ?_);rw[decide_eq_false o_];have e:i=s.n:=by omega
  subst e;exact a9 rfl (next a w hB (J.only ⟨rfl,rfl,trivial⟩))
 |succ m ih=>
  intro i a w hm hi hB J;have Tr:=(hB.block _ (av9.1 VO).1).trans VO;have TO:=m7 KS s dg x i
  iterate 5 refine ab J λa J=>?_
  refine a9 rfl (ak _ (J.Q 38) ?_);rw[decide_eq_true o_];refine a9 rfl (a9 rfl (a9 rfl (a9 rfl ?_)));refine Kj (d:=dg i) SY Te o_ hn (Dn i) hlen TW hq (aw2 Uy hB.size) ((aE7 (w:=w0) (a:=⟨gb,i,none⟩) (hB.block gb Uy)).trans (Xf i o_)) (Xj.mono hB) ((hB.block _ (av9.1 Y0).1).trans Y0) Tr (J.only ⟨rfl,rfl,rfl,rfl,rfl,trivial⟩) λa w2 ⟨S_,J⟩=>?_
  iterate 2 refine ab J λa J=>?_
  refine AL J 58 56 57 rfl rfl (by rw[BP];omega) λa J=>?_
  iterate 4 refine ab J λa J=>?_
  refine a9 rfl (a9 rfl (ih (i+1) a w2 o_ o_ (ae hB hB.size S_) (J.only ⟨rfl,rfl,rfl,rfl,?_,trivial⟩)));rw[aA8];rfl
end
def GI(KS:List Int)(s:Sc)(salt msg:ByteArray)(c:Nat):Nat:=cP (iO (j1 KS [s.id,ob s.q 4,ob 33153 2,salt,msg]).data.toList s.wd s.sh) s.wd c
def CH(KS:List Int)(s:Sc)(salt msg:ByteArray):ByteArray:=D5 KS s (GI KS s salt msg) (ob s.q 4++ob s.c 4++salt) s.n++ob s.t 4++s.path
theorem EE(SY:KS.length=64)(Te:iS KS)(s:Sc)(salt msg:ByteArray)(ok:E7 s)(hsh:s.sh<=8)(Um:1<=s.n)(TZ:s.n<=34*(8/s.wd))(ht:s.t<1000)(hc:s.c<1000)(hp:s.path.size<=1000)(VP:salt.size<=1000)(hlen:s.id.size+6+salt.size+msg.size<=281474976710400)(w:World)(hC:jl KS cv w):
 Cl kX 11 #[.agg cv,.agg s.cells,.string salt,.string msg] w λe w'=>e=.returned (.string (CH KS s salt msg))/\Bw w w':=by
 obtain⟨k1,k2,k3,k4,k5,k6⟩:=ok;have p5:2^s.h<=32:=az_ (OF d_ k4) d_;have h2:2^s.wd<=256:=by rcases k5 with h|h|h<;>rw[h]<;>decide
 refine az (N:=68) func11 OY λcs a J=>?_;refine bK ?_;refine tx J 4 0 26 rfl λa J=>?_;show Rn _ _ _ _ (w.alloc (.cells cv 26));refine tx J 5 1 31 rfl λa J=>?_;rw[ay]at J;show Rn _ _ _ _ ((w.alloc (.cells cv 26)).alloc (.cells s.cells 31));have SZ:Bw w ((w.alloc (.cells cv 26)).alloc (.cells s.cells 31)):=ae (aJ w _) (by rw[ay];omega) (aJ _ _);have h5:=(bD (w.alloc (.cells cv 26)) (.cells s.cells 31) (b:=w.heap.size) (by rw[ay];omega)).trans (aR w _);have h6:=aR (w.alloc (.cells cv 26)) (.cells s.cells 31);rw[ay]at h6;revert SZ h5 h6;generalize (w.alloc (.cells cv 26)).alloc (.cells s.cells 31)=w1;intro SZ h5 h6;refine ab J λa J=>?_;refine a9 rfl (a9 rfl ?_);refine Kl o_ hc VP h6 (J.only ⟨rfl,rfl,rfl,rfl,trivial⟩) λa w2 ⟨S_,J⟩=>?_;have TK:=ae SZ SZ.size S_;have h52:=(S_.block _ (av9.1 h5).1).trans h5;have h62:=(S_.block _ (av9.1 h6).1).trans h6;refine a9 rfl ?_;refine Kk (Qb:=j1 KS [s.id,ob s.q 4,ob 33153 2,salt,msg]) SY Te rfl k5 hsh Um TZ o_ hlen (hC.mono TK) h52 h62 (J.only ⟨rfl,rfl,rfl,rfl,rfl,trivial⟩) λa w3 ⟨Td,vg,Ub,J⟩=>?_;have TL:=ae TK TK.size Td;have h53:=(Td.block _ (av9.1 h52).1).trans h52;have Ys:=(Td.block _ (av9.1 h62).1).trans h62;obtain⟨gb,cap,rfl,Uy,Xf⟩:=Ub;refine ab J λa J=>?_;refine a9 rfl (a9 rfl (a9 rfl ?_));have Dn:∀c,GI KS s salt msg c<256:=λc=>by
  have:=lI (iO (j1 KS [s.id,ob s.q 4,ob 33153 2,salt,msg]).data.toList s.wd s.sh) s.wd c;have ht2:cM s.wd<256:=by unfold cM;omega
  unfold GI;omega
 have hHs:(ob s.q 4++ob s.c 4++salt).size<=1000+8:=by simp only[ax3,ce];omega
 refine zI (dg:=GI KS s salt msg) (x:=ob s.q 4++ob s.c 4++salt) SY Te (hC.mono TL) h53 Ys o_ o_ k2 o_ k6 Dn Uy Xf (λa w4 TG J=>?_) s.n 0 a w3 rfl (ay7 _) (aw8 _ _) (J.only ⟨rfl,rfl,rfl,rfl,rfl,trivial⟩);have h64:=(TG.block _ (av9.1 Ys).1).trans Ys;have TO:=m7 KS s (GI KS s salt msg) (ob s.q 4++ob s.c 4++salt) s.n;refine a9 rfl ?_;refine Ki ht o_ hp h64 (J.only ⟨rfl,rfl,trivial⟩) λa w5 ⟨TI,J⟩=>?_;have WC:=ae (ae TL TL.size TG) (by have:=TL.size;have:=TG.size;omega) TI;exact aH J ⟨rfl,WC⟩



structure yc (s:Sc):Prop where
 t:s.t=226\/s.t=5
 c:s.c=2\/s.c=3\/s.c=4
 h:s.h=cn s.t
 wd:s.wd=dB s.c
 n:s.n=eC s.c
 sh:s.sh=ei s.c
 id:s.id.size=16
 q:s.q<2^s.h
def Gb(s:Sc):ByteArray:=ob s.t 4++ob s.c 4++s.id++s.root

theorem QD(SY:KS.length=64)(Te:iS KS){s:Sc}{b8 b10:Nat}(hX:Xn=⟨(dG KS s.seed.data.toList).toArray⟩)(hXs:Xn.size=32)(TW:s.id=Xn.extract 0 16)(hq:s.q=eF qi (2^s.h))(ok:E7 s)(hh:s.h<=5)(Yu:2^s.h<=32)(h21:1<=2^s.h)(VS: -9223372036854775808<=qi/\qi<9223372036854775808)(U8:s.seed.size<=140737488355328)(hC:jl KS cv w)(TF:w.heap[b3]?=some (.cells cv 26))(h8:w.heap[b8]?=some (.cells (Sc.mk 0 0 0 0 0 0 ⟨#[]⟩ 0 ⟨#[]⟩ ⟨#[]⟩ ⟨#[]⟩).cells 31))(TR:w.heap[b10]?=some (.cells (aX s.t s.c s.h s.wd s.n s.sh) 29))
 (J:aB [(2,.int .i64 qi),(3,.string s.seed),(4,.pk b3 0),(8,.pk b8 0),(10,.pk b10 0)] 36 [] a)
 (next:∀a w',(∃w1,Bw w w1/\w'=w1.setRow b8 (dT KS s).cells/\aB [(8,.pk b8 0)] 36 [] a)->Rn kX Goal (fr.atR a K) cs w'):
 Rn kX Goal (fr.atR a (.code (rD Tryz.f9 5)::K)) cs w:=by
 refine ie 13 J ?_;refine aj (v:=.agg cv) ?_;refine aj (v:=.agg s.kind) ?_ (y:=λo a w1 ho z=>(j2 ho gx ((z.b.block _ (av9.1 TR).1).trans TR)));refine aj (v:=.agg cv) ?_;refine aj ?_;refine cy (v:=.string Xn) func12 (λw1 hb _=>(kq (js KS SY Te cv s.seed _ (hC.mono hb) o_) (congrArg Value.string hX.symm))) ?_;refine aj (v:=.string s.id) ?_ (y:=λo a w1 ho z=>dq (Fi (n:=16) ho gx rfl (by rw[hXs];decide)) (by exact congrArg Value.string TW.symm));refine aj ?_;refine aj (v:=.pk b10 2) ?_;refine aj (v:=.int .i64 s.h) ?_;refine aj (v:=.int .i64 ((2^s.h:Nat):Int)) ?_ (y:=λo a w1 ho z=>by
  have hp:(1:Int)*2^s.h=((2^s.h:Nat):Int):=by rw[aG3,ay1];rfl
  exact dq (g_ (m:=1) (k:=s.h) ho rfl gx o_ (by rw[hp];omega)) (by rw[hp]<;>rfl))
 refine cy (v:=.int .i64 s.q) func17 (λw1 hb _=>(kq ((gJ qi (2^s.h) VS (aU8 d_) _).mono λe Tm h=>⟨h.1,by rw[h.2];exact aw8 _ _⟩) (congrArg (λn:Nat=>Value.int .i64 (n:Int)) hq.symm))) ?_;refine aj ?_;refine cy (v:=.agg (dT KS s).cells) func28 (λw1 hb _=>(yQ SY Te s ok _ (hC.mono hb))) ?_;refine cc λa w' J hB _ rest hgo=>?_;exact iP J (.store 31 (.tmp 8) (.tmp 35)) k_ s_ (λo ho=>aQ (cells:=(dT KS s).cells) ho (J.Q 8) (J.Q 35) ((hB.block _ (av9.1 h8).1).trans h8) ma rfl (by simp[Sc.cells,ax4])) λa J=>hgo _ _ (next a _ ⟨_,hB,rfl,J.only ⟨rfl,trivial⟩⟩)

def t4(f:Func):Code:=.seq (rG f 4) (.seq (rD f 5) .ret)
theorem QQ:Tryz.f9.body=some (.seq (rG Tryz.f9 0) (.seq (rG Tryz.f9 1) (.seq (.seq (rG Tryz.f9 2) (.cond (.tmp 14) (rG Tryz.f9 3) .skip)) (t4 Tryz.f9)))):=by kernel_rfl
def RG(KS:List Int)(t c:Nat)(seed:ByteArray)(qi:Int):Sc:={t:=t,c:=c,h:=cn t,wd:=dB c,n:=eC c,sh:=ei c,id:=(⟨(dG KS seed.data.toList).toArray⟩:ByteArray).extract 0 16,q:=eF qi (2^cn t),seed:=seed,path:=⟨#[]⟩,root:=⟨#[]⟩}
theorem M2(KS:List Int){t c:Nat}(seed:ByteArray)(qi:Int)(ht:t=226\/t=5)(hc:c=2\/c=3\/c=4):yc (RG KS t c seed qi):=by
 refine⟨ht,hc,rfl,rfl,rfl,rfl,?_,iH qi (aU8 d_)⟩;show(ByteArray.extract _ 0 16).size=16;rw[aw6,dx];decide
theorem yc.ok{s:Sc}(k:yc s)(hs:s.seed.size<=140737488351232):E7 s:=by
 obtain⟨k1,k2,k3,k4,k5,k6,k7,k8⟩:=k;have hh:s.h<=5:=by rcases k1 with e|e<;>rw[k3,e]<;>decide
 have hw:ox s.wd:=by rcases k2 with e|e|e<;>rw[k4,e]<;>first|exact .inl rfl|exact .inr (.inl rfl)|exact .inr (.inr rfl)
 have hn:s.n<=136:=by rcases k2 with e|e|e<;>rw[k5,e]<;>decide
 exact⟨by omega,by omega,k8,hh,hw,hn⟩
section
variable(SY:KS.length=64)(Te:iS KS){chains:Int}(VF: -9223372036854775808<=chains/\chains<9223372036854775808)(VS: -9223372036854775808<=qi/\qi<9223372036854775808)(U8:seed.size<=140737488351232)
 (fin:∀(s:Sc) (a:Act) (w':World),yc s->s.seed=seed->Bw w0 w'->w'.heap[w0.heap.size+1]?=some (.cells (dT KS s).cells 31)->aB [(8,.pk ((w0.heap.size+1)) 0)] 36 [] a->Rn kX Goal ((base 9).atR a [.code .ret]) cs w')
include SY Te VF VS U8 fin
theorem PN{t:Nat}(ht:t=226\/t=5)(hold:Bw w0 w)(hC:jl KS cv w0)(TF:w.heap[w0.heap.size]?=some (.cells cv 26))(h8:w.heap[w0.heap.size+1]?=some (.cells (Sc.mk 0 0 0 0 0 0 ⟨#[]⟩ 0 ⟨#[]⟩ ⟨#[]⟩ ⟨#[]⟩).cells 31))
 (J:aB [(1,.int .i64 chains),(2,.int .i64 qi),(3,.string seed),(4,.pk w0.heap.size 0),(8,.pk ((w0.heap.size+1)) 0),(9,.int .i64 t)] 36 [] a):Rn kX Goal ((base 9).atR a [.code (t4 Tryz.f9)]) cs w:=by
 iterate 2 refine ab J λa J=>?_
 refine qW J 18 17 3 rfl VF d_ λr hr a J=>?_;refine ab J λa J=>?_;rw[show(2:Int)+(r:Int)=((2+r:Nat):Int)from by omega]at J;have hc:2+r=2\/2+r=3\/2+r=4:=by omega
 revert hc J;generalize 2+r=c;intro J hc;refine bp J func27 (R:=λv w'=>(∃q:Bool,v=.tuple #[.agg (aX t c (cn t) (dB c) (eC c) (ei c)),.bool q])/\Bw w w') ((sj t c w).mono λe w' h=>⟨_,h.1,⟨_,rfl⟩,h.2⟩) λv w1 hv a J=>?_;obtain⟨⟨q,rfl⟩,SZ⟩:=hv
 iterate 3 refine ab J λa J=>?_
 refine bA J (λo ho=>qP ho) λw2 a S_ h9 _ J=>?_;refine aP J (λo ho=>aQ (cells:=(aX t c (cn t) (dB c) (eC c) (ei c))) ho (J.Q 10) (J.Q 21) h9 so rfl (by simp[aX,ax4])) λa J=>?_;have TR:=setRow_heap w2 w1.heap.size _ (aX t c (cn t) (dB c) (eC c) (ei c)) _ _ h9;have Td:Bw w (w2.setRow w1.heap.size (aX t c (cn t) (dB c) (eC c) (ei c))):=(ae SZ SZ.size S_).trans (a_ _ _ _ SZ.size);revert TR Td;generalize w2.setRow w1.heap.size (aX t c (cn t) (dB c) (eC c) (ei c))=w3;intro TR Td;have UA:=ae hold hold.size Td;have hbox3:=bk Td TF;have h83:=bk Td h8;refine ab J λa J=>?_;refine a9 rfl (a9 rfl ?_);have kd:=M2 KS seed qi ht hc;have ok:=kd.ok U8;have h5:cn t<=5:=ok.h;have p5:2^cn t<=32:=az_ (OF d_ h5) d_;refine QD (s:=RG KS t c seed qi) (b10:=w1.heap.size) SY Te rfl (dx KS _) rfl rfl ok h5 p5 aN9 VS (az_ U8 d_) (hC.mono UA) hbox3 h83 TR (J.only ⟨rfl,rfl,rfl,rfl,rfl,trivial⟩) λa w5 ⟨w4,Tk,e5,J⟩=>?_;subst e5;have h84:=bk Tk h83;exact fin (RG KS t c seed qi) a _ kd rfl ((ae UA UA.size Tk).trans (a_ _ _ _ o_)) (setRow_heap _ _ _ _ _ _ h84) J
end
theorem wN(SY:KS.length=64)(Te:iS KS)(chains qi:Int)(seed:ByteArray)(VF: -9223372036854775808<=chains/\chains<9223372036854775808)(VS: -9223372036854775808<=qi/\qi<9223372036854775808)(U8:seed.size<=140737488351232)(w:World)(hC:jl KS cv w):
 Cl kX 9 #[.agg cv,.int .i64 chains,.int .i64 qi,.string seed] w λe w'=>∃s:Sc,yc s/\s.seed=seed/\e=.returned (.agg (dT KS s).cells)/\Bw w w':=by
 refine cJ (t:=8) (ty:=31) (n:=11) func9 rfl (by exact underlying31) rfl ma λcs=>?_;refine bv (N:=36) func9 QQ λa J=>?_;refine bK ?_;refine tx J 4 0 26 rfl λa J=>?_;show Rn _ _ _ _ (w.alloc (.cells cv 26));refine ai J (λo ho=>vr ho) λa J=>?_;rw[ay]at J;have SZ:Bw w ((w.alloc (.cells cv 26)).alloc (.cells (Sc.mk 0 0 0 0 0 0 ⟨#[]⟩ 0 ⟨#[]⟩ ⟨#[]⟩ ⟨#[]⟩).cells 31)):=ae (aJ w _) (by rw[ay];omega) (aJ _ _);have h5:=(bD (w.alloc (.cells cv 26)) (.cells (Sc.mk 0 0 0 0 0 0 ⟨#[]⟩ 0 ⟨#[]⟩ ⟨#[]⟩ ⟨#[]⟩).cells 31) (b:=w.heap.size) (by rw[ay];omega)).trans (aR w _);have h6:=aR (w.alloc (.cells cv 26)) (.cells (Sc.mk 0 0 0 0 0 0 ⟨#[]⟩ 0 ⟨#[]⟩ ⟨#[]⟩ ⟨#[]⟩).cells 31);rw[ay]at h6;revert SZ h5 h6;generalize (w.alloc (.cells cv 26)).alloc (.cells (Sc.mk 0 0 0 0 0 0 ⟨#[]⟩ 0 ⟨#[]⟩ ⟨#[]⟩ ⟨#[]⟩).cells 31)=w1;intro SZ h5 h6;have go4:=λ(t:Nat) (ht:t=226\/t=5) (a:Act) J=>PN (Goal:=λg w'=>∃(a:Act) (k:List Item) (bk:Nat) (cells:Array Value) (tt:TypeId),g=dj {(base 9).atR a k with mode:=.returning} cs/\a.defers=[]/\a.tmps[8]?=some (.pk bk 0)/\w'.heap[bk]?=some (.cells cells tt)/\cells.size=11/\∃s:Sc,yc s/\s.seed=seed/\aB2 (.agg cells)=.returned (.agg (dT KS s).cells)/\Bw w w') (cs:=cs) (w0:=w) (w:=w1) (a:=a) (t:=t) SY Te VF VS U8 (λs a w' kd es hb hw J=>aS rfl (.inr ⟨_,rfl⟩) (bj ⟨a,_,_,_,_,rfl,J.defers,J.slot 8 _ rfl,hw,rfl,s,kd,es,rfl,hb⟩)) ht SZ hC h5 h6 J
 iterate 2 refine ab J λa J=>?_
 refine qW J 13 12 64 rfl VS d_ λr hr a J=>?_;refine ab J λa J=>?_;refine a9 rfl (ak _ (J.Q 14) ?_);cases decide ((r:Int)≥32)with
 |true=>
  refine ab J λa J=>?_;exact a9 rfl (go4 5 (.inr rfl) a (J.only ⟨rfl,rfl,rfl,rfl,rfl,rfl,trivial⟩))
 |false=>exact a9 rfl (go4 226 (.inl rfl) a (J.only ⟨rfl,rfl,rfl,rfl,rfl,rfl,trivial⟩))

theorem RH(j:Nat)(hj:j<4)(SS:o.op=.fieldAddr 23 x j)(hx:ev x=.pk b 0):(execOp ev o).run prog w=.ok (.value (.pk b j)) w:=by
 have e:execOp ev o=(do pure (.value (←aw1 23 (.pk b 0) j))):=by simp only[execOp,SS,hx]
 have h2:(do pure (.value (←aw1 23 (.pk b 0) j)):Sem Next).run prog w=.ok (.value (.pk b j)) w:=by
  rcases(by omega:j=0\/j=1\/j=2\/j=3)with rfl|rfl|rfl|rfl<;>kernel_rfl
 rw[e,h2]
theorem Bf{g:Addr}{c t:Nat}(SS:o.op=.call {callee:=.builtin .len,args:=#[.tmp t],argTypes:=#[83]})(hx:ev (.tmp t)=.slice (some g) l c):(execOp ev o).run prog w=.ok (.value (.int .i64 l)) w:=by
 have hu:prog.underlying 83=some (.slice 5):=by kernel_rfl
 simp[execOp,SS,resolve,hx,invoke,builtin,aM1,run_underlying hu,goInt]
theorem Ja{g:Addr}{len cap:Nat}(SS:o.op=.slice 83 x none (some y) none)(hx:ev x=.slice (some g) len cap)(hy:ev y=.int .i64 n)(h:n<=cap):(execOp ev o).run prog w=.ok (.value (.slice (some g) n cap)) w:=by
 have hu:prog.underlying 83=some (.slice 5):=by kernel_rfl
 have hz:(sizeOf 5).run prog w=.ok 1 w:=by kernel_rfl
 simp[execOp,SS,hx,hy,az5,aD8,ay6,run_underlying hu,ay8,asIntOf,h,hz,aF6]
theorem Fb(SS:o.op=.convert 9 83 x)(hx:ev x=.string s):(execOp ev o).run prog w=.ok (.value (.sk w.heap.size s.size (grownCap w s.size 0 5))) (w.drew.alloc (.cells (bytesRow s (grownCap w s.size 0 5)) 5 ((bytesRow s (grownCap w s.size 0 5)).size,(bytesRow s (grownCap w s.size 0 5)).size+1))):=by
 have h:=run_bytes_of_string (P:=prog) w 9 83 5 s k_ k_ k_;have e:execOp ev o=(do pure (.value (←convert 9 83 (.string s)))):=by simp only[execOp,SS,hx]
 rw[e];simp[h]
theorem rI{cap:Nat}{l:List UInt8}(SS:o.op=.convert 83 9 x)(hx:ev x=.sk g l.length cap)(hc:∀j (hj:j<l.length),w.cell? ⟨g,j,none⟩=some (.int .u8 (l[j].toNat:Int))):(execOp ev o).run prog w=.ok (.value (.string ⟨l.toArray⟩)) w:=by
 have h:=run_convert_bytes_back (P:=prog) w 83 9 5 ⟨g,0,none⟩ cap l k_ k_ k_ (λj hj=>by rw[az3,aw9];exact hc j hj);have e:execOp ev o=(do pure (.value (←convert 83 9 (.sk g l.length cap)))):=by simp only[execOp,SS,hx]
 rw[e];simp[h]
theorem jW{m:Int}(SS:o.op=.convert 3 5 x)(hx:ev x=.int .i64 m):(execOp ev o).run prog w=.ok (.value (.int .u8 (aB3.wrap m))) w:=by
 have h1:prog.underlying 5=some (.int .u8):=by kernel_rfl
 have h2:prog.underlying 3=some (.int .i64):=by kernel_rfl
 simp[execOp,SS,hx,go_sem,h1,h2]
theorem Ix{m n:Int}{u:TypeId}(SS:o.op=.binOp .xor 5 x y u)(hx:ev x=.int .u8 m)(hy:ev y=.int .u8 n):(execOp ev o).run prog w=.ok (.value (.int .u8 (bits .xor .u8 m n))) w:=by
 simp[execOp,SS,hx,hy,go_sem]
theorem RB(m n:Int):∃y:UInt8,bits .xor .u8 m n=(y.toNat:Int):=by
 have h:0<=bits .xor .u8 m n/\bits .xor .u8 m n<256:=by
  unfold bits;simp only[IntKind.wrap_u8];omega
 refine⟨UInt8.ofNat (bits .xor .u8 m n).toNat,?_⟩;rw[UInt8.toNat_ofNat'];omega

theorem vo:yz prog 5:=λw=>⟨by kernel_rfl,by kernel_rfl⟩
theorem Kh{sz cap:Nat}{x0 wa ww wc:Int}{more:ByteArray}(UF:i<sz)(Uy:gb<w.heap.size)(T4:w.cell? ⟨gb,i,none⟩=some (.int .u8 x0))(hfz:w.frozen? ⟨gb,i,none⟩=false)(Zz:w.heap[b3]?=some (.cells #[.int .i64 wa,.int .i64 ww,.int .i64 wc,.string more] 23))
 (J:aB [(3,.pk b3 0),(5,.sk gb sz cap),(6,.int .i64 i)] 48 [] a)
 (next:∀a w',(∃w1,Bw w w1/\w'=w1.setCell ⟨gb,i,none⟩ (.int .u8 (bits .xor .u8 x0 (aB3.wrap ww)))/\aB [(3,.pk b3 0),(5,.sk gb sz cap)] 48 [] a)->Rn kX Goal (fr.atR a K) cs w'):
 Rn kX Goal (fr.atR a (.code (rD f14 4)::K)) cs w:=by
 refine ie 11 J ?_;refine aj ?_;refine aj ?_;refine aj ?_;refine aj ?_;refine aj (v:=.pk gb i) ?_ (y:=λo a w1 ho z=>dq ((bR (w:=_) (t:=83) (e:=5) k_ (λw=>by kernel_rfl) ho gx gx UF).1) (by rw[gG,aw9]<;>rfl));refine aj (v:=.int .u8 x0) ?_ (y:=λo a w1 ho z=>((av (v:=.int .u8 x0) vo ho gx ((aE7 (w:=w) (a:=⟨gb,i,none⟩) (z.b.block gb Uy)).trans T4)).1));refine aj (v:=.pk b3 1) ?_;refine aj (v:=.int .i64 ww) ?_;refine aj (v:=.int .u8 (aB3.wrap ww)) ?_ (y:=λo a w1 ho z=>(jW ho gx));refine aj (v:=.int .u8 (bits .xor .u8 x0 (aB3.wrap ww))) ?_ (y:=λo a w1 ho z=>(Ix ho gx gx));refine aj (v:=.pk gb i) ?_ (y:=λo a w1 ho z=>dq ((bR (w:=_) (t:=83) (e:=5) k_ (λw=>by kernel_rfl) ho gx gx UF).1) (by rw[gG,aw9]<;>rfl));refine cc λa w' J hB _ rest hgo=>?_;have Uc:=hB.block gb Uy;exact iP J (.store 5 (.tmp 28) (.tmp 27)) k_ s_ (λo ho=>(dC (w:=w') (b:=gb) (k:=i) (v:=.int .u8 (bits .xor .u8 x0 (aB3.wrap ww))) (v0:=.int .u8 x0) rfl rfl k_ ho (J.Q 28) (J.Q 27) ((aE7 (w:=w) (a:=⟨gb,i,none⟩) Uc).trans T4) (by rw[←hfz];unfold az2;rw[Uc])).1) λa J=>hgo _ _ (next a _ ⟨_,hB,rfl,J.only ⟨rfl,rfl,trivial⟩⟩)
theorem Kg{sz cap mc:Nat}{wa ww wc:Int}{l:List UInt8}{more:ByteArray}(hlen:l.length+mc=sz)(TX:sz<=cap)(Tf:sz<9223372036854775808)(WQ:(⟨l.toArray⟩:ByteArray).size+more.size<=9223372036854775807)(Uy:gb<w.heap.size)(hl:∀j (hj:j<l.length),w.cell? ⟨gb,j,none⟩=some (.int .u8 (l[j].toNat:Int)))(Zz:w.heap[b3]?=some (.cells #[.int .i64 wa,.int .i64 ww,.int .i64 wc,.string more] 23))
 (J:aB [(3,.pk b3 0),(5,.sk gb sz cap),(7,.int .i64 mc)] 48 [] a)
 (next:∀a w',(Bw w w'/\aB [(4,.string (⟨l.toArray⟩++more)),(3,.pk b3 0),(5,.sk gb sz cap),(7,.int .i64 mc)] 48 [] a)->Rn kX Goal (fr.atR a K) cs w'):
 Rn kX Goal (fr.atR a (.code (rD f14 8)::K)) cs w:=by
 refine cC J ?_;refine aj ?_;refine aj ?_;refine aj (v:=.int .i64 sz) ?_ (y:=λo a w1 ho z=>(Bf ho gx));refine aj ?_;refine aj (v:=.int .i64 (l.length:Int)) ?_ (y:=λo a w1 ho z=>dq (mC ho gx gx o_) (by exact congrArg (Value.int .i64) o_));refine aj (v:=.sk gb l.length cap) ?_ (y:=λo a w1 ho z=>(Ja ho gx gx o_));refine aj (v:=.string ⟨l.toArray⟩) ?_ (y:=λo a w1 ho z=>(rI ho gx (λj hj=>(aE7 (w:=w) (a:=⟨gb,j,none⟩) (z.b.block gb Uy)).trans (hl j hj))));refine aj (v:=.pk b3 3) ?_;refine aj (v:=.string more) ?_ (y:=λo a w1 ho z=>((av bU ho gx ((ar ((z.b.block _ (av9.1 Zz).1).trans Zz) 3).trans rfl)).1));refine aj (v:=.string (⟨l.toArray⟩++more)) ?_;refine aj ?_;exact cc λa w' J hb _=>next a w' ⟨hb,J.O⟩

def Sq(f:Func):Code:=.seq (rG f 5) (.seq (.seq (rG f 6) (.cond (.tmp 35) (rG f 7) .skip)) (.seq (rD f 8) .ret))
theorem OX:f14.body=some (.seq (rG f14 0) (.seq (rG f14 1) (.seq (.seq (rG f14 2) (.cond (.tmp 12) (.seq (rG f14 3) (rD f14 4)) .skip)) (Sq f14)))):=by kernel_rfl
structure Tb (w0 w:World) (sz:Nat) (way:Array Value):Prop where
 old:Bw w0 w
 way:w.heap[w0.heap.size]?=some (.cells way 23)
 bytes:∃(C:Array Value) (fr:Nat×Nat),w.heap[(w0.heap.size+1)]?=some (.cells C 5 fr)/\sz<=fr.1/\∃B:List UInt8,B.length=sz/\∀j (hj:j<B.length),C[j]?=some (.int .u8 (B[j].toNat:Int))
theorem CJ{cs:Array Value}{t:TypeId}{fr:Nat×Nat}(h:w.heap[b]?=some (.cells cs t fr)):(w.setCell ⟨b,i,none⟩ v).heap[b]?=some (.cells (cs.setIfInBounds i v) t fr):=by
 simp only[IT];rw[By,h];simp
theorem Tb.mono{sz:Nat}{way:Array Value}(h:Tb w0 w sz way)(hb:Bw w w'):Tb w0 w' sz way:=by
 obtain⟨h1,h2,C,fr,h3,h4⟩:=h;exact⟨ae h1 h1.size hb,bk hb h2,C,fr,bk hb h3,h4⟩
theorem Tb.put{sz:Nat}{way:Array Value}(h:Tb w0 w sz way)(i:Nat)(y:UInt8):Tb w0 (w.setCell ⟨(w0.heap.size+1),i,none⟩ (.int .u8 (y.toNat:Int))) sz way:=by
 obtain⟨h1,h2,C,fr,h3,h4,B,h5,h6⟩:=h;have hb:=dc w ⟨(w0.heap.size+1),i,none⟩ (.int .u8 (y.toNat:Int)) (aw0 (w0.heap.size+1));refine⟨h1.trans (hb.mono o_),(hb.block _ o_).trans h2,C.setIfInBounds i (.int .u8 (y.toNat:Int)),fr,CJ h3,h4,B.set i y,by rw[aY9];exact h5,λj hj=>?_⟩;rw[aY9]at hj;by_cases e:i=j
 .subst e;have:=h6 i hj;rw[ax6 (av9.1 this).1,List.getElem_set_self]
 .rw[aw_ e,h6 j hj,List.getElem_set_ne e]
section
variable{wa ww wc:Int}{more:ByteArray}{sz cap:Nat}(TX:sz<=cap)(Tf:sz<=1125899906842624)(hmo:more.size<=1125899906842624)(hwc: -9223372036854775808<=wc/\wc<9223372036854775808)
 (fin:∀(a:Act) (w':World) (r:ByteArray),r.size<=sz+more.size->Bw w0 w'->aB [(4,.string r)] 48 [] a->Rn kX Goal ((base 14).atR a [.code .ret]) cs w')
include TX Tf hmo hwc fin
theorem RE(hT:Tb w0 w sz #[.int .i64 wa,.int .i64 ww,.int .i64 wc,.string more])(J:aB [(3,.pk w0.heap.size 0),(5,.sk ((w0.heap.size+1)) sz cap)] 48 [] a):Rn kX Goal ((base 14).atR a [.code (Sq f14)]) cs w:=by
 refine ab J λa J=>?_;refine ai J (λo ho=>(av (v:=.int .i64 wc) aC ho (J.Q 29) ((ar hT.way 2).trans rfl)).1) λa J=>?_;refine qW J 31 30 16 rfl hwc d_ λr hr a J=>?_
 iterate 5 refine ab J λa J=>?_
 refine a9 rfl (ak _ (J.Q 35) ?_);have last:∀(mc:Nat) (a:Act),mc<=sz->aB [(3,.pk w0.heap.size 0),(5,.sk ((w0.heap.size+1)) sz cap),(7,.int .i64 mc)] 48 [] a->Rn kX Goal ((base 14).atR a [.code (.seq (rD f14 8) .ret)]) cs w:=by
  intro mc a hmc J;obtain⟨h1,h2,C,fr,h3,h4,B,h5,h6⟩:=hT;have hl:(B.take (sz- mc)).length=sz- mc:=by rw[aC2];omega
  have Wx:(⟨(B.take (sz- mc)).toArray⟩:ByteArray).size=sz- mc:=by show(B.take (sz- mc)).toArray.size=_;rw[AT];exact hl
  refine a9 rfl ?_;refine Kg (l:=B.take (sz- mc)) (wa:=wa) (ww:=ww) (wc:=wc) o_ TX o_ (by rw[Wx];omega) (av9.1 h3).1 (λj hj=>?_) h2 J λa w2 ⟨S_,J⟩=>?_
  .have:=h6 j o_;rw[List.getElem_take];simp only[ay_,h3];exact this
  .exact fin a w2 _ (by rw[ax3,Wx];omega) (ae h1 h1.size S_) (J.only ⟨rfl,trivial⟩)
 by_cases hgt:(r:Int)>(sz:Int)
 .rw[decide_eq_true hgt]
  iterate 3 refine ab J λa J=>?_
  exact a9 rfl (last sz a (aw0 _) (J.only ⟨rfl,rfl,rfl,trivial⟩))
 .rw[decide_eq_false hgt];exact a9 rfl (last r a o_ (J.only ⟨rfl,rfl,rfl,trivial⟩))
end
theorem pz(s:ByteArray)(wa ww wc:Int)(more:ByteArray)(hs:s.size<=1125899906842624)(hmo:more.size<=1125899906842624)(hwa: -9223372036854775808<=wa/\wa<9223372036854775808)(hwc: -9223372036854775808<=wc/\wc<9223372036854775808)(w:World):
 Cl kX 14 #[.string s,.agg #[.int .i64 wa,.int .i64 ww,.int .i64 wc,.string more]] w λe w'=>∃r:ByteArray,e=.returned (.string r)/\r.size<=s.size+more.size/\Bw w w':=by
 refine az (N:=48) func14 OX λcs a J=>?_;refine dw J λw1 a SZ h3 z1 J=>?_
 iterate 2 refine ab J λa J=>?_
 refine dX (R:=λv w2=>∃cap,s.size<=cap/\v=.sk (w.heap.size+1) s.size cap/\Tb w w2 s.size #[.int .i64 wa,.int .i64 ww,.int .i64 wc,.string more]) J (λo ho e=>?_) λv w2 ⟨cap,TX,hv,hT⟩ a J=>?_
 .refine⟨_,_,Fb ho (J.Q 8),_,grownCap_ge _ _ _ _,by rw[←z1],?_⟩;generalize grownCap {w1 with drawn:=e} s.size 0 5=cap;have hd:Bw w1 (aW5 {w1 with drawn:=e}):=⟨rfl,rfl,rfl,aw0 _,λ_ _=>rfl⟩;have ha:=aR (aW5 {w1 with drawn:=e}) (.cells (bytesRow s cap) 5 ((bytesRow s cap).size,(bytesRow s cap).size+1));have S_:=hd.trans (aJ (aW5 {w1 with drawn:=e}) (.cells (bytesRow s cap) 5 ((bytesRow s cap).size,(bytesRow s cap).size+1)));have hz:(aW5 {w1 with drawn:=e}).heap.size=w.heap.size+1:=z1;rw[hz]at ha;refine⟨ae SZ SZ.size S_,bk S_ h3,_,_,ha,by rw[bytesRow,Array.size_append,aK4];exact Nat.le_add_right _ _,s.data.toList,by rw[ax1];rfl,λj hj=>?_⟩;have Ux:j<s.data.size:=by rw[ax1]at hj;exact hj
  rw[bytesRow,Array.getElem?_append_left (by rw[aK4];exact Ux),Array.getElem?_map,Array.getElem?_eq_getElem Ux];simp
 subst hv;refine ab J λa J=>?_;have go5:=λ(wz:World) hT (a:Act) J=>RE (w0:=w) (Goal:=λg w'=>∃(a:Act) (k:List Item) (v:Value),g=dj {(base 14).atR a k with mode:=.returning} cs/\a.defers=[]/\a.tmps[4]?=some v/\∃r:ByteArray,aB2 v=.returned (.string r)/\r.size<=s.size+more.size/\Bw w w') (cs:=cs) (wa:=wa) (ww:=ww) (w:=wz) (a:=a) TX hs hmo hwc (λa w' r hr hb J=>aS rfl (.inr ⟨_,rfl⟩) (bj ⟨a,_,_,rfl,J.defers,J.slot 4 _ rfl,r,rfl,hr,hb⟩)) hT J
 iterate 3 refine ab J λa J=>?_
 refine a9 rfl (ak _ (J.Q 12) ?_);by_cases hp:0<s.size
 .rw[decide_eq_true o_];refine ab J λa J=>?_;refine ai J (λo ho=>(av (v:=.int .i64 wa) aC ho (J.Q 13) ((ar hT.way 0).trans rfl)).1) λa J=>?_
  iterate 2 refine ab J λa J=>?_
  refine bp J func17 (R:=λv w'=>∃i:Nat,v=.int .i64 i/\i<s.size/\w'=w2) ((oO wa s.size hwa hp w2).mono λe w' ⟨r,h1,h2,h3⟩=>⟨_,h1,r,rfl,h2,h3⟩) λv w3 hv a J=>?_;obtain⟨i,rfl,hi,hw⟩:=hv;rw[hw];refine ab J λa J=>?_;refine a9 rfl ?_;obtain⟨h1,h2,C,fr,h4,h5,B,h6,h7⟩:=hT;have T4:=h7 i o_;refine Kh (x0:=(B[i].toNat:Int)) (wa:=wa) (ww:=ww) (wc:=wc) (more:=more) hi (av9.1 h4).1 (by simp only[ay_,h4];exact T4) (by simp only[az2,h4];simp;omega) h2 (J.only ⟨rfl,rfl,rfl,trivial⟩) λa w4 ⟨w3,Td,e4,J⟩=>?_;obtain⟨y,hy⟩:=RB (B[i].toNat:Int) (aB3.wrap ww);rw[hy]at e4;subst e4;exact go5 _ (((⟨h1,h2,C,fr,h4,h5,B,h6,h7⟩:Tb w w2 s.size #[.int .i64 wa,.int .i64 ww,.int .i64 wc,.string more]).mono Td).put i y) a J
 .rw[decide_eq_false o_];exact a9 rfl (go5 w2 hT a (J.only ⟨rfl,rfl,trivial⟩))

theorem I5{wa ww wc:Int}{more:ByteArray}(SS:o.op=.load 23 x)(hx:ev x=.pk b 0)(h:w.heap[b]?=some (.cells #[.int .i64 wa,.int .i64 ww,.int .i64 wc,.string more] 23)):(execOp ev o).run prog w=.ok (.value (.agg #[.int .i64 wa,.int .i64 ww,.int .i64 wc,.string more])) w:=by
 have h1:(isAgg 23).run prog w=.ok true w:=by kernel_rfl
 have hc:=ar h;simp[execOp,SS,hx,ay9,loadVar,h1,loadCells,loadCellsFrom,aF6,hc,go_sem]
theorem IF{t u:TypeId}{m n:Int}(SS:o.op=.binOp .neq t x y u)(ht:t=36)(hx:ev x=.int .i64 m)(hy:ev y=.int .i64 n):(execOp ev o).run prog w=.ok (.value (.bool (m !=n))) w:=by
 subst ht;simp[execOp,SS,hx,hy,go_sem]

theorem oZ{a b d:Int}{ts:Array TypeId}(SS:o.op=.call {callee:=.builtin .min,args:=#[x,y],argTypes:=ts})(hx:ev x=.int .i64 a)(hy:ev y=.int .i64 b)(hd:min a b=d):(execOp ev o).run P w=.ok (.value (.int .i64 d)) w/\aM P (execOp ev o):=by
 have e:∀ts ty,aT_ ts ty #[.int .i64 a,.int .i64 b]=pure (.int .i64 d):=λ_ _=>by
  simp only[aT_,Builtin.min2,List.foldlM];show(pure (Value.int .i64 (if b<a then b else a)):Sem Value)=_
  congr 2
  split<;>omega
 have h:∀w es,(execOp ev o).runT P w es=(.ok (.value (.int .i64 d)) w,es):=λw es=>by
  simp[-Sem.runT_eq,execOp,SS,resolve,hx,hy,invoke,builtin,e,bind,Sem.bind,Sem.runT,pure]
 refine⟨?_,.eqv (s':=.pure _) h (.pure _)⟩;have:=congrArg Prod.fst (h w #[]);rwa [Sem.runT_fst]at this
def cV(w:World)(v:Value)(L:List Value):Prop:=∃p cap,v=.slice p L.length cap/\∀(i:Nat) (u:Value),L[i]?=some u->∃a:Addr,p=some a/\w.cell? (a.add i)=some u
theorem aU{a:Addr}{u:Value}(hb:Bw w w')(h:w.cell? a=some u):w'.cell? a=some u:=by
 have SX:a.block<w.heap.size:=by
  unfold ay_ at h;split at h
  .exact(av9.1 ‹_›).1
  .cases h
 unfold ay_ at h⊢;rw[hb.block _ SX];exact h
theorem cV.below{L:List Value}(h:cV w v L)(hb:Bw w w'):cV w' v L:=by
 obtain⟨p,cap,h1,h2⟩:=h;exact⟨p,cap,h1,λi u hu=>let ⟨a,e,hc⟩:=h2 i u hu;⟨a,e,aU hb hc⟩⟩
def eT(st le:Int)(u h:Value):Array Value:=#[.int .i64 st,u,.int .i64 le,h]
def vouchF:List Bool->List ByteArray->ByteArray->Bool
 |u::us,h::hs,x=>(u&&h.data.toList==x.data.toList)||vouchF us hs x
 |_,_,_=>false
structure Cv (tf tb ts:TypeId) (w0:World) (b3 b4 b5 l ld:Nat) (r:Loop) (fz:Array Value) (x:ByteArray) (q:Bool) (w:World):Prop where
 old:Bw w0 w
 fus:w.heap[b3]?=some (.cells fz tf)
 res:w.heap[b4]?=some (.cells #[.bool q] tb)
 hsh:w.heap[b5]?=some (.cells #[.string x] ts)
 list:w.heap[ld]?=some (.deferred (some []))
 loop:w.heap[l]?=some (.loop r)
section
variable{tf tb ts:TypeId}{ld:Nat}{r:Loop}{fz:Array Value}{x:ByteArray}{q:Bool}
theorem Cv.turn(h:Cv tf tb ts w0 b3 b4 b5 l ld r fz x q w)(hl:w0.heap.size<=l)(r':Loop):Cv tf tb ts w0 b3 b4 b5 l ld r' fz x q (aT w l r'):=by
 have n:∀{b:Nat} {o:Obj},w.heap[b]?=some o->(∀r,o≠ .loop r)->b≠l:=λho hn e=>by rw[e,h.loop]at ho;exact hn r (Option.some.inj ho).symm
 exact⟨h.old.trans (dK w _ _ hl),(aL w _ (n h.fus (by intro r e;cases e))).trans h.fus,(aL w _ (n h.res (by intro r e;cases e))).trans h.res,(aL w _ (n h.hsh (by intro r e;cases e))).trans h.hsh,(aL w _ (n h.list (by intro r e;cases e))).trans h.list,gH h.loop⟩
theorem Cv.put(h:Cv tf tb ts w0 b3 b4 b5 l ld r fz x q w)(h1:tf≠tb)(h2:ts≠tb)(hb:w0.heap.size<=b4)(p:Bool):Cv tf tb ts w0 b3 b4 b5 l ld r fz x p (w.setCell ⟨b4,0,none⟩ (.bool p)):=by
 have n1:b3≠b4:=λe=>by have:=h.fus;rw[e,h.res]at this;injection this with this;injection this with _ this;exact h1 this.symm
 have n2:b5≠b4:=λe=>by have:=h.hsh;rw[e,h.res]at this;injection this with this;injection this with _ this;exact h2 this.symm
 have n3:l≠b4:=λe=>by have:=h.res;rw[←e,h.loop]at this;cases this
 have n4:ld≠b4:=λe=>by have:=h.res;rw[←e,h.list]at this;cases this
 exact⟨h.old.trans (dc w _ _ hb),(bF w _ n1).trans h.fus,jE h.res,(bF w _ n2).trans h.hsh,(bF w _ n4).trans h.list,(bF w _ n3).trans h.loop⟩
end
section
variable{t:TypeId}
theorem J5{a b:ByteArray}(SS:o.op=.binOp .eql 9 x y t)(hx:ev x=.string a)(hy:ev y=.string b):(execOp ev o).run prog w=.ok (.value (.bool (a.data.toList==b.data.toList))) w:=by
 have e1:=aN_ a;have e2:=aN_ b;simp[execOp,SS,hx,hy,go_sem,e1,e2]
theorem fL{p:Option Addr}{c:Nat}{e:TypeId}(hu:prog.underlying ty=some (.slice e))(SS:o.op=.call {callee:=.builtin .len,args:=#[.tmp k],argTypes:=#[ty]})(hx:ev (.tmp k)=.slice p l c):(execOp ev o).run prog w=.ok (.value (.int .i64 l)) w:=by
 simp[execOp,SS,resolve,hx,invoke,builtin,aM1,run_underlying hu,goInt]
theorem rN(j:Nat)(hj:j<4)(SS:o.op=.fieldAddr 45 x j)(hx:ev x=.pk b 0):(execOp ev o).run prog w=.ok (.value (.pk b j)) w:=by
 have e:execOp ev o=(do pure (.value (←aw1 45 (.pk b 0) j))):=by simp only[execOp,SS,hx]
 have h2:(do pure (.value (←aw1 45 (.pk b 0) j)):Sem Next).run prog w=.ok (.value (.pk b j)) w:=by
  rcases(by omega:j=0\/j=1\/j=2\/j=3)with rfl|rfl|rfl|rfl<;>kernel_rfl
 rw[e,h2]
theorem kZ{st le:Int}{u h:Value}(SS:o.op=.load 45 x)(hx:ev x=.pk b 0)(hc:w.heap[b]?=some (.cells (eT st le u h) 45)):(execOp ev o).run prog w=.ok (.value (.agg (eT st le u h))) w:=by
 have h1:(isAgg 45).run prog w=.ok true w:=by kernel_rfl
 have hc:=ar hc;simp[execOp,SS,hx,ay9,loadVar,h1,loadCells,loadCellsFrom,aF6,hc,eT,go_sem]
theorem iJ:yz prog 4:=λw=>⟨by kernel_rfl,by kernel_rfl⟩
theorem gL:yz prog 42:=λw=>⟨by kernel_rfl,by kernel_rfl⟩
theorem gK:yz prog 43:=λw=>⟨by kernel_rfl,by kernel_rfl⟩
end

theorem yP{xs:Array Obj}{o:Obj}(h:k≠i):(xs.setIfInBounds i o)[k]?=xs[k]?:=by
 rw[Array.getElem?_setIfInBounds,if_neg (λe=>h e.symm)]
structure Ex (X:Nat->Prop) (w w':World):Prop where
 os:w'.os=w.os
 output:w'.output=w.output
 tape:w'.tape=w.tape
 size:w.heap.size<=w'.heap.size
 block:∀b,b<w.heap.size->¬X b->w'.heap[b]?=w.heap[b]?
section
variable{Y:Nat->Prop}
theorem Ex.refl:Ex X w w:=⟨rfl,rfl,rfl,aw0 _,λ_ _ _=>rfl⟩
theorem Ex.trans(h:Ex X w w')(h':Ex Y w' Tm)(hy:∀b,b<w.heap.size->Y b->X b):Ex X w Tm:=
 ⟨h'.os.trans h.os,h'.output.trans h.output,h'.tape.trans h.tape,az_ h.size h'.size,λb hb hx=>(h'.block b (aw2 hb h.size) λe=>hx (hy b hb e)).trans (h.block b hb hx)⟩
theorem an(h:Bw w w'):Ex X w w':=⟨h.os,h.output,h.tape,h.size,λb hb _=>h.block b hb⟩
theorem Ex.at(h:Ex X w w'){o:Obj}(hx:¬X b)(ho:w.heap[b]?=some o):w'.heap[b]?=some o:=(h.block b (aA ho) hx).trans ho
def put(w:World)(b:Nat)(cs:Array Value)(t:TypeId):World:={w with heap:=w.heap.setIfInBounds b (.cells cs t)}
theorem aZ{o:Obj}{cs:Array Value}{t:TypeId}(h:w.heap[b]?=some o):(put w b cs t).heap[b]?=some (.cells cs t):=by simp[put,aA h]
theorem bH{c:Nat}{cs:Array Value}{t:TypeId}(h:c≠b):(put w b cs t).heap[c]?=w.heap[c]?:=by simp only[put];exact yP h
theorem fm{cs:Array Value}{t:TypeId}:(put w b cs t).heap.size=w.heap.size:=by simp[put]
theorem bC(b:Nat)(cs:Array Value)(t:TypeId):Ex (· =b) w (put w b cs t):=⟨rfl,rfl,rfl,aT2 fm.symm,λ_ _ h=>bH h⟩
theorem Bt{cs cs':Array Value}{t:TypeId}:put (put w b cs t) b cs' t'=put w b cs' t':=by simp[put]
theorem kW{cs:Array Value}{t:TypeId}(v:Value)(h:w.heap[b]?=some (.cells cs t)):w.setCell ⟨b,k,none⟩ v=put w b (cs.setIfInBounds k v) t:=by
 unfold IT put
 congr 1
 apply aW6;intro i;rw[By];by_cases hi:b=i
 .subst hi;rw[if_pos rfl,h,ax6 (aA h)];rfl
 .rw[if_neg hi,yP λe=>hi e.symm]
theorem gD{cs old:Array Value}{t:TypeId}(h:w.heap[b]?=some (.cells old t)):w.setRow b cs=put w b cs t:=by
 unfold World.setRow put
 congr 1
 apply aW6;intro i;rw[By];by_cases hi:b=i
 .subst hi;rw[if_pos rfl,h,ax6 (aA h)];rfl
 .rw[if_neg hi,yP λe=>hi e.symm]
end
def jm(fl:Value)(W K:List Int)(on:Bool)(sl:Int):Array Value:=(fl::(W.map (Value.int .i64)++(K.map (Value.int .u8)++[.bool on,.int .i64 sl]))).toArray
section
variable{fl:Value}{W K:List Int}{on:Bool}
theorem QH(i:Nat)(h:i<W.length):(jm fl W K on sl)[1+i]?=some (.int .i64 W[i]):=by
 simp[jm,Nat.add_comm 1 i,If,h]
theorem QK(hW:W.length=85)(i:Nat)(h:i<K.length):(jm fl W K on sl)[86+i]?=some (.int .u8 K[i]):=by
 rw[show 86+i=(85+i)+1 by omega];simp[jm,List.getElem?_append_right,If,hW,h]
theorem QJ(hW:W.length=85)(hK:K.length=16):(jm fl W K on sl)[102]?=some (.bool on):=by
 simp[jm,hW,hK]
theorem QI(hW:W.length=85)(hK:K.length=16):(jm fl W K on sl)[103]?=some (.int .i64 sl):=by
 simp[jm,hW,hK]
theorem oo(hW:W.length=85)(hK:K.length=16):(jm fl W K on sl).size=104:=by simp[jm,hW,hK]
theorem BZ(hW:W.length=85)(i:Nat)(h:i<K.length)(v:Int):(jm fl W K on sl).setIfInBounds (86+i) (.int .u8 v)=jm fl W (K.set i v) on sl:=by
 simp only[jm,AI];rw[show 86+i=(85+i)+1 by omega,aQ9,aA0 _ _ (by simp[hW]),List.set_append_left _ _ (by simp[hW];omega),aO7];simp[hW]
theorem B_(hW:W.length=85)(hK:K.length=16)(Yf:Bool)(U4:Int):((jm fl W K on sl).setIfInBounds 102 (.bool Yf)).setIfInBounds 103 (.int .i64 U4)=jm fl W K Yf U4:=by
 simp only[jm,AI];rw[aQ9,aA0 _ _ (by simp[hW]),aA0 _ _ (by simp[hW,hK])];simp[hW,hK,aA0]
end

section
variable{C:iV}
theorem dk{R:Ending->World->Prop}(hf:C.P.funcs[f]?=some fn)(TB:fn.results=#[])
 (h:∀cs,Rn C (λg w'=>∃(a:Act) (k:List Item),g=dj {(base f).atR a k with mode:=.returning} cs/\a.defers=[]/\R (.returned (.tuple #[])) w') (ay2 C.P f args .normal) cs w):Cl C f args w R:=
 fB hf λcs L hG=>h cs L λfr cs' w' ⟨a,k,e,h1,h2⟩=>hG _ _ _ ⟨a,k,.tuple #[],e,h1,by simp[results,TB],h2⟩
variable{k:List Item}
theorem uv{R:World->Prop}(J:aB F N [] a)(hR:R w)(h0:fa 6 ((base f).atR a k)=.code .ret::k':=by rfl):
 Rn C (λg w'=>∃(a:Act) (k:List Item),g=dj {(base f).atR a k with mode:=.returning} cs/\a.defers=[]/\R w') ((base f).atR a k) cs w:=
 dn 6 k (by rw[h0];exact aS rfl (.inr ⟨_,rfl⟩) (bj ⟨a,_,rfl,J.defers,hR⟩))
theorem oA{R:World->Prop}(J:aB F N [] a)(hR:R w)(h0:fa 6 ((base f).atR a k)=[]:=by rfl):
 Rn C (λg w'=>∃(a:Act) (k:List Item),g=dj {(base f).atR a k with mode:=.returning} cs/\a.defers=[]/\R w') ((base f).atR a k) cs w:=
 dn 6 k (by rw[h0];exact aS rfl (.inl rfl) (bj ⟨a,_,rfl,J.defers,hR⟩))
end
section
variable{t u:TypeId}
theorem Mi{g:Addr}(SS:o.op=.nilCheck x)(hx:ev x=.pointer (some g)):(execOp ev o).run prog w=.ok (.value (.pointer (some g))) w:=by simp[execOp,SS,hx]
theorem J3(SS:o.op=.fieldAddr 149 x 0)(hx:ev x=.pk b 0):(execOp ev o).run prog w=.ok (.value (.pk b 0)) w:=by
 have e:execOp ev o=(do pure (.value (←aw1 149 (.pk b 0) 0))):=by simp only[execOp,SS,hx]
 have h2:(do pure (.value (←aw1 149 (.pk b 0) 0)):Sem Next).run prog w=.ok (.value (.pk b 0)) w:=by kernel_rfl
 rw[e,h2]
theorem J2(SS:o.op=.fieldAddr 149 x 1)(hx:ev x=.pk b 0):(execOp ev o).run prog w=.ok (.value (.pk b 1)) w:=by
 have e:execOp ev o=(do pure (.value (←aw1 149 (.pk b 0) 1))):=by simp only[execOp,SS,hx]
 have h2:(do pure (.value (←aw1 149 (.pk b 0) 1)):Sem Next).run prog w=.ok (.value (.pk b 1)) w:=by kernel_rfl
 rw[e,h2]
theorem J1(SS:o.op=.fieldAddr 149 x 2)(hx:ev x=.pk b 0):(execOp ev o).run prog w=.ok (.value (.pk b 86)) w:=by
 have e:execOp ev o=(do pure (.value (←aw1 149 (.pk b 0) 2))):=by simp only[execOp,SS,hx]
 have h2:(do pure (.value (←aw1 149 (.pk b 0) 2)):Sem Next).run prog w=.ok (.value (.pk b 86)) w:=by kernel_rfl
 rw[e,h2]
theorem J0(SS:o.op=.fieldAddr 149 x 3)(hx:ev x=.pk b 0):(execOp ev o).run prog w=.ok (.value (.pk b 102)) w:=by
 have e:execOp ev o=(do pure (.value (←aw1 149 (.pk b 0) 3))):=by simp only[execOp,SS,hx]
 have h2:(do pure (.value (←aw1 149 (.pk b 0) 3)):Sem Next).run prog w=.ok (.value (.pk b 102)) w:=by kernel_rfl
 rw[e,h2]
theorem IK(j:Nat)(hj:j<3)(SS:o.op=.fieldAddr 151 x j)(hx:ev x=.pk b 0):(execOp ev o).run prog w=.ok (.value (.pk b j)) w:=by
 have e:execOp ev o=(do pure (.value (←aw1 151 (.pk b 0) j))):=by simp only[execOp,SS,hx]
 have h2:(do pure (.value (←aw1 151 (.pk b 0) j)):Sem Next).run prog w=.ok (.value (.pk b j)) w:=by
  rcases(by omega:j=0\/j=1\/j=2)with rfl|rfl|rfl<;>kernel_rfl
 rw[e,h2]
theorem IZ(j:Nat)(hj:j<5)(SS:o.op=.fieldAddr 100 x j)(hx:ev x=.pk b 0):(execOp ev o).run prog w=.ok (.value (.pk b j)) w:=by
 have e:execOp ev o=(do pure (.value (←aw1 100 (.pk b 0) j))):=by simp only[execOp,SS,hx]
 have h2:(do pure (.value (←aw1 100 (.pk b 0) j)):Sem Next).run prog w=.ok (.value (.pk b j)) w:=by
  rcases(by omega:j=0\/j=1\/j=2\/j=3\/j=4)with rfl|rfl|rfl|rfl|rfl<;>kernel_rfl
 rw[e,h2]
theorem I_(SS:o.op=.fieldAddr 127 x 0)(hx:ev x=.pk b 0):(execOp ev o).run prog w=.ok (.value (.pk b 0)) w:=by
 have e:execOp ev o=(do pure (.value (←aw1 127 (.pk b 0) 0))):=by simp only[execOp,SS,hx]
 have h2:(do pure (.value (←aw1 127 (.pk b 0) 0)):Sem Next).run prog w=.ok (.value (.pk b 0)) w:=by kernel_rfl
 rw[e,h2]
theorem BA:yz prog 123:=λw=>⟨by kernel_rfl,by kernel_rfl⟩
theorem oR:yz prog 83:=λw=>⟨by kernel_rfl,by kernel_rfl⟩
theorem PU(SS:o.op=.indexAddr 145 x (.const (.int .i64 0)))(hx:ev x=.pk b 86)(hc:ev (.const (.int .i64 0))=.int .i64 0):(execOp ev o).run prog w=.ok (.value (.pk b 86)) w:=by
 have e:execOp ev o=(do pure (.value (←aN1 145 (.pk b 86) (.int .i64 0)))):=by simp only[execOp,SS,hx,hc]
 have h2:(do pure (.value (←aN1 145 (.pk b 86) (.int .i64 0))):Sem Next).run prog w=.ok (.value (.pk b 86)) w:=by kernel_rfl
 rw[e,h2]
theorem PS(hn:n<16)(SS:o.op=.indexAddr 145 x y)(hx:ev x=.pk b 86)(hy:ev y=.int .u8 n):(execOp ev o).run prog w=.ok (.value (.pk b (86+n))) w:=by
 have hu:prog.underlying 145=some (.array 16 5):=by kernel_rfl
 have h1:(sizeOf 5).run prog w=.ok 1 w:=by kernel_rfl
 have Z7:(n:Int)<16:=by omega
 have e0:(if n=0 then(⟨b,86,none⟩:Addr)else⟨b,86+n,none⟩)=⟨b,86+n,none⟩:=by
  split
  .rename_i h;rw[h]
  .rfl
 simp[execOp,SS,hx,hy,go_sem,hu,h1,Z7,aF6,e0]
theorem cI{cs:Array Value}(hv:v.cells=#[v])(TS:v.oneCell'=true)(ht:(sizeOf t).run prog w=.ok 1 w)(SS:o.op=.store t x y)(hx:ev x=.pk b k)(hy:ev y=v)(h:w.heap[b]?=some (.cells cs t'))(hk:k<cs.size):
 (execOp ev o).run prog w=.ok .skip (put w b (cs.setIfInBounds k v) t'):=by
 rw[←kW v h];exact(dC (v0:=cs[k]) hv TS ht SS hx hy (by rw[ar h];simp[hk]) (by simp[az2,h])).1
theorem Mo{m n:Int}(SS:o.op=.binOp .leq 3 x y u)(hx:ev x=.int .i64 m)(hy:ev y=.int .i64 n):(execOp ev o).run prog w=.ok (.value (.bool (decide (m<=n)))) w:=by simp[execOp,SS,hx,hy,go_sem]
theorem IB(SS:o.op=.binOp .rem 5 x y u)(hx:ev x=.int .u8 m)(hy:ev y=.int .u8 n)(hn:0<n):(execOp ev o).run prog w=.ok (.value (.int .u8 ((m%n:Nat):Int))) w:=by
 have e2:(m:Int).tmod (n:Int)=((m%n:Nat):Int):=by rw[Int.tmod_eq_emod_of_nonneg o_,Int.natCast_emod]
 have hz:¬n=0:=by omega
 simp[execOp,SS,hx,hy,go_sem,e2,hz]
theorem Bo{m n:Int}(SS:o.op=.binOp .add 5 x y u)(hx:ev x=.int .u8 m)(hy:ev y=.int .u8 n):(execOp ev o).run prog w=.ok (.value (.int .u8 (aB3.wrap (m+n)))) w:=by
 simp[execOp,SS,hx,hy,go_sem]
theorem AY{on:Bool}{cs:Array Value}(SS:o.op=.store 147 x y)(hx:ev x=.pk b 102)(hy:ev y=.agg #[.bool on,.int .i64 sl])(h:w.heap[b]?=some (.cells cs t'))(hk:cs.size=104):
 (execOp ev o).run prog w=.ok .skip (put w b ((cs.setIfInBounds 102 (.bool on)).setIfInBounds 103 (.int .i64 sl)) t'):=by
 have ht:(sizeOf 147).run prog w=.ok 2 w:=by kernel_rfl
 have h1:w.cell? ⟨b,102,none⟩=some cs[102]:=by rw[ar h];simp[hk]
 have f1:w.frozen? ⟨b,102,none⟩=false:=by simp[az2,h]
 have e1:=kW (k:=102) (.bool on) h;have h2:=aZ (w:=w) (cs:=cs.setIfInBounds 102 (.bool on)) (t:=t') h;have h3:(w.setCell ⟨b,102,none⟩ (.bool on)).cell? ⟨b,103,none⟩=some cs[103]:=by rw[e1,ar h2];simp[hk]
 have f3:(w.setCell ⟨b,102,none⟩ (.bool on)).frozen? ⟨b,103,none⟩=false:=by rw[e1];simp[az2,h2]
 have e2:=kW (k:=103) (.int .i64 sl) h2;rw[Bt,←e1]at e2;have e:execOp ev o=(do aJ7 147 (.pk b 102) (.agg #[.bool on,.int .i64 sl]);pure .skip):=by simp only[execOp,SS,hx,hy]
 rw[e,←e2];simp[aJ7,storeVar,Value.cells,ht,storeCells,aF6,h1,f1,h3,f3,go_sem]
theorem Mm(SS:o.op=.build 147 #[]):(execOp ev o).run prog w=.ok (.value (.agg #[.bool false,.int .i64 0])) w:=by
 have e:execOp ev o=(do pure (.value (←ax9 147 #[]))):=by simp[execOp,SS]
 have h5:(do pure (.value (←ax9 147 #[])):Sem Next).run prog w=.ok (.value (.agg #[.bool false,.int .i64 0])) w:=by kernel_rfl
 rw[e,h5]
theorem Ml(SS:o.op=.build 147 #[(0,x),(1,y)])(hx:ev x=.bool true)(hy:ev y=.int .i64 sl):(execOp ev o).run prog w=.ok (.value (.agg #[.bool true,.int .i64 sl])) w:=by
 have e:execOp ev o=(do pure (.value (←ax9 147 #[(0,.bool true),(1,.int .i64 sl)]))):=by simp[execOp,SS,hx,hy]
 have h5:(do pure (.value (←ax9 147 #[(0,.bool true),(1,.int .i64 sl)])):Sem Next).run prog w=.ok (.value (.agg #[.bool true,.int .i64 sl])) w:=by kernel_rfl
 rw[e,h5]
end
theorem oc{p:Prop}(h:p:=by
 first
 |exact oq
 |exact Mi ho gx
 |exact J3 ho gx
 |exact J2 ho gx
 |exact J1 ho gx
 |exact J0 ho gx
 |exact IK _ d_ ho gx
 |exact IZ _ d_ ho gx
 |exact I_ ho gx
 |exact Mo ho gx gx
 |exact Mm ho
 |exact Ml ho gx gx
 |exact PU ho gx gx
 |exact(av (by first|exact BA|exact vo|exact oR) ho gx ((ar (by assumption) _).trans rfl)).1):p:=h
section
variable{C:iV}{b:Frame}{k:List Item}
theorem ao(J:aB F N ds a)(next:∀a',aB ((d,v)::F) N ds a'->Rn C Goal (b.atR a' (.inRegion ops rest::k')) cs w)(h0:fa 6 (b.atR a k)=.inRegion ops (m::rest)::k':=by rfl)
 (h:(ops[m]?).map (λo=>(o.dst,o.op,o.guard))=some (some d,p,gd):=by rfl) (hw:gV ops F gd=some true:=by rfl) (hy:∀o:Oper,o.op=p->(execOp a.eval o).run C.P w=.ok (.value v) w:=by intro o ho;exact oc) (hd:d<N:=by decide) (T5:nd p=true:=by rfl) (ok:kU C.P a.eval p:=by exact nR):Rn C Goal (b.atR a k) cs w:=bK (ye J next h hw hy hd T5 ok) h0
end

section
variable{C:iV}{W:World}{Q:Act->WP}{M:List (Nat×WP)}
theorem kO(next:Gx C ops W N n df Q (m+1) ((d,v)::F) M)(h:Is ops m d p gd:=by rfl)(hw:gV ops F gd=some true:=by rfl)(TV:sV ops (lA ops n m) gd=true:=by kernel_rfl)(y:∀(o:Oper) (a:Act) (w:World),o.op=p->At ops W n m F M a w->(execOp a.eval o).run C.P w=.ok (.value v) w:=by intro o a w ho z;have hC:=z.b;exact oc)(ok:∀(a:Act) (w:World),At ops W n m F M a w->kU C.P a.eval p:=by intro a w z;exact nR):Gx C ops W N n df Q m F M:=aj next h hw TV y ok
end

end Go.Proofs.YtkmoglhgkcnalaaGreatDoor.L1
namespace Go.Proofs.YtkmoglhgkcnalaaGreatDoor
open Go Go.Conc Go.RowKit Go.Proofs.YtkmoglhgkcnalaaGreatDoor.L1
theorem eB(s:ByteArray)(a b:Nat):s.extract a b=⟨(bV s.data.toList a b).toArray⟩:=by
 obtain⟨⟨l⟩⟩:=s;apply aR2;simp[bV,List.drop_take,List.extract]
def oX(v s e a l:Int)(k:List UInt8):List Value:=[.int .i64 v,.int .i64 s,.int .i64 e,.int .i64 a,.int .i64 l,.string ⟨k.toArray⟩]
def ic:List Value:=oX 0 0 0 0 0 []
def zU(v sg en a l:Int)(k:List UInt8):List Value×Int:=
 if sg<78\/8192<sg\/a<sg\/8192<a+l then(ic,5)else
 if en%4≠0\/en<78\/sg<=en then(ic,6)else
 (oX v sg en a l k,0)
def iR(L:List UInt8):List Value×Int:=
 if L.length<8192 then(ic,3)else
 if L.take 4≠[76,78,84,76]then(ic,4)else
 zU (c_ (bV L 4 6)) (c_ (bV L 6 10)) (c_ (bV L 10 14)) (c_ (bV L 14 18)) (c_ (bV L 18 22)) (bV L 22 78)
theorem ud(L:List UInt8):(iR L).1=ic\/∃v sg en a l k,(iR L).1=oX v sg en a l k:=by
 unfold iR;split
 .exact .inl rfl
 .split
  .exact .inl rfl
  .unfold zU;split
   .exact .inl rfl
   .split
    .exact .inl rfl
    .exact .inr ⟨_,_,_,_,_,_,rfl⟩
theorem BO(L:List UInt8):(iR L).1.length=6:=by
 rcases ud L with h|⟨v,sg,en,a,l,k,h⟩<;>rw[h]<;>rfl
theorem BN(L:List UInt8):∀v∈(iR L).1,v.oneCell'=true:=by
 rcases ud L with h|⟨v,sg,en,a,l,k,h⟩
 .rw[h];intro v hv;simp[ic,oX]at hv;rcases hv with rfl|rfl<;>rfl
 .rw[h];intro v hv;simp[oX]at hv;rcases hv with rfl|rfl|rfl|rfl|rfl|rfl<;>rfl
section
variable{C:iV}{b:Frame}{k:List Item}
theorem my{t u:Tmp}{x:Value}{bk:Nat}{cells:Array Value}{R:Array Value->Value->World->Prop}(J:aB F N [] a)(hb:w.heap[bk]?=some (.cells cells tt))(hn:cells.size=n)(hR:R cells x w)(hv:F.lookup t=some (.pk bk 0):=by rfl)(hx:F.lookup u=some x:=by rfl)(h0:fa 6 ((base f).atR a k)=.code .ret::k':=by rfl):
 Rn C (λg w'=>∃(a:Act) (k:List Item) (bk:Nat) (cells:Array Value) (tt:TypeId) (v:Value),g=dj {(base f).atR a k with mode:=.returning} cs/\a.defers=[]/\a.tmps[t]?=some (.pk bk 0)/\w'.heap[bk]?=some (.cells cells tt)/\cells.size=n/\a.tmps[u]?=some v/\R cells v w') ((base f).atR a k) cs w:=
 dn 6 k (by rw[h0];exact aS rfl (.inr ⟨_,rfl⟩) (bj ⟨a,_,_,_,_,_,rfl,J.defers,J.slot t _ hv,hb,hn,J.slot u _ hx,hR⟩))
end
section
variable{C:iV}{b:Frame}{k:List Item}
theorem bY(J:aB F N ds a)(next:∀a',aB ((d,undef)::F) N ds a'->Rn C Goal (b.atR a' (.inRegion ops rest::k')) cs w)(h0:fa 6 (b.atR a k)=.inRegion ops (m::rest)::k':=by rfl)
 (h:(ops[m]?).map (λo=>(o.dst,o.op,o.guard))=some (some d,p,gd):=by rfl) (hw:gV ops F gd=some false:=by rfl) (hd:d<N:=by decide):Rn C Goal (b.atR a k) cs w:=by
 refine bK ?_ h0;obtain⟨o,ho,e1,e2,e3⟩:=lz h;refine oy ho (gN J e3 hw) ?_;rw[e1];exact next _ (J.put hd undef)
end
section
variable{p:Bool}{A:Ax}
theorem Ao(s:ByteArray)(w:World)(ZQ:s.size<=281474976710656):Cl (cX prog p A) 123 #[.string s] w λe w'=>e=.returned (.string s)/\Bw w w':=by
 have Uq:s.data.toList.length=s.size:=ax1;refine az (L:=[.string s]) func123 rfl λcs a J=>?_
 iterate 4 refine ab J λ_ J=>?_
 by_cases h0:s.size=0
 .refine aD true J ?_ (hq:=decide_eq_true o_);refine ab J λ_ J=>?_;refine aH J ?_;have e:s=⟨#[]⟩:=by
   obtain⟨d⟩:=s;have:d=#[]:=Array.eq_empty_of_size_eq_zero h0;rw[this]
  exact⟨by rw[e],aw8 _ _⟩
 refine aD false J ?_ (hq:=decide_eq_false o_)
 iterate 2 refine ab J λ_ J=>?_
 refine dA J (hy:=by intro o ho;exact zw ho gx gx rfl rfl rfl ZQ) λg w1 _ hg hb hc hz J=>?_
 iterate 3 refine ab J λ_ J=>?_
 refine Hh J hc (hy:=by intro o ho;exact oJ (n:=s.size) ho gx gx rfl k_ hc (Nat.min_self _) s_) λw2 _ hp J=>?_;have h2:w2.heap[g]?=some (.cells (bm s.data.toList).toArray 5):=by
  rw[hp.here,show s.data.toList.take s.size=s.data.toList from ay5 o_];simp
 have TN:=bZ s.data.toList;refine ab J λ_ J=>?_;refine ab J (hy:=by intro o ho;exact lS (n:=0) ho gx gx rfl k_ o_) λ_ J=>?_
 iterate 2 refine ab J λ_ J=>?_
 have hs:(w2.freeze ⟨g,0,none⟩ s.data.toList.length).heap.size=w2.heap.size/\(w2.freeze ⟨g,0,none⟩ s.data.toList.length).drawn=w2.drawn:=by unfold World.freeze;split<;>simp
 have h3:=Lx (l:=s.data.toList.length) h2 o_ ⟨rfl,by show 0<_;omega⟩;have hlen:(s.data.toList.length:Int)=s.size:=by rw[Uq]
 refine LG J hs.1 hs.2 (hy:=by intro o ho;exact BV (l:=s.data.toList) ho gx (Eq.trans gx (by rw[Uq])) rfl k_ h2 (by simp;omega) (by intro e;rw[e]at Uq;simp at Uq;omega) (by simp[TN]) o_ (λj x hj=>by simp[bm,hj])) λ_ J=>?_;refine ab J λ_ J=>?_;refine aH J ?_;exact⟨rfl,(hb.trans (hp.below hg)).trans ⟨h3.1.os,h3.1.tape,h3.1.output,h3.1.size,λk hk=>h3.1.block k (by have:=hb.size;have:=hp.size;omega) o_⟩⟩
theorem DN(s:ByteArray)(w:World)(ZQ:s.size<=281474976710656):Cl (cX prog p A) 96 #[.string s] w λe w'=>e=.returned (.string s)/\Bw w w':=by
 refine az (L:=[.string s]) func96 rfl λcs a J=>?_
 iterate 2 refine ab J λ_ J=>?_
 refine ig J func123 (Ao s _ ZQ) λw1 _ hb J=>?_;refine ab J λ_ J=>?_;exact aH J ⟨rfl,hb⟩
theorem Gg(s:ByteArray)(w:World)(hs:s.size<=281474976000000):
 Cl (cX prog p A) 72 #[.string s] w λe w'=>e=.returned (.tuple #[.agg (iR s.data.toList).1.toArray,.int .i64 (iR s.data.toList).2])/\Bw w w':=by
 have Uq:s.data.toList.length=s.size:=ax1;refine fS (n:=6) func72 rfl rfl rfl k_ λcs=>bv (L:=[.string s]) func72 rfl λa J=>?_;refine dA J λg w1 _ hg hb hc hz J=>?_
 replace hc:w1.heap[g]?=some (.cells ic.toArray 87):=hc
 iterate 4 refine ab J λ_ J=>?_
 by_cases h1:s.size<8192
 .refine aD true J ?_ (hq:=decide_eq_true o_);have e:iR s.data.toList=(ic,3):=by rw[iR,if_pos (by rw[Uq];exact h1)]
  refine ab J (v:=.agg ic.toArray) (hy:=by intro o ho;exact eX _ ho (i4 J rfl) (λ_=>by kernel_rfl)) λ_ J=>?_;refine cZ J (hy:=by intro o ho;exact eP (vs:=ic.toArray) ho gx gx hc k_ rfl (by simp[ic,oX,ax4])) λw4 _ hp J=>?_;refine ab J λ_ J=>?_;refine my J hp.here rfl ?_;rw[e];exact⟨rfl,hb.trans (hp.below hg)⟩
 refine aD false J ?_ (hq:=decide_eq_false o_);refine ab J λ_ J=>?_;refine ab J (hy:=by intro o ho;exact qJ (n:=4) ho gx gx k_ o_) λ_ J=>?_;refine ab J (hy:=by intro o ho;exact lW ho gx gx) λ_ J=>?_;have ht4:(s.extract 0 4).data.toList=s.data.toList.take 4:=by rw[eB];rfl
 rw[ht4]at J;by_cases h2:s.data.toList.take 4≠[76,78,84,76]
 .refine aD true J ?_ (hq:=by simpa using h2);have e:iR s.data.toList=(ic,4):=by rw[iR,if_neg (by rw[Uq];exact h1),if_pos h2]
  refine ab J (v:=.agg ic.toArray) (hy:=by intro o ho;exact eX _ ho (i4 J rfl) (λ_=>by kernel_rfl)) λ_ J=>?_;refine cZ J (hy:=by intro o ho;exact eP (vs:=ic.toArray) ho gx gx hc k_ rfl (by simp[ic,oX,ax4])) λw4 _ hp J=>?_;refine ab J λ_ J=>?_;refine my J hp.here rfl ?_;rw[e];exact⟨rfl,hb.trans (hp.below hg)⟩
 refine aD false J ?_ (hq:=by simpa using h2);have e0:iR s.data.toList=zU (c_ (bV s.data.toList 4 6)) (c_ (bV s.data.toList 6 10)) (c_ (bV s.data.toList 10 14)) (c_ (bV s.data.toList 14 18)) (c_ (bV s.data.toList 18 22)) (bV s.data.toList 22 78):=by rw[iR,if_neg (by rw[Uq];exact h1),if_neg h2]
 have VV:∀a b,b<=8192->b- a<=4->∃n:Nat,c_ (bV s.data.toList a b)=(n:Int)/\n<4294967296:=λa b h h'=>by
  have:=iB (bV s.data.toList a b) 4 (by rw[fA _ _ _ (by rw[Uq];omega)];exact h');obtain⟨n,hn⟩:=ay0 this.1;exact⟨n,hn,by rw[hn]at this;have h4:=this.2;simp at h4;omega⟩
 obtain⟨v,ev,lv⟩:=VV 4 6 o_ o_;obtain⟨sg,esg,lsg⟩:=VV 6 10 o_ o_;obtain⟨en,een,len⟩:=VV 10 14 o_ o_;obtain⟨at',eat',lat⟩:=VV 14 18 o_ o_;obtain⟨l,el,ll⟩:=VV 18 22 o_ o_;rw[ev,esg,een,eat',el]at e0;refine ab J λ_ J=>?_;refine ab J (hy:=by intro o ho;exact ky (m:=4) (n:=6) ho gx gx gx k_ d_ o_) λ_ J=>?_;refine fE (v:=.int .u64 (v:Int)) J func88 (by have:=eA (p:=p) (A:=A) (s.extract 4 6) w1 (by rw[aw6];omega);rwa [show(s.extract 4 6).data.toList=bV s.data.toList 4 6 from by rw[eB],ev]at this) λ_ J=>?_;refine ab J λ_ J=>?_;refine ab J λ_ J=>?_;refine ab J (hy:=by intro o ho;exact ky (m:=6) (n:=10) ho gx gx gx k_ d_ o_) λ_ J=>?_;refine fE (v:=.int .u64 (sg:Int)) J func88 (by have:=eA (p:=p) (A:=A) (s.extract 6 10) w1 (by rw[aw6];omega);rwa [show(s.extract 6 10).data.toList=bV s.data.toList 6 10 from by rw[eB],esg]at this) λ_ J=>?_;refine ab J λ_ J=>?_;refine ab J λ_ J=>?_;refine ab J (hy:=by intro o ho;exact ky (m:=10) (n:=14) ho gx gx gx k_ d_ o_) λ_ J=>?_;refine fE (v:=.int .u64 (en:Int)) J func88 (by have:=eA (p:=p) (A:=A) (s.extract 10 14) w1 (by rw[aw6];omega);rwa [show(s.extract 10 14).data.toList=bV s.data.toList 10 14 from by rw[eB],een]at this) λ_ J=>?_;refine ab J λ_ J=>?_;refine ab J λ_ J=>?_;refine ab J (hy:=by intro o ho;exact ky (m:=14) (n:=18) ho gx gx gx k_ d_ o_) λ_ J=>?_;refine fE (v:=.int .u64 (at':Int)) J func88 (by have:=eA (p:=p) (A:=A) (s.extract 14 18) w1 (by rw[aw6];omega);rwa [show(s.extract 14 18).data.toList=bV s.data.toList 14 18 from by rw[eB],eat']at this) λ_ J=>?_;refine ab J λ_ J=>?_;refine ab J λ_ J=>?_;refine ab J (hy:=by intro o ho;exact ky (m:=18) (n:=22) ho gx gx gx k_ d_ o_) λ_ J=>?_;refine fE (v:=.int .u64 (l:Int)) J func88 (by have:=eA (p:=p) (A:=A) (s.extract 18 22) w1 (by rw[aw6];omega);rwa [show(s.extract 18 22).data.toList=bV s.data.toList 18 22 from by rw[eB],el]at this) λ_ J=>?_;refine ab J λ_ J=>?_
 replace J:aB [(0,.string s),(2,.pk g 0),(4,.int .u64 (v:Int)),(5,.int .u64 (sg:Int)),(6,.int .u64 (en:Int)),(7,.int .u64 (at':Int)),(8,.int .u64 (l:Int))] 77 [] _:=J.O
 refine ab J λ_ J=>?_;refine ab J λ_ J=>?_;by_cases c1:sg<78
 .rw[show decide ((sg:Int)<78)=true from decide_eq_true o_]at J;have e:iR s.data.toList=(ic,5):=by rw[e0,zU,if_pos o_]
  refine ab J λ_ J=>?_
  iterate 2 refine bY J λ_ J=>?_
  refine ab J (hy:=by intro o ho;exact fI ho gx gx) λ_ J=>?_;refine ab J λ_ J=>?_
  iterate 3 refine bY J λ_ J=>?_
  refine ab J (hy:=by intro o ho;exact fI ho gx gx) λ_ J=>?_;refine ab J λ_ J=>?_
  iterate 4 refine bY J λ_ J=>?_
  refine ab J (hy:=by intro o ho;exact fI ho gx gx) λ_ J=>?_;refine aD true J ?_ (hq:=rfl);refine ab J (v:=.agg ic.toArray) (hy:=by intro o ho;exact eX _ ho (i4 J rfl) (λ_=>by kernel_rfl)) λ_ J=>?_;refine cZ J (hy:=by intro o ho;exact eP (vs:=ic.toArray) ho gx gx hc k_ rfl (by simp[ic,oX,ax4])) λw4 _ hp J=>?_;refine ab J λ_ J=>?_;refine my J hp.here rfl ?_;rw[e];exact⟨rfl,hb.trans (hp.below hg)⟩
 rw[show decide ((sg:Int)<78)=false from decide_eq_false o_]at J
 iterate 3 refine ab J λ_ J=>?_
 refine ab J (hy:=by intro o ho;exact fJ ho gx gx) λ_ J=>?_;by_cases c2:8192<sg
 .rw[show decide ((sg:Int)>8192)=true from decide_eq_true o_]at J;have e:iR s.data.toList=(ic,5):=by rw[e0,zU,if_pos o_]
  refine ab J λ_ J=>?_
  iterate 3 refine bY J λ_ J=>?_
  refine ab J (hy:=by intro o ho;exact fI ho gx gx) λ_ J=>?_;refine ab J λ_ J=>?_
  iterate 4 refine bY J λ_ J=>?_
  refine ab J (hy:=by intro o ho;exact fI ho gx gx) λ_ J=>?_;refine aD true J ?_ (hq:=rfl);refine ab J (v:=.agg ic.toArray) (hy:=by intro o ho;exact eX _ ho (i4 J rfl) (λ_=>by kernel_rfl)) λ_ J=>?_;refine cZ J (hy:=by intro o ho;exact eP (vs:=ic.toArray) ho gx gx hc k_ rfl (by simp[ic,oX,ax4])) λw4 _ hp J=>?_;refine ab J λ_ J=>?_;refine my J hp.here rfl ?_;rw[e];exact⟨rfl,hb.trans (hp.below hg)⟩
 rw[show decide ((sg:Int)>8192)=false from decide_eq_false o_]at J
 iterate 4 refine ab J λ_ J=>?_
 refine ab J (hy:=by intro o ho;exact fJ ho gx gx) λ_ J=>?_;by_cases c3:at'<sg
 .rw[show decide ((at':Int)<sg)=true from decide_eq_true o_]at J;have e:iR s.data.toList=(ic,5):=by rw[e0,zU,if_pos o_]
  refine ab J λ_ J=>?_
  iterate 4 refine bY J λ_ J=>?_
  refine ab J (hy:=by intro o ho;exact fI ho gx gx) λ_ J=>?_;refine aD true J ?_ (hq:=rfl);refine ab J (v:=.agg ic.toArray) (hy:=by intro o ho;exact eX _ ho (i4 J rfl) (λ_=>by kernel_rfl)) λ_ J=>?_;refine cZ J (hy:=by intro o ho;exact eP (vs:=ic.toArray) ho gx gx hc k_ rfl (by simp[ic,oX,ax4])) λw4 _ hp J=>?_;refine ab J λ_ J=>?_;refine my J hp.here rfl ?_;rw[e];exact⟨rfl,hb.trans (hp.below hg)⟩
 rw[show decide ((at':Int)<sg)=false from decide_eq_false o_]at J
 iterate 5 refine ab J λ_ J=>?_
 refine ab J (hy:=by intro o ho;exact fJ ho gx gx) λ_ J=>?_;by_cases c4:8192<at'+l
 .rw[show decide (((at'+l:Nat):Int)>8192)=true from decide_eq_true o_]at J;have e:iR s.data.toList=(ic,5):=by rw[e0,zU,if_pos o_]
  refine aD true J ?_ (hq:=rfl);refine ab J (v:=.agg ic.toArray) (hy:=by intro o ho;exact eX _ ho (i4 J rfl) (λ_=>by kernel_rfl)) λ_ J=>?_;refine cZ J (hy:=by intro o ho;exact eP (vs:=ic.toArray) ho gx gx hc k_ rfl (by simp[ic,oX,ax4])) λw4 _ hp J=>?_;refine ab J λ_ J=>?_;refine my J hp.here rfl ?_;rw[e];exact⟨rfl,hb.trans (hp.below hg)⟩
 rw[show decide (((at'+l:Nat):Int)>8192)=false from decide_eq_false o_]at J;refine aD false J ?_ (hq:=rfl)
 replace J:aB [(0,.string s),(2,.pk g 0),(4,.int .u64 (v:Int)),(5,.int .u64 (sg:Int)),(6,.int .u64 (en:Int)),(7,.int .u64 (at':Int)),(8,.int .u64 (l:Int))] 77 [] _:=J.O
 iterate 3 refine ab J λ_ J=>?_
 by_cases d1:en%4=0
 .rw[show decide (((en%4:Nat):Int)≠0)=false from decide_eq_false o_]at J
  iterate 3 refine ab J λ_ J=>?_
  refine ab J (hy:=by intro o ho;exact fJ ho gx gx) λ_ J=>?_;by_cases d2:en<78
  .rw[show decide ((en:Int)<78)=true from decide_eq_true o_]at J;have e:iR s.data.toList=(ic,6):=(by rw[e0,zU,if_neg o_,if_pos o_]);refine ab J λ_ J=>?_
   iterate 3 refine bY J λ_ J=>?_
   refine ab J (hy:=by intro o ho;exact fI ho gx gx) λ_ J=>?_;refine aD true J ?_ (hq:=rfl);refine ab J (v:=.agg ic.toArray) (hy:=by intro o ho;exact eX _ ho (i4 J rfl) (λ_=>by kernel_rfl)) λ_ J=>?_;refine cZ J (hy:=by intro o ho;exact eP (vs:=ic.toArray) ho gx gx hc k_ rfl (by simp[ic,oX,ax4])) λw4 _ hp J=>?_;refine ab J λ_ J=>?_;refine my J hp.here rfl ?_;rw[e];exact⟨rfl,hb.trans (hp.below hg)⟩
  rw[show decide ((en:Int)<78)=false from decide_eq_false o_]at J
  iterate 4 refine ab J λ_ J=>?_
  refine ab J (hy:=by intro o ho;exact fJ ho gx gx) λ_ J=>?_;by_cases d3:sg<=en
  .rw[show decide ((en:Int)≥sg)=true from decide_eq_true o_]at J;have e:iR s.data.toList=(ic,6):=(by rw[e0,zU,if_neg o_,if_pos o_]);refine aD true J ?_ (hq:=rfl);refine ab J (v:=.agg ic.toArray) (hy:=by intro o ho;exact eX _ ho (i4 J rfl) (λ_=>by kernel_rfl)) λ_ J=>?_;refine cZ J (hy:=by intro o ho;exact eP (vs:=ic.toArray) ho gx gx hc k_ rfl (by simp[ic,oX,ax4])) λw4 _ hp J=>?_;refine ab J λ_ J=>?_;refine my J hp.here rfl ?_;rw[e];exact⟨rfl,hb.trans (hp.below hg)⟩
  rw[show decide ((en:Int)≥sg)=false from decide_eq_false o_]at J;refine aD false J ?_ (hq:=rfl);have e:iR s.data.toList=(oX v sg en at' l (bV s.data.toList 22 78),0):=by rw[e0,zU,if_neg o_,if_neg o_]
  replace J:aB [(0,.string s),(2,.pk g 0),(4,.int .u64 (v:Int)),(5,.int .u64 (sg:Int)),(6,.int .u64 (en:Int)),(7,.int .u64 (at':Int)),(8,.int .u64 (l:Int))] 77 [] _:=J.O
  iterate 11 refine ab J λ_ J=>?_
  refine ab J (hy:=by intro o ho;exact ky (m:=22) (n:=78) ho gx gx gx k_ d_ o_) λ_ J=>?_;rw[eB]at J;refine ig J func96 (DN _ _ (by show(bV s.data.toList 22 78).toArray.size<=_;rw[AT,fA _ _ _ (by rw[Uq];omega)];omega)) λw2 _ S_ J=>?_;have Ts:=bk S_ hc;refine ab J (v:=.agg (oX v sg en at' l (bV s.data.toList 22 78)).toArray) (hy:=by intro o ho;exact eX _ ho (i4 J rfl) (λ_=>by kernel_rfl)) λ_ J=>?_;refine cZ J (hy:=by intro o ho;exact eP (vs:=(oX v sg en at' l (bV s.data.toList 22 78)).toArray) ho gx gx Ts k_ rfl (by simp[oX,ax4])) λw4 _ hp J=>?_;refine ab J λ_ J=>?_;refine my J hp.here rfl ?_;rw[e];exact⟨rfl,(ae hb hb.size S_).trans (hp.below hg)⟩
 rw[show decide (((en%4:Nat):Int)≠0)=true from decide_eq_true o_]at J;have e:iR s.data.toList=(ic,6):=by rw[e0,zU,if_neg o_,if_pos o_]
 refine ab J λ_ J=>?_
 iterate 2 refine bY J λ_ J=>?_
 refine ab J (hy:=by intro o ho;exact fI ho gx gx) λ_ J=>?_;refine ab J λ_ J=>?_
 iterate 3 refine bY J λ_ J=>?_
 refine ab J (hy:=by intro o ho;exact fI ho gx gx) λ_ J=>?_;refine aD true J ?_ (hq:=rfl);refine ab J (v:=.agg ic.toArray) (hy:=by intro o ho;exact eX _ ho (i4 J rfl) (λ_=>by kernel_rfl)) λ_ J=>?_;refine cZ J (hy:=by intro o ho;exact eP (vs:=ic.toArray) ho gx gx hc k_ rfl (by simp[ic,oX,ax4])) λw4 _ hp J=>?_;refine ab J λ_ J=>?_;refine my J hp.here rfl ?_;rw[e];exact⟨rfl,hb.trans (hp.below hg)⟩
end

end Go.Proofs.YtkmoglhgkcnalaaGreatDoor
namespace Go.Proofs.YtkmoglhgkcnalaaGreatDoor.L1
open Go Go.Conc Go.RowKit Go.Proofs.YtkmoglhgkcnalaaGreatDoor
def HE(w:World)(cb:Nat)(fl:Value)(W:List Int)(on:Bool)(sl:Int):Prop:=W.length=85/\∃K:List Int,K.length=16/\(∀i (h:i<K.length),0<=K[i]/\K[i]<256)/\w.heap[cb]?=some (.cells (jm fl W K on sl) 149)
def kz(cb:Nat)(room:Int)(cut:Bool):Array Value:=#[.pk cb 0,.int .i64 room,.bool cut]
section
variable{fl:Value}{W:List Int}{on:Bool}
theorem NS:f99.body=some (rG f99 0):=by kernel_rfl
theorem O8:f182.body=some (rG f182 0):=by kernel_rfl
theorem Og:f175.body=some (.seq (rG f175 0) (.seq (rG f175 1) (rG f175 2))):=by kernel_rfl
theorem GT:f157.body=some (.seq (.seq (rG f157 0) (.cond (.tmp 8) (.seq (rG f157 1) (rG f157 2)) .skip)) (.seq (rG f157 3) (rG f157 4))):=by kernel_rfl
end

def bo(r:Int)(j:Bool)(s e c:Int):Array Value:=#[.int .i64 r,.bool j,.int .i64 s,.int .i64 e,.int .i64 c]
def XR(cb rb:Nat):Nat->Prop:=λb=>b=cb\/b=rb
theorem mH{rb:Nat}{fl:Value}{W:List Int}{on:Bool}{c:Array Value}(h:HE w cb fl W on sl)(hb:w.heap[rb]?=some (.cells c 151))(b:Nat)(cs:Array Value)(fr:Nat×Nat)(hc:w.heap[b]?=some (.cells cs 5 fr)):¬XR cb rb b:=by
 rintro(rfl|rfl)
 .obtain⟨_,K,_,_,h⟩:=h;rw[h]at hc;injection hc with hc;injection hc with _ hc;cases hc
 .rw[hb]at hc;injection hc with hc;injection hc with _ hc;cases hc
theorem Ar{rb:Nat}{fl:Value}{W:List Int}{on:Bool}{c:Array Value}(h:HE w cb fl W on sl)(hb:w.heap[rb]?=some (.cells c 151)):cb≠rb:=λe=>by
 obtain⟨hW,K,hK,hk,hc⟩:=h;rw[e,hb]at hc;injection hc with hc;injection hc with _ hc;cases hc
theorem Ex.wide{Y:Nat->Prop}(h:Ex X w w')(hy:∀b,b<w.heap.size->X b->Y b):Ex Y w w':=⟨h.os,h.output,h.tape,h.size,λb hb hx=>h.block b hb λe=>hx (hy b hb e)⟩
section
variable{u:TypeId}
theorem i2(SS:o.op=.alloc 100):(execOp ev o).run prog w=.ok (.value (.pk w.heap.size 0)) (w.alloc (.cells (bo 0 false 0 0 0) 100)):=by
 have e:execOp ev o=(do pure (.value (←az0 100 true (.tuple #[])))):=by simp only[execOp,SS]
 have h2:(do pure (.value (←az0 100 true (.tuple #[]))):Sem Next).run prog w=.ok (.value (.pk w.heap.size 0)) (w.alloc (.cells (bo 0 false 0 0 0) 100)):=by kernel_rfl
 rw[e,h2]
theorem qN(SS:o.op=.build 100 #[(4,x)])(hx:ev x=.int .i64 c):(execOp ev o).run prog w=.ok (.value (.agg (bo 0 false 0 0 c))) w:=by
 have e:execOp ev o=(do pure (.value (←ax9 100 #[(4,.int .i64 c)]))):=by simp[execOp,SS,hx]
 have h5:(do pure (.value (←ax9 100 #[(4,.int .i64 c)])):Sem Next).run prog w=.ok (.value (.agg (bo 0 false 0 0 c))) w:=by kernel_rfl
 rw[e,h5]
theorem Be{s n:Int}(SS:o.op=.build 100 #[(1,x),(2,y),(3,z)])(hx:ev x=.bool true)(hy:ev y=.int .i64 s)(hz:ev z=.int .i64 n):(execOp ev o).run prog w=.ok (.value (.agg (bo 0 true s n 0))) w:=by
 have e:execOp ev o=(do pure (.value (←ax9 100 #[(1,.bool true),(2,.int .i64 s),(3,.int .i64 n)]))):=by simp[execOp,SS,hx,hy,hz]
 have h5:(do pure (.value (←ax9 100 #[(1,.bool true),(2,.int .i64 s),(3,.int .i64 n)])):Sem Next).run prog w=.ok (.value (.agg (bo 0 true s n 0))) w:=by kernel_rfl
 rw[e,h5]
theorem iY:(prog.info? 100).map (·.size)=some 5:=by kernel_rfl
theorem dM{r s e:Int}{j:Bool}{old:Array Value}(SS:o.op=.store 100 x y)(hx:ev x=.pk b 0)(hy:ev y=.agg (bo r j s e c))(h:w.heap[b]?=some (.cells old t'))(hk:old.size=5):
 (execOp ev o).run prog w=.ok .skip (put w b (bo r j s e c) t'):=by
 rw[←gD h];exact aQ SS hx hy h iY hk (by simp[bo,ax4])
theorem Bj{len cap:Nat}(SS:o.op=.slice 83 x (some y) (some z) none)(hx:ev x=.sk g len cap)(hy:ev y=.int .i64 m)(hz:ev z=.int .i64 n)(h:n<=cap)(hm:m<n):(execOp ev o).run prog w=.ok (.value (.slice (some ⟨g,m,none⟩) (n- m) (cap- m))) w:=by
 have hu:prog.underlying 83=some (.slice 5):=by kernel_rfl
 have Wq:(sizeOf 5).run prog w=.ok 1 w:=by kernel_rfl
 have h1:m<=n:=by omega
 have h2:¬cap=m:=by omega
 have e0:(⟨g,0,none⟩:Addr).add m=⟨g,m,none⟩:=by rw[az3,aw9]
 simp[execOp,SS,hx,hy,hz,az5,aD8,ay6,run_underlying hu,ay8,asIntOf,h,Wq,h1,h2,e0]
theorem nC{off cap:Nat}{l:List UInt8}(SS:o.op=.convert 83 9 x)(hx:ev x=.slice (some ⟨g,off,none⟩) l.length cap)(hc:∀j (hj:j<l.length),w.cell? ⟨g,off+j,none⟩=some (.int .u8 (l[j].toNat:Int))):(execOp ev o).run prog w=.ok (.value (.string ⟨l.toArray⟩)) w:=by
 have h:=run_convert_bytes_back (P:=prog) w 83 9 5 ⟨g,off,none⟩ cap l k_ k_ k_ (λj hj=>by rw[az3];exact hc j hj);have e:execOp ev o=(do pure (.value (←convert 83 9 (.slice (some ⟨g,off,none⟩) l.length cap)))):=by simp only[execOp,SS,hx]
 rw[e];simp[h]
end
section
variable{rb:Nat}{fl:Value}{W:List Int}{on:Bool}{room:Int}
theorem GR:f159.body=some (.seq (rG f159 0) (.seq (rG f159 1) (.seq (rG f159 2) .ret))):=by kernel_rfl
theorem GU:f161.body=some (.seq (rG f161 0) (.seq (rG f161 1) (.seq (rG f161 2) (.seq (rG f161 3) .ret)))):=by kernel_rfl
theorem Oo:f160.body=some (.seq (rG f160 0) (.seq (rG f160 1) (.seq (rG f160 2) (.seq (rG f160 3) .ret)))):=by kernel_rfl
end

def pM(x:Int):Int:=
 let a:=az1.wrap (bits .and .u64 (x/2^1) 6148914691236517205+bits .and .u64 x 6148914691236517205)
 let b:=az1.wrap (bits .and .u64 (a/2^2) 3689348814741910323+bits .and .u64 a 3689348814741910323)
 let c:=bits .and .u64 (az1.wrap (b/2^4+b)) 1085102592571150095
 let d:=az1.wrap (c+c/2^8)
 let e:=az1.wrap (d+d/2^16)
 let f:=az1.wrap (e+e/2^32)
 bits .and .i64 (ax8.wrap f) 127
def rZ(a b c:Nat):Nat:=((a&&&b)|||(a&&&c))|||(b&&&c)
def yu(W:List Int):Bool:=(W.getD 0 0==255||W.getD 0 0==3855||W.getD 0 0==13107||W.getD 0 0==21845)&&W.getD 0 0==W.getD 1 0
def oT(W:List Int):Nat:=rZ (W.getD 2 0).toNat (W.getD 3 0).toNat (W.getD 4 0).toNat
def G0(W:List Int):Bool:=oT W&&&(oT W+1)==0
def iU(W:List Int)(k:Nat):List Int:=(W.drop (5+20*k)).take 20
def pg(x y:Int):Bool:=(x==y)&&(x==4080||x==61455)
def gZ(L:List Int):Bool:=pg (L.getD 0 0) (L.getD 1 0)&&pg (L.getD 2 0) (L.getD 3 0)
def iv(L:List Int):Bool:=(L.getD 0 0==4080)&&(L.getD 2 0==61455)
def dr(L:List Int):List UInt8:=L.flatMap λx=>cz x.toNat 2
def mE(W:List Int):Bool:=yu W&&G0 W&&(ax_ 4).all λk=>gZ (iU W k)
def yK(W:List Int):List Bool:=(ax_ 4).map λk=>iv (iU W k)
def Gf(W:List Int):List ByteArray:=(ax_ 4).map λk=>⟨(dr ((iU W k).drop 4)).toArray⟩
def dL(W:List Int):Prop:=W.length=85/\∀i,i<85->0<=W.getD i 0/\W.getD i 0<65536
def P8(W:List Int)(st le c:Int)(us:List Bool)(hs:List ByteArray):Prop:=(mE W=true/\c=0/\st=W.getD 0 0/\le=pM (oT W)/\us=yK W/\hs=Gf W)\/(mE W=false/\c=1)
def P7(W:List Int)(w:World)(v:Value)(w':World):Prop:=∃st le c pu lu qu ph lh qh us hs,v=.tuple #[.agg (eT st le (.slice pu lu qu) (.slice ph lh qh)),.int .i64 c]/\P8 W st le c us hs/\Bw w w'/\
 (c=0->∃bu bh,pu=some ⟨bu,0,none⟩/\lu=4/\qu=4/\ph=some ⟨bh,0,none⟩/\lh=4/\qh=4/\w'.heap[bu]?=some (.cells (us.map Value.bool).toArray 4)/\w'.heap[bh]?=some (.cells (hs.map Value.string).toArray 9))
def kN:Prop:=∀(W:List Int) (w:World) (cb off q:Nat),85<=q->dL W->w.rangeAt cb off (W.map (Value.int .i64))->cb<w.heap.size->
 Cl kX 158 #[.slice (some ⟨cb,off,none⟩) 85 q] w λe w'=>∃v,e=.returned v/\P7 W w v w'

def C2(f:Func):Code:=.block 1 (.seq (rG f 4) (.cond (.tmp 15) (.seq (rG f 5) .ret) .skip))
def AW(f:Func)(T:Array Value)(ld:Nat)(st:LoopState)(pd:Option Code):Loop:={state:=st,pending:=pd,fn:=73,tmps:=T,params:=#[12],assign:=.region 3 (bM f 3) false,body:=C2 f,defers:=ld}
section
variable{ld:Nat}{fz:Array Value}{x:ByteArray}{T:Array Value}
theorem M8(hT:aB [(4,.pk b4 0),(5,.pk b5 0)] 16 [] ⟨T,[]⟩)(hl:w0.heap.size<=l)(hb:w0.heap.size<=b4){h:ByteArray}
 (hC:Cv 45 4 9 w0 b3 b4 b5 l ld (AW f73 T ld .ready none) fz x false w)
 (nt:(h.data.toList==x.data.toList)=false->∀w',Cv 45 4 9 w0 b3 b4 b5 l ld (AW f73 T ld .ready none) fz x false w'->Rn kX Goal (cf.finish (.bool true)) cs w')
 (nq:(h.data.toList==x.data.toList)=true->∀w',Cv 45 4 9 w0 b3 b4 b5 l ld (AW f73 T ld .done (some .ret)) fz x true w'->Rn kX Goal (cf.finish (.bool false)) cs w'):
 Rn kX Goal (aH4 l 73 (((#[12]:Array Tmp).zip #[.string h]).foldl (λtmps (t,a)=>tmps.setIfInBounds t a) T) (rG f73 3) (C2 f73) .normal) (cf::cs) w:=by
 have J:=hT.put (d:=12) d_ (.string h);have ez:((#[12]:Array Tmp).zip #[.string h]).foldl (λ(tmps:Array Value) (x:Tmp×Value)=>match x with|(t,a)=>tmps.setIfInBounds t a) T=T.setIfInBounds 12 (.string h):=by simp
 rw[ez];show Rn _ Goal ((rb 73 l).atR (aG9 ⟨T,[]⟩ (some 12) (.string h)) [.code (rG f73 3),.beginRound,.code (C2 f73)]) (cf::cs) w;revert J;generalize aG9 ⟨T,[]⟩ (some 12) (.string h)=a;intro J;refine dY (L:=[0]) rfl (Sb J 6 12 rfl λa J=>?_);refine a9 rfl (j6 (r:=AW f73 T ld .ready none) rfl hC.loop rfl ?_);have VA:=hC.turn hl (AW f73 T ld .busy none);refine ab J λa J=>?_;refine ai J (λo ho=>(av (v:=.string x) bU ho (J.Q 5) ((ar VA.hsh 0).trans rfl)).1) λa J=>?_;refine ab J λa J=>?_;refine a9 rfl (ak _ (J.Q 15) ?_);cases he:(h.data.toList==x.data.toList)with
 |true=>
  refine aP J (λo ho=>(dC (v:=.bool true) (v0:=.bool false) rfl rfl k_ ho (J.Q 4) rfl ((ar VA.res 0).trans rfl) (by simp[az2,VA.res])).1) λa J=>?_;have Us:=VA.put d_ d_ hb true;exact a9 rfl (yd rfl rfl Us.loop (nq he _ (Us.turn hl _)))
 |false=>
  exact a9 rfl (a9 rfl (ir rfl rfl VA.loop (nt he _ (VA.turn hl _))))
end

def G4(f:Func):Code:=.seq (rG f 1) (.seq (.cond (.tmp 12) .skip (.exit 0)) (.seq (.block 1 (.seq (rG f 2) (.seq (rG f 3) (.cond (.tmp 28) .ret .skip)))) (rG f 4)))
theorem KP:f124.body=some (.seq (rG f124 0) (.block 0 (.loop (G4 f124)))):=by kernel_rfl
theorem rk(us:List Bool)(hs:List ByteArray)(x:ByteArray)(i:Nat)(u:Bool)(h:ByteArray)(h1:us[i]?=some u)(h2:hs[i]?=some h):vouchF (us.drop i) (hs.drop i) x=((u&&h.data.toList==x.data.toList)||vouchF (us.drop (i+1)) (hs.drop (i+1)) x):=by
 obtain⟨a1,rfl⟩:=aw5.1 h1;obtain⟨a2,rfl⟩:=aw5.1 h2;rw[aE_ a1,aE_ a2];rfl
theorem tD(us:List Bool)(hs:List ByteArray)(x:ByteArray)(i:Nat)(h:min us.length hs.length<=i):vouchF (us.drop i) (hs.drop i) x=false:=by
 rcases(by omega:us.length<=i\/hs.length<=i)with h|h
 .rw[aL1 h];rfl
 .rw[aL1 h];cases us.drop i<;>rfl
section
variable{ld:Nat}{st le:Int}{vu vh:Value}{x:ByteArray}{us:List Bool}{hs:List ByteArray}{T:Array Value}
theorem Df(hT:aB [(4,.pk b4 0),(5,.pk b5 0)] 16 [] ⟨T,[]⟩)(hl:w0.heap.size<=l)(hb:w0.heap.size<=b4)(hU:cV w0 vu (us.map .bool))(hH:cV w0 vh (hs.map .string))(WK:us.length<4611686018427387904)
 (nf:vouchF us hs x=false->∀w',Cv 45 4 9 w0 b3 b4 b5 l ld (AW f73 T ld .ready none) (eT st le vu vh) x false w'->Rn kX Goal (cf.finish (.tuple #[])) cs w')
 (nq:vouchF us hs x=true->∀w',Cv 45 4 9 w0 b3 b4 b5 l ld (AW f73 T ld .done (some .ret)) (eT st le vu vh) x true w'->Rn kX Goal (cf.finish (.tuple #[])) cs w'):
 ∀(m i:Nat) (a:Act) (w:World),min us.length hs.length- i=m->i<=min us.length hs.length->vouchF us hs x=vouchF (us.drop i) (hs.drop i) x->aB [(0,.func (.yield l) #[] #[]),(1,.pk b3 0),(10,.int .i64 (min us.length hs.length:Nat)),(11,.int .i64 i)] 30 [] a->
  Cv 45 4 9 w0 b3 b4 b5 l ld (AW f73 T ld .ready none) (eT st le vu vh) x false w->
  Rn kX Goal ((base 124).atR a [.code (G4 f124),.inLoop (G4 f124),.inBlock 0]) (cf::cs) w:=by
 intro m;induction m with
 |zero=>
  intro i a w hm hi hv J hC;refine ab J λa J=>?_;refine a9 rfl (a9 rfl (ak _ (J.Q 12) ?_));rw[decide_eq_false o_];refine a9 rfl (aS rfl (.inl rfl) (iu rfl J.defers func124 (nf ?_ _ hC)));rw[hv];exact tD us hs x i o_
 |succ m ih=>
  intro i a w hm hi hv J hC;have hiu:i<us.length:=by omega
  have hih:i<hs.length:=by omega
  obtain⟨pu,cu,eu,hcu⟩:=hU.below hC.old;obtain⟨ph,ch,eh,VF⟩:=hH.below hC.old;obtain⟨au,rfl,Z_⟩:=hcu i (.bool us[i]) (by simp[hiu]);obtain⟨ah,rfl,hch2⟩:=VF i (.string hs[i]) (by simp[hih]);have YF:=rk us hs x i us[i] hs[i] (by simp[hiu]) (by simp[hih]);refine ab J λa J=>?_;refine a9 rfl (a9 rfl (ak _ (J.Q 12) ?_));rw[decide_eq_true o_]
  iterate 3 refine ab J λa J=>?_
  refine ai J (λo ho=>(av (v:=.slice (some au) (us.map Value.bool).length cu) gL ho (J.Q 14) ((ar hC.fus 1).trans (by rw[←eu];rfl))).1) λa J=>?_;refine ab J λa J=>?_;refine ab J λa J=>?_;refine ai J (λo ho=>(av (v:=.bool us[i]) iJ ho (J.Q 17) Z_).1) λa J=>?_;refine ab J λa J=>?_;obtain⟨q,hq⟩:∃q,us[i]=q:=⟨_,rfl⟩;rw[hq]at J YF;cases q with
  |false=>
   refine gn J 20 (.move (.tmp 0)) 5 19 false (λ_=>True) rfl s_ (λh=>by cases h) λv20 a _ J=>?_;refine gn J 21 (.fieldAddr 45 (.tmp 1) 3) 5 19 false (λ_=>True) rfl s_ (λh=>by cases h) λv21 a _ J=>?_;refine gn J 22 (.load 43 (.tmp 21)) 5 19 false (λ_=>True) rfl s_ (λh=>by cases h) λv22 a _ J=>?_;refine gn J 23 (.move (.tmp 3)) 5 19 false (λ_=>True) rfl s_ (λh=>by cases h) λv23 a _ J=>?_;refine gn J 24 (.indexAddr 43 (.tmp 22) (.tmp 23)) 5 19 false (λ_=>True) rfl s_ (λh=>by cases h) λv24 a _ J=>?_;refine gn J 25 (.load 9 (.tmp 24)) 5 19 false (λ_=>True) rfl s_ (λh=>by cases h) λv25 a _ J=>?_;refine gn J 26 (.call {callee:=.value (.tmp 20),args:=#[.tmp 25],argTypes:=#[9]}) 5 19 false (λ_=>True) rfl s_ (λh=>by cases h) λv26 a _ J=>?_;refine gn J 27 (.unOp .not 4 (.tmp 26)) 5 19 false (λ_=>True) rfl s_ (λh=>by cases h) λv27 a _ J=>?_;refine ai J (λo ho=>qM (q:=false) (r:=false) ho (J.Q 19) (λh=>by cases h) rfl) λa J=>?_;refine a9 rfl (ak false (J.Q 28) ?_)
   iterate 2 refine ab J λa J=>?_
   refine a9 rfl (a9 rfl (ih (i+1) a _ o_ o_ (hv.trans (YF.trans s_)) (J.only ⟨rfl,rfl,rfl,rfl,trivial⟩) hC))
  |true=>
   iterate 2 refine ab J λa J=>?_
   refine gn J 22 (.load 43 (.tmp 21)) 5 19 true (λv=>v=.slice (some ah) (hs.map Value.string).length ch) rfl s_ (λ_ o ho=>eL (av (v:=.slice (some ah) (hs.map Value.string).length ch) gK ho (J.Q 21) ((ar hC.fus 3).trans (by rw[←eh];rfl))).1 ⟨rfl,rfl⟩) λv a TS J=>?_;obtain rfl:=TS rfl;refine ab J λa J=>?_;refine ab J λa J=>?_;refine gn J 25 (.load 9 (.tmp 24)) 5 19 true (λv=>v=.string hs[i]) rfl s_ (λ_ o ho=>eL (av (v:=.string hs[i]) bU ho (J.Q 24) hch2).1 ⟨rfl,rfl⟩) λv a TS J=>?_;obtain rfl:=TS rfl;have h26:((bM f124 3)[12]?).map (λo=>(o.dst,o.op,o.guard))=some (some 26,.call {callee:=.value (.tmp 20),args:=#[.tmp 25],argTypes:=#[9]},some (5,true)):=(by kernel_rfl);cases ho:(bM f124 3)[12]? with
   |none=>rw[ho]at h26;cases h26
   |some o=>
   rw[ho]at h26;simp only[Option.map_some,Option.some.injEq,Prod.mk.injEq]at h26;obtain⟨e1,e2,e3⟩:=h26;have hw:=oH (ops:=bM f124 3) (tmps:=a.tmps) (d:=19) e3 k_ (J.slot 19 _ rfl);refine mi (args:=#[.string hs[i]]) ho (hw.trans rfl) (by rw[e2];simp) hC.loop rfl (λw=>jb e2 (J.Q 20) (by simp[J.Q 25]) w) ?_;refine M8 hT hl hb hC (λT2 w2 Us=>?_) (λheq w2 Us=>?_)
   .rw[aA6,ho,aD6,e1];have J:=J.put (d:=26) d_ (.bool true);revert J;generalize a.put (some 26) (.bool true)=a;intro J;clear e1 e2 e3 ho;refine ab J λa J=>?_;refine ab J λa J=>?_;refine a9 rfl (ak false (J.Q 28) ?_)
    iterate 2 refine ab J λa J=>?_
    refine a9 rfl (a9 rfl (ih (i+1) a _ o_ o_ (hv.trans (YF.trans (by simp[T2]))) (J.only ⟨rfl,rfl,rfl,rfl,trivial⟩) Us))
   .rw[aA6,ho,aD6,e1];have J:=J.put (d:=26) d_ (.bool false);revert J;generalize a.put (some 26) (.bool false)=a;intro J;clear e1 e2 e3 ho;refine ab J λa J=>?_;refine ab J λa J=>?_;refine a9 rfl (ak true (J.Q 28) ?_);refine aS rfl (.inr ⟨_,rfl⟩) (iu rfl J.defers func124 (nq ?_ _ Us));rw[hv,YF,heq];rfl
end

theorem JG(SS:o.op=.alloc 4):(execOp ev o).run prog w=.ok (.value (.pk w.heap.size 0)) (w.alloc (.cells #[.bool false] 4)):=by
 have e:execOp ev o=(do pure (.value (←az0 4 true (.tuple #[])))):=by simp only[execOp,SS]
 have h2:(do pure (.value (←az0 4 true (.tuple #[]))):Sem Next).run prog w=.ok (.value (.pk w.heap.size 0)) (w.alloc (.cells #[.bool false] 4)):=by kernel_rfl
 rw[e,h2]
theorem IE{a1:ByteArray}(SS:o.op=.buildSlice 43 1 #[(0,x)])(h1:ev x=.string a1):
 (execOp ev o).run prog w=.ok (.value (.sk w.heap.size 1 1)) (w.alloc (.cells #[.string a1] 9)):=by
 have e:execOp ev o=(do pure (.value (←ax5 43 1 #[(0,.string a1)]))):=by simp[execOp,SS,h1]
 have h2:(do pure (.value (←ax5 43 1 #[(0,.string a1)])):Sem Next).run prog w=.ok (.value (.sk w.heap.size 1 1)) (w.alloc (.cells #[.string a1] 9)):=by kernel_rfl
 rw[e,h2]
theorem Ov:f97.body=some (.seq (rG f97 0) (.seq (rG f97 1) .ret)):=by kernel_rfl
theorem yL(fz:Array Value)(w:World):Cl kX 97 #[.agg fz] w λe w'=>e=.returned (.func (.func 124) #[] #[.pk w.heap.size 0])/\w'=w.alloc (.cells fz 45):=by
 refine az (N:=4) func97 Ov λcs a J=>?_;refine bK ?_;refine tx J 1 0 45 rfl λa J=>?_;show Rn _ _ _ _ (w.alloc (.cells fz 45));refine ab J λa J=>?_;refine bK ?_;refine po J 3 (.makeFunc (.func 124) #[] #[.tmp 1]) (v:=.func (.func 124) #[] #[.pk w.heap.size 0]) (w':=w.alloc (.cells fz 45)) (λo ho=>?_) λa J=>?_
 .have:=(ee (ev:=a.eval) (w:=w.alloc (.cells fz 45)) prog ho).1
  rwa [show(#[aH5 1]:Array Operand).map a.eval=#[.pk w.heap.size 0]from by simp[J.Q 1]]at this
 refine ab J λa J=>?_;exact aH J ⟨rfl,rfl⟩
theorem OD:f73.body=some (.seq (rG f73 0) (.seq (rG f73 1) (.seq (.seq (rG f73 2) (.block 0 (.rangeFunc (.tmp 11) #[12] (rG f73 3) (C2 f73)))) (.seq (rG f73 6) .ret)))):=by kernel_rfl
theorem wx(KS:List Int)(SY:KS.length=64)(key:ByteArray)(st le:Int)(vu vh:Value)(us:List Bool)(hs:List ByteArray)(w:World)(hU:cV w vu (us.map .bool))(hH:cV w vh (hs.map .string))(WK:us.length<4611686018427387904)(Ua:key.size<=281474976710656)(hK:w.rangeAt 0 0 (aI KS))(h0:0<w.heap.size):
 Cl kX 73 #[.string key,.agg (eT st le vu vh)] w λe w'=>e=.returned (.bool (vouchF us hs (j1 KS [key])))/\Bw w w':=by
 refine vN (t:=4) (ty:=4) func73 rfl (λw=>(iJ w).1) λcs=>?_;refine bv (N:=16) func73 OD λa J=>?_;refine dw J λw1 a b1 c3 z1 J=>?_;refine bA J (λo ho=>JG ho) λw2 a b2 c4 z2 J=>?_;rw[z1]at J c4 z2;have c3:=(b2.block _ o_).trans c3;have B2:Bw w w2:=ae b1 b1.size b2;clear b1 b2 z1;refine ab J λa J=>?_;refine bA J (λo ho=>IE ho (J.Q 7)) λw3 a b3 c8 z3 J=>?_;have B3:Bw w w3:=ae B2 B2.size b3;have c3:=(b3.block _ o_).trans c3;have c4:=(b3.block _ o_).trans c4;refine bz (v:=.string (j1 KS [key])) J func91 (nS KS [key] _ w3 _ 1 rfl rfl c8 (bG h0 B3 hK) SY (by simp;omega) s_) λw4 b4 a J=>?_;have B4:Bw w w4:=ae B3 B3.size b4;have z4:=b4.size;have c3:=(b4.block _ o_).trans c3;have c4:=(b4.block _ o_).trans c4;refine bA J (λo ho=>(m9 ho).1) λw5 a b5 c5 z5 J=>?_;have B5:Bw w w5:=ae B4 B4.size b5;have c3:=(b5.block _ o_).trans c3;have c4:=(b5.block _ o_).trans c4;refine aP J (λo ho=>(dC (v:=.string (j1 KS [key])) (v0:=.string ⟨#[]⟩) rfl rfl k_ ho (J.Q 5) (J.Q 9) ((ar c5 0).trans rfl) (by simp[az2,c5])).1) λa J=>?_;have B6:Bw w (w5.setCell ⟨w4.heap.size,0,none⟩ (.string (j1 KS [key]))):=B5.trans (dc w5 _ _ (by have:=B4.size;exact this));have d5:(w5.setCell ⟨w4.heap.size,0,none⟩ (.string (j1 KS [key]))).heap[w4.heap.size]?=some (.cells #[.string (j1 KS [key])] 9):=jE c5;have d3:=(bF w5 (a:=⟨w4.heap.size,0,none⟩) (.string (j1 KS [key])) (show w.heap.size≠w4.heap.size by omega)).trans c3;have d4:=(bF w5 (a:=⟨w4.heap.size,0,none⟩) (.string (j1 KS [key])) (show w.heap.size+1≠w4.heap.size by omega)).trans c4;revert B6 d5 d3 d4;generalize w5.setCell ⟨w4.heap.size,0,none⟩ (.string (j1 KS [key]))=w6;intro B6 d5 d3 d4;refine ab J λa J=>?_;refine bz J func97 ((yL (eT st le vu vh) w6)) λw7 YC a J=>?_;have b7:Bw w6 w7:=by rw[YC];exact aJ _ _
 have c7:w7.heap[w6.heap.size]?=some (.cells (eT st le vu vh) 45):=by rw[YC];exact aR _ _
 have z7:w7.heap.size=w6.heap.size+1:=by rw[YC];exact ay _ _
 clear YC;have B7:Bw w w7:=ae B6 B6.size b7;have l5:=(av9.1 d5).1;have d5:=(b7.block _ l5).trans d5;have l4:=(av9.1 d4).1;have d4:=(b7.block _ l4).trans d4;refine a9 rfl (a9 rfl ?_);refine jk (AW f73 a.tmps w7.heap.size .ready none) (args:=[.func (.yield (w7.heap.size+1)) #[] #[],.pk w6.heap.size 0].toArray) rfl rfl func124 k_ k_ (J.Q 11) rfl ?_;have hC:Cv 45 4 9 w w6.heap.size (w.heap.size+1) w4.heap.size (w7.heap.size+1) w7.heap.size (AW f73 a.tmps w7.heap.size .ready none) (eT st le vu vh) (j1 KS [key]) false (cj w7 (AW f73 a.tmps w7.heap.size .ready none)):=
  ⟨ae B7 B7.size (fT w7 _),(bf w7 _ o_).trans c7,(bf w7 _ o_).trans d4,(bf w7 _ o_).trans d5,ep w7 _,eo w7 _⟩
 revert hC;generalize cj w7 (AW f73 a.tmps w7.heap.size .ready none)=w8;intro hC;rw[gC (N:=30) _ func124 KP rfl];have hH1:=dF [.func (.yield (w7.heap.size+1)) #[] #[],.pk w6.heap.size 0] 30 s_;revert hH1;generalize (Act.mk (([.func (.yield (w7.heap.size+1)) #[] #[],.pk w6.heap.size 0]:List Value).toArray++ay3 (30-([.func (.yield (w7.heap.size+1)) #[] #[],.pk w6.heap.size 0]:List Value).toArray.size) undef) [])=g;intro hG;have hU':=hU;have hH':=hH;obtain⟨pu,cu,eu,_⟩:=hU;obtain⟨ph,ch,eh,_⟩:=hH;have z8:=hC.old.size;refine bK ?_;refine po hG 4 (.fieldAddr 45 (.tmp 1) 1) (λo ho=>rN 1 d_ ho (hG.Q 1)) λg hG=>?_;refine po hG 5 (.load 42 (.tmp 4)) (λo ho=>(av (v:=.slice pu (us.map Value.bool).length cu) gL ho (hG.Q 4) ((ar hC.fus 1).trans (by rw[←eu];rfl))).1) λg hG=>?_;refine po hG 6 (.call {callee:=.builtin .len,args:=#[.tmp 5],argTypes:=#[42]}) (λo ho=>fL (e:=4) k_ ho (hG.Q 5)) λg hG=>?_;refine po hG 7 (.fieldAddr 45 (.tmp 1) 3) (λo ho=>rN 3 d_ ho (hG.Q 1)) λg hG=>?_;refine po hG 8 (.load 43 (.tmp 7)) (λo ho=>(av (v:=.slice ph (hs.map Value.string).length ch) gK ho (hG.Q 7) ((ar hC.fus 3).trans (by rw[←eh];rfl))).1) λg hG=>?_;refine po hG 9 (.call {callee:=.builtin .len,args:=#[.tmp 8],argTypes:=#[43]}) (λo ho=>fL (e:=9) k_ ho (hG.Q 8)) λg hG=>?_;refine sP hG (v:=.int .i64 ((min (us.map Value.bool).length (hs.map Value.string).length:Nat):Int)) (hy:=by intro o ho;exact oZ ho gx gx o_) λg hG=>?_;refine po hG 11 (.move (.const (.int .i64 0))) (λo ho=>cg (.inl ho)) λg hG=>?_;rw[aF_,aF_]at hG;refine a9 rfl (a9 rfl (a9 rfl ?_));have hT:aB [(4,.pk (w.heap.size+1) 0),(5,.pk w4.heap.size 0)] 16 [] a:=J.only ⟨rfl,rfl,trivial⟩;have hD:aB [(4,.pk (w.heap.size+1) 0)] 16 [{target:=.collected w7.heap.size,args:=#[]}] ⟨a.tmps,{target:=.collected w7.heap.size,args:=#[]}::a.defers⟩:=⟨by rw[J.defers],J.size,(J.only (G:=[(4,.pk (w.heap.size+1) 0)]) ⟨rfl,trivial⟩).slot⟩;have far:∀(w9:World) (q:Bool),w9.heap[w.heap.size+1]?=some (.cells #[.bool q] 4)->ay_ {w9 with heap:=w9.heap.setIfInBounds w7.heap.size (.deferred none)} ⟨w.heap.size+1,0,none⟩=some (.bool q):=λw9 q h=>
  (ar (w:={w9 with heap:=w9.heap.setIfInBounds w7.heap.size (.deferred none)}) ((aw_ o_).trans h) 0).trans rfl
 refine Df (T:=a.tmps) (w0:=w) ⟨rfl,hT.size,hT.slot⟩ o_ o_ hU' hH' WK (λhv w9 Xi=>?_) (λhv w9 Xi=>?_) _ 0 g w8 rfl (ay7 _) rfl (hG.only ⟨rfl,rfl,rfl,rfl,trivial⟩) hC
 .show Rn kX _ ((base 73).atR ⟨a.tmps,{target:=.collected w7.heap.size,args:=#[]}::a.defers⟩ (.endRangeFunc (w7.heap.size+1)::_)) cs w9;revert hD;generalize (Act.mk a.tmps ({target:=.collected w7.heap.size,args:=#[]}::a.defers))=a2;intro hD;refine fV Xi.loop rfl rfl ?_;have Ue:=Xi.turn o_ (AW f73 a.tmps w7.heap.size .exhausted none);refine bK ?_;refine iP hD (.store 4 (.tmp 4) (.const (.bool false))) k_ s_ (λo ho=>(dC (v:=.bool false) (v0:=.bool false) rfl rfl k_ ho (hD.Q 4) rfl ((ar Ue.res 0).trans rfl) (by simp[az2,Ue.res])).1) λa2 hD=>?_;have Wo:=Ue.put d_ d_ o_ false;refine a9 rfl (aS rfl (.inr ⟨_,rfl⟩) (jA (ds:=[]) hD.defers Wo.list (bj ⟨⟨a2.tmps,[]⟩,_,⟨w.heap.size+1,0,none⟩,.bool false,rfl,rfl,hD.slot 4 _ rfl,far _ _ Wo.res,?_,Wo.old.trans (fC _ _ o_)⟩)));rw[hv]
 .show Rn kX _ ((base 73).atR ⟨a.tmps,{target:=.collected w7.heap.size,args:=#[]}::a.defers⟩ (.endRangeFunc (w7.heap.size+1)::_)) cs w9;revert hD;generalize (Act.mk a.tmps ({target:=.collected w7.heap.size,args:=#[]}::a.defers))=a2;intro hD;refine oz Xi.loop rfl rfl ?_;have Ue:=Xi.turn o_ (AW f73 a.tmps w7.heap.size .exhausted (some .ret));refine aS rfl (.inr ⟨_,rfl⟩) (jA (ds:=[]) hD.defers Ue.list (bj ⟨⟨a2.tmps,[]⟩,_,⟨w.heap.size+1,0,none⟩,.bool true,rfl,rfl,hD.slot 4 _ rfl,far _ _ Ue.res,?_,Ue.old.trans (fC _ _ o_)⟩));rw[hv]

theorem cU{C:iV}{R:Ending->World->Prop}{t u:Tmp}(hf:C.P.funcs[f]?=some fn)(TB:fn.results=#[.tmp t,.tmp u])
 (h:∀cs,Rn C (λg w'=>∃(a:Act) (k:List Item) (v v':Value),g=dj {(base f).atR a k with mode:=.returning} cs/\a.defers=[]/\a.tmps[t]?=some v/\a.tmps[u]?=some v'/\R (.returned (.tuple #[v,v'])) w') (ay2 C.P f args .normal) cs w):Cl C f args w R:=
 fB hf λcs L hG=>h cs L λfr cs' w' ⟨a,k,v,v',e,h1,h2,h3,h4⟩=>hG _ _ _ ⟨a,k,.tuple #[v,v'],e,h1,by simp[results,TB,h2,h3],h4⟩
theorem lB(L:List UInt8)(h:L.length<=4):∃n:Nat,c_ L=n/\n<4294967296:=by
 obtain⟨h1,h2⟩:=iB L 4 h;exact⟨(c_ L).toNat,by omega,by omega⟩
theorem zV(s:ByteArray)(h:(iR s.data.toList).2=0):∃(v en:Int) (sg a l:Nat) (k:List UInt8),iR s.data.toList=(oX v sg en a l k,0)/\8192<=s.size/\78<=sg/\sg<=a/\a+l<=8192/\k.length<=56:=by
 have Uq:s.data.toList.length=s.size:=by rw[ax1];rfl
 unfold iR at h⊢;split at h
 .cases h
 .rename_i h1;rw[if_neg h1];split at h
  .cases h
  .rename_i h2;rw[if_neg h2];have YW:=λa b (h:b<=8192)=>fA s.data.toList a b o_;obtain⟨sg,e1,g1⟩:=lB (bV s.data.toList 6 10) (by rw[YW _ _ o_];omega);obtain⟨a,e2,g2⟩:=lB (bV s.data.toList 14 18) (by rw[YW _ _ o_];omega);obtain⟨l,e3,g3⟩:=lB (bV s.data.toList 18 22) (by rw[YW _ _ o_];omega);rw[e1,e2,e3]at h⊢;unfold zU at h⊢;split at h
   .cases h
   .rename_i h3;rw[if_neg h3];split at h
    .cases h
    .rename_i h4;rw[if_neg h4];exact⟨_,_,sg,a,l,_,rfl,by omega,by omega,by omega,by omega,by rw[YW _ _ o_];omega⟩
def lQ(KS:List Int)(s:ByteArray)(le:Int)(us:List Bool)(hs:List ByteArray)(n c:Int):Prop:=
 ((iR s.data.toList).2≠0/\n=0/\c=(iR s.data.toList).2)\/∃(v en:Int) (sg a l:Nat) (k:List UInt8),iR s.data.toList=(oX v sg en a l k,0)/\
   ((v<le/\n=0/\c=7)\/(le<=v/\vouchF us hs (j1 KS [⟨k.toArray⟩])=false/\n=0/\c=8)\/
     (le<=v/\vouchF us hs (j1 KS [⟨k.toArray⟩])=true/\∃d,qE KS ⟨k.toArray⟩ (s.extract 0 sg) (s.extract a (a+l)) d/\((d≠0/\n=0/\c=d)\/(d=0/\n=en/\c=0))))
theorem rl(KS:List Int)(key msg sig:ByteArray):∃c,qE KS key msg sig c:=by
 unfold qE;by_cases h1:gl key
 .by_cases h2:jr (i7 key) (hK key) (nK key) sig
  .by_cases h3:(kQ KS key msg sig).data.toList=(key.extract 24 key.size).data.toList
   .exact⟨0,.inr (.inr (.inr ⟨h1,h2,h3,rfl⟩))⟩
   .exact⟨10,.inr (.inr (.inl ⟨h1,h2,h3,rfl⟩))⟩
  .exact⟨10,.inr (.inl ⟨h1,h2,rfl⟩)⟩
 .exact⟨9,.inl ⟨h1,rfl⟩⟩
theorem I1(KS:List Int)(SY:KS.length=64)(key msg sig:ByteArray)(hm:msg.size<=281474976706560)(hs:sig.size<=1125899906842624):∃c,qE KS key msg sig c/\∀w:World,w.rangeAt 0 0 (aI KS)->0<w.heap.size->Cl kX 36 #[.string key,.string msg,.string sig] w λe w'=>e=.returned (.int .i64 c)/\Bw w w':=by
 obtain⟨c,hc⟩:=rl KS key msg sig;exact⟨c,hc,λw h1 h2=>(sY KS SY key msg sig hm hs w h1 h2).mono λe w' ⟨d,e1,e2,e3⟩=>⟨by rw[e1,uE e2 hc],e3⟩⟩
theorem qQ(SS:o.op=.alloc 87):(execOp ev o).run prog w=.ok (.value (.pk w.heap.size 0)) (w.alloc (.cells ic.toArray 87)):=by
 have e:execOp ev o=(do pure (.value (←az0 87 true (.tuple #[])))):=by simp only[execOp,SS]
 have h2:(do pure (.value (←az0 87 true (.tuple #[]))):Sem Next).run prog w=.ok (.value (.pk w.heap.size 0)) (w.alloc (.cells ic.toArray 87)):=by kernel_rfl
 rw[e,h2]
theorem Lh(j:Nat)(hj:j<6)(SS:o.op=.fieldAddr 87 x j)(hx:ev x=.pk b 0):(execOp ev o).run prog w=.ok (.value (.pk b j)) w:=by
 have e:execOp ev o=(do pure (.value (←aw1 87 (.pk b 0) j))):=by simp only[execOp,SS,hx]
 have h2:(do pure (.value (←aw1 87 (.pk b 0) j)):Sem Next).run prog w=.ok (.value (.pk b j)) w:=by
  rcases(by omega:j=0\/j=1\/j=2\/j=3\/j=4\/j=5)with rfl|rfl|rfl|rfl|rfl|rfl<;>kernel_rfl
 rw[e,h2]
theorem jI:(prog.info? 87).map (·.size)=some 6:=by kernel_rfl
theorem OK:f40.body=some (.seq (rG f40 0) (.seq (rG f40 1) (.seq (.seq (rG f40 2) (.cond (.tmp 14) (.seq (rG f40 3) .ret) .skip)) (.seq (.seq (rG f40 4) (.cond (.tmp 20) (.seq (rG f40 5) .ret) .skip)) (.seq (.seq (rG f40 6) (.cond (.tmp 25) (.seq (rG f40 7) .ret) .skip)) (.seq (rD f40 8) (.seq (.seq (rG f40 9) (.cond (.tmp 43) (.seq (rG f40 10) .ret) .skip)) (.seq (rG f40 11) .ret)))))))):=by kernel_rfl
theorem DO(KS:List Int)(SY:KS.length=64)(s:ByteArray)(st le:Int)(vu vh:Value)(us:List Bool)(hs:List ByteArray)(w:World)(hU:cV w vu (us.map .bool))(hH:cV w vh (hs.map .string))(WK:us.length<4611686018427387904)(Tf:s.size<=281474976000000)(hK:w.rangeAt 0 0 (aI KS))(h0:0<w.heap.size):
 Cl kX 40 #[.string s,.agg (eT st le vu vh)] w λe w'=>∃n c,e=.returned (.tuple #[.int .i64 n,.int .i64 c])/\lQ KS s le us hs n c/\Bw w w':=by
 refine cU (t:=4) (u:=5) func40 rfl λcs=>?_;refine bv (N:=47) func40 OK λa J=>?_;refine bK ?_;refine tx J 3 1 45 rfl λa J=>?_;show Rn _ _ _ _ (w.alloc (.cells (eT st le vu vh) 45));have b1:=aJ w (.cells (eT st le vu vh) 45);have c3:=aR w (.cells (eT st le vu vh) 45);have z1:=ay w (.cells (eT st le vu vh) 45);revert b1 c3 z1;generalize w.alloc (.cells (eT st le vu vh) 45)=w1;intro b1 c3 z1
 iterate 3 refine ab J λa J=>?_
 refine bz J func72 ((Gg s w1 Tf)) λw2 b2 a J=>?_;have B2:Bw w w2:=ae b1 b1.size b2;have z2:=b2.size;have c3:=(b2.block _ o_).trans c3
 iterate 3 refine ab J λa J=>?_
 refine ai J (λo ho=>qQ ho) λa J=>?_;have b3:=aJ w2 (.cells ic.toArray 87);have c6:=aR w2 (.cells ic.toArray 87);revert b3 c6;generalize w2.alloc (.cells ic.toArray 87)=w3;intro b3 c6;have c3:=(b3.block _ o_).trans c3;have hlen:=BO s.data.toList;have We:=BN s.data.toList;refine aP J (λo ho=>aQ (cells:=(iR s.data.toList).1.toArray) ho (J.Q 6) (J.Q 11) c6 (by rw[jI,AT,hlen]) (by rw[AT,AT,hlen];rfl) (by rw[Array.all_eq_true'];intro v hv;exact We v (by simpa using hv))) λa J=>?_;have d6:=setRow_heap w3 w2.heap.size _ (iR s.data.toList).1.toArray _ _ c6;have B4:Bw w2 (w3.setRow w2.heap.size (iR s.data.toList).1.toArray):=b3.trans (a_ _ _ _ (aw0 _));have d3:=(B4.block _ (by omega:w.heap.size<w2.heap.size)).trans ((b3.block _ o_).symm.trans c3);revert d6 B4 d3;generalize w3.setRow w2.heap.size (iR s.data.toList).1.toArray=w4;intro d6 B4 d3;have B4:Bw w w4:=ae B2 B2.size B4;refine ab J λa J=>?_;clear b1 b2 b3 c3 c6
 iterate 2 refine ab J λa J=>?_
 refine a9 rfl (ak _ (J.Q 14) ?_);by_cases h1:(iR s.data.toList).2=0
 .rw[show((iR s.data.toList).2 !=0)=false from by simpa using h1];obtain⟨v,en,sg,at_,l,k,hh,g1,g2,g3,g4,g5⟩:=zV s h1;rw[hh]at d6;have e3:((at_+l:Nat):Int)=(at_:Int)+l:=aA8 _ _
  iterate 5 refine ab J λa J=>?_
  refine a9 rfl (ak _ (J.Q 20) ?_);by_cases h2:v<le
  .rw[decide_eq_true h2]
   iterate 2 refine ab J λa J=>?_
   exact eN J ⟨0,7,rfl,.inr ⟨v,en,sg,at_,l,k,hh,.inl ⟨h2,rfl,rfl⟩⟩,B4⟩
  rw[decide_eq_false h2];refine ai J (λo ho=>Lh 5 d_ ho (J.Q 6)) λa J=>?_
  iterate 2 refine ab J λa J=>?_
  refine bz J func73 ((wx KS SY ⟨k.toArray⟩ st le vu vh us hs w4 (hU.below B4) (hH.below B4) WK (by show k.toArray.size<=_;rw[AT];omega) (bG h0 B4 hK) (aw2 h0 B4.size))) λw5 b5 a J=>?_;have B5:Bw w w5:=ae B4 B4.size b5;have d6:=(b5.block _ (av9.1 d6).1).trans d6;refine ab J λa J=>?_;refine a9 rfl (ak _ (J.Q 25) ?_);cases hv:vouchF us hs (j1 KS [⟨k.toArray⟩])with
  |false=>
   iterate 2 refine ab J λa J=>?_
   exact eN J ⟨0,8,rfl,.inr ⟨v,en,sg,at_,l,k,hh,.inr (.inl ⟨by omega,hv,rfl,rfl⟩)⟩,B5⟩
  |true=>
   obtain⟨c,hc,Tx⟩:=I1 KS SY ⟨k.toArray⟩ (s.extract 0 sg) (s.extract at_ (at_+l)) (by rw[aw6];omega) (by rw[aw6];omega);have J:aB [(6,.pk w2.heap.size 0),(0,.string s)] 47 [] a:=J.only ⟨rfl,rfl,trivial⟩;refine a9 rfl (a9 rfl ?_);refine cC J ?_
   iterate 13 refine aj ?_
   refine aj ?_ (y:=λo a w ho z=>aN ho gx gx o_);refine aj ?_;refine cy func36 (λw hb _=>Tx w (bG h0 (ae B5 B5.size hb) hK) (aw2 h0 (ae B5 B5.size hb).size)) ?_;refine aj ?_;refine cc λa w6 J b6 _=>?_;have B6:Bw w w6:=ae B5 B5.size b6;have d6:=(b6.block _ (av9.1 d6).1).trans d6
   iterate 2 refine ab J λa J=>?_
   refine a9 rfl (ak _ (J.Q 43) ?_);by_cases h3:c=0
   .rw[show(c !=0)=false from by simpa using h3]
    iterate 4 refine ab J λa J=>?_
    exact eN J ⟨en,0,rfl,.inr ⟨v,en,sg,at_,l,k,hh,.inr (.inr ⟨by omega,hv,c,hc,.inr ⟨h3,rfl,rfl⟩⟩)⟩,B6⟩
   .rw[show(c !=0)=true from by simpa using h3]
    iterate 3 refine ab J λa J=>?_
    exact eN J ⟨0,c,rfl,.inr ⟨v,en,sg,at_,l,k,hh,.inr (.inr ⟨by omega,hv,c,hc,.inl ⟨h3,rfl,rfl⟩⟩)⟩,B6⟩
 .rw[show((iR s.data.toList).2 !=0)=true from by simpa using h1]
  iterate 3 refine ab J λa J=>?_
  exact eN J ⟨0,_,rfl,.inl ⟨h1,rfl,rfl⟩,B4⟩

theorem iD{le:Int}{us:List Bool}{hs:List ByteArray}{n n' c':Int}(h:lQ KS s le us hs n c)(h':lQ KS s le us hs n' c'):n=n'/\c=c':=by
 rcases h with⟨h1,rfl,rfl⟩|⟨v,en,sg,a,l,k,e1,h⟩
 .rcases h' with⟨_,rfl,rfl⟩|⟨v',en',sg',a',l',k',e2,_⟩
  .exact⟨rfl,rfl⟩
  .exact absurd (by rw[e2]) h1
 .rcases h' with⟨h2,_,_⟩|⟨v',en',sg',a',l',k',e2,h'⟩
  .exact absurd (by rw[e1]) h2
  .have e:=e1.symm.trans e2;simp only[oX,Prod.mk.injEq,List.cons.injEq,Value.int.injEq,Value.string.injEq,true_and,and_true]at e;obtain⟨rfl,q1,rfl,q2,q3,q4⟩:=e;obtain rfl:sg=sg':=by omega
   obtain rfl:a=a':=by omega
   obtain rfl:l=l':=by omega
   obtain rfl:k=k':=by simpa using q4
   rcases h with⟨g1,rfl,rfl⟩|⟨g1,g2,rfl,rfl⟩|⟨g1,g2,d,hd,h⟩<;>rcases h' with⟨g1',rfl,rfl⟩|⟨g1',g2',rfl,rfl⟩|⟨g1',g2',d',Yk,h'⟩
   .exact⟨rfl,rfl⟩
   .omega
   .omega
   .omega
   .exact⟨rfl,rfl⟩
   .rw[g2]at g2';cases g2'
   .omega
   .rw[g2]at g2';cases g2'
   .obtain rfl:=uE hd Yk;rcases h with⟨g3,rfl,rfl⟩|⟨g3,rfl,rfl⟩<;>rcases h' with⟨g3',rfl,rfl⟩|⟨g3',rfl,rfl⟩
    .exact⟨rfl,rfl⟩
    .exact absurd g3' g3
    .exact absurd g3 g3'
    .exact⟨rfl,rfl⟩
def BJ(f:Func):Code:=.seq (.seq (rG f 2) (.cond (.tmp 17) .skip (.exit 0))) (.seq (.block 1 (.seq (rG f 4) (.cond (.tmp 33) (.seq (rG f 5) .ret) .skip))) (rG f 3))
theorem KL:f42.body=some (.seq (rG f42 0) (.seq (.seq (rG f42 1) (.block 0 (.loop (BJ f42)))) (.seq (rG f42 6) .ret))):=by kernel_rfl
section
variable{st le:Int}{vu vh:Value}{x:ByteArray}{us:List Bool}{hs:List ByteArray}{k:List Item}
theorem Dh(hU:cV w vu (us.map .bool))(hH:cV w vh (hs.map .string))(WK:us.length<4611686018427387904)(hf:w.heap[b]?=some (.cells (eT st le vu vh) 45))
 (nf:vouchF us hs x=false->∀a,aB [] 34 [] a->Rn kX Goal ((base 42).atR a k) cs w)
 (nq:vouchF us hs x=true->∀a k',aB [(4,.bool true)] 34 [] a->Rn kX Goal ((base 42).atR a (.code .ret::k')) cs w):
 ∀(m i:Nat) (a:Act),min us.length hs.length- i=m->i<=min us.length hs.length->vouchF us hs x=vouchF (us.drop i) (hs.drop i) x->aB [(1,.string x),(2,.pk b 0),(5,.int .i64 i)] 34 [] a->
  Rn kX Goal ((base 42).atR a (.code (BJ f42):: .inLoop (BJ f42):: .inBlock 0::k)) cs w:=by
 obtain⟨pu,cu,eu,hcu⟩:=hU;obtain⟨ph,ch,eh,VF⟩:=hH;intro m;induction m with
 |zero=>
  intro i a hm hi hv J;refine ab J λa J=>?_;refine ai J (λo ho=>rN 1 d_ ho (J.Q 2)) λa J=>?_;refine ai J (λo ho=>(av (v:=.slice pu (us.map Value.bool).length cu) gL ho (J.Q 7) ((ar hf 1).trans (by rw[←eu];rfl))).1) λa J=>?_;refine ai J (λo ho=>fL (e:=4) k_ ho (J.Q 8)) λa J=>?_
  iterate 2 refine ab J λa J=>?_
  have TE:∀a,aB [] 34 [] a->Rn kX Goal ((base 42).atR a k) cs w:=nf (by rw[hv];exact tD us hs x i o_);by_cases h1:i<us.length
  .rw[show decide ((i:Int)<((us.map Value.bool).length:Int))=true from decide_eq_true (by rw[aF_];omega)]at J;refine ab J λa J=>?_;refine gn J 13 (.fieldAddr 45 (.tmp 2) 3) 5 11 true (λv=>v=.pk b 3) rfl s_ (λ_ o ho=>eL (rN 3 d_ ho (J.Q 2)) ⟨rfl,rfl⟩) λv a TS J=>?_;obtain rfl:=TS rfl;refine gn J 14 (.load 43 (.tmp 13)) 5 11 true (λv=>v=.slice ph (hs.map Value.string).length ch) rfl s_ (λ_ o ho=>eL (av (v:=.slice ph (hs.map Value.string).length ch) gK ho (J.Q 13) ((ar hf 3).trans (by rw[←eh];rfl))).1 ⟨rfl,rfl⟩) λv a TS J=>?_;obtain rfl:=TS rfl;refine gn J 15 (.call {callee:=.builtin .len,args:=#[.tmp 14],argTypes:=#[43]}) 5 11 true (λv=>v=.int .i64 (hs.map Value.string).length) rfl s_ (λ_ o ho=>eL (fL (e:=9) k_ ho (J.Q 14)) ⟨rfl,rfl⟩) λv a TS J=>?_;obtain rfl:=TS rfl;refine ab J λa J=>?_;rw[show decide ((i:Int)<((hs.map Value.string).length:Int))=false from decide_eq_false (by rw[aF_];omega)]at J;refine ab J λa J=>?_;refine a9 rfl (ak false (J.Q 17) ?_);exact a9 rfl (TE a (J.only trivial))
  .rw[show decide ((i:Int)<((us.map Value.bool).length:Int))=false from decide_eq_false (by rw[aF_];omega)]at J;refine gn J 12 (.move (.tmp 5)) 5 11 false (λ_=>True) rfl s_ (λh=>by cases h) λv12 a _ J=>?_;refine gn J 13 (.fieldAddr 45 (.tmp 2) 3) 5 11 false (λ_=>True) rfl s_ (λh=>by cases h) λv13 a _ J=>?_;refine gn J 14 (.load 43 (.tmp 13)) 5 11 false (λ_=>True) rfl s_ (λh=>by cases h) λv14 a _ J=>?_;refine gn J 15 (.call {callee:=.builtin .len,args:=#[.tmp 14],argTypes:=#[43]}) 5 11 false (λ_=>True) rfl s_ (λh=>by cases h) λv15 a _ J=>?_;refine gn J 16 (.binOp .lss 3 (.tmp 12) (.tmp 15) 3) 5 11 false (λ_=>True) rfl s_ (λh=>by cases h) λv16 a _ J=>?_;refine ai J (λo ho=>qM (q:=false) (r:=false) ho (J.Q 11) (λh=>by cases h) rfl) λa J=>?_;refine a9 rfl (ak false (J.Q 17) ?_);exact a9 rfl (TE a (J.only trivial))
 |succ m ih=>
  intro i a hm hi hv J;have hiu:i<us.length:=by omega
  have hih:i<hs.length:=by omega
  obtain⟨au,rfl,Z_⟩:=hcu i (.bool us[i]) (by simp[hiu]);obtain⟨ah,rfl,hch2⟩:=VF i (.string hs[i]) (by simp[hih]);have YF:=rk us hs x i us[i] hs[i] (by simp[hiu]) (by simp[hih]);refine ab J λa J=>?_;refine ai J (λo ho=>rN 1 d_ ho (J.Q 2)) λa J=>?_;refine ai J (λo ho=>(av (v:=.slice (some au) (us.map Value.bool).length cu) gL ho (J.Q 7) ((ar hf 1).trans (by rw[←eu];rfl))).1) λa J=>?_;refine ai J (λo ho=>fL (e:=4) k_ ho (J.Q 8)) λa J=>?_
  iterate 2 refine ab J λa J=>?_
  rw[show decide ((i:Int)<((us.map Value.bool).length:Int))=true from decide_eq_true (by rw[aF_];omega)]at J;refine ab J λa J=>?_;refine gn J 13 (.fieldAddr 45 (.tmp 2) 3) 5 11 true (λv=>v=.pk b 3) rfl s_ (λ_ o ho=>eL (rN 3 d_ ho (J.Q 2)) ⟨rfl,rfl⟩) λv a TS J=>?_;obtain rfl:=TS rfl;refine gn J 14 (.load 43 (.tmp 13)) 5 11 true (λv=>v=.slice (some ah) (hs.map Value.string).length ch) rfl s_ (λ_ o ho=>eL (av (v:=.slice (some ah) (hs.map Value.string).length ch) gK ho (J.Q 13) ((ar hf 3).trans (by rw[←eh];rfl))).1 ⟨rfl,rfl⟩) λv a TS J=>?_;obtain rfl:=TS rfl;refine gn J 15 (.call {callee:=.builtin .len,args:=#[.tmp 14],argTypes:=#[43]}) 5 11 true (λv=>v=.int .i64 (hs.map Value.string).length) rfl s_ (λ_ o ho=>eL (fL (e:=9) k_ ho (J.Q 14)) ⟨rfl,rfl⟩) λv a TS J=>?_;obtain rfl:=TS rfl;refine ab J λa J=>?_;rw[show decide ((i:Int)<((hs.map Value.string).length:Int))=true from decide_eq_true (by rw[aF_];omega)]at J;refine ab J λa J=>?_;refine a9 rfl (ak true (J.Q 17) ?_);refine ab J λa J=>?_;refine ai J (λo ho=>(av (v:=.slice (some au) (us.map Value.bool).length cu) gL ho (J.Q 20) ((ar hf 1).trans (by rw[←eu];rfl))).1) λa J=>?_;refine Sa J 22 5 rfl λa J=>?_;refine ai J (λo ho=>(bR (e:=4) (n:=i) k_ (λw=>by kernel_rfl) ho (J.Q 21) (J.Q 22) (by simpa using hiu)).1) λa J=>?_;refine ai J (λo ho=>(av (v:=.bool us[i]) iJ ho (J.Q 23) Z_).1) λa J=>?_;refine ab J λa J=>?_;obtain⟨q,hq⟩:∃q,us[i]=q:=⟨_,rfl⟩;rw[hq]at J YF;have step:∀a,vouchF us hs x=vouchF (us.drop (i+1)) (hs.drop (i+1)) x->aB [(1,.string x),(2,.pk b 0),(5,.int .i64 i)] 34 [] a->Rn kX Goal ((base 42).atR a (.code (rG f42 3):: .inLoop (BJ f42):: .inBlock 0::k)) cs w:=λa hn J=>by
   iterate 3 refine ab J λa J=>?_
   exact a9 rfl (a9 rfl (ih (i+1) a o_ o_ hn (J.only ⟨rfl,rfl,rfl,trivial⟩)))
  cases q with
  |false=>
   refine gn J 26 (.fieldAddr 45 (.tmp 2) 3) 5 25 false (λ_=>True) rfl s_ (λh=>by cases h) λv26 a _ J=>?_;refine gn J 27 (.load 43 (.tmp 26)) 5 25 false (λ_=>True) rfl s_ (λh=>by cases h) λv27 a _ J=>?_;refine gn J 28 (.move (.tmp 5)) 5 25 false (λ_=>True) rfl s_ (λh=>by cases h) λv28 a _ J=>?_;refine gn J 29 (.indexAddr 43 (.tmp 27) (.tmp 28)) 5 25 false (λ_=>True) rfl s_ (λh=>by cases h) λv29 a _ J=>?_;refine gn J 30 (.load 9 (.tmp 29)) 5 25 false (λ_=>True) rfl s_ (λh=>by cases h) λv30 a _ J=>?_;refine gn J 31 (.move (.tmp 1)) 5 25 false (λ_=>True) rfl s_ (λh=>by cases h) λv31 a _ J=>?_;refine gn J 32 (.binOp .eql 9 (.tmp 30) (.tmp 31) 9) 5 25 false (λ_=>True) rfl s_ (λh=>by cases h) λv32 a _ J=>?_;refine ai J (λo ho=>qM (q:=false) (r:=false) ho (J.Q 25) (λh=>by cases h) rfl) λa J=>?_;refine a9 rfl (ak false (J.Q 33) ?_);exact a9 rfl (a9 rfl (step a (hv.trans (YF.trans s_)) (J.only ⟨rfl,rfl,rfl,trivial⟩)))
  |true=>
   refine ab J λa J=>?_;refine gn J 27 (.load 43 (.tmp 26)) 5 25 true (λv=>v=.slice (some ah) (hs.map Value.string).length ch) rfl s_ (λ_ o ho=>eL (av (v:=.slice (some ah) (hs.map Value.string).length ch) gK ho (J.Q 26) ((ar hf 3).trans (by rw[←eh];rfl))).1 ⟨rfl,rfl⟩) λv a TS J=>?_;obtain rfl:=TS rfl;refine gn J 28 (.move (.tmp 5)) 5 25 true (λv=>v=.int .i64 i) rfl s_ (λ_ o ho=>eL (by rw[cg (.inl ho),J.Q 5]) ⟨rfl,rfl⟩) λv a TS J=>?_;obtain rfl:=TS rfl;refine gn J 29 (.indexAddr 43 (.tmp 27) (.tmp 28)) 5 25 true (λv=>v=.pointer (some (ah.add i))) rfl s_ (λ_ o ho=>eL (bR (e:=9) (n:=i) k_ (λw=>by kernel_rfl) ho (J.Q 27) (J.Q 28) (by simpa using hih)).1 ⟨rfl,rfl⟩) λv a TS J=>?_;obtain rfl:=TS rfl;refine gn J 30 (.load 9 (.tmp 29)) 5 25 true (λv=>v=.string hs[i]) rfl s_ (λ_ o ho=>eL (av (v:=.string hs[i]) bU ho (J.Q 29) hch2).1 ⟨rfl,rfl⟩) λv a TS J=>?_;obtain rfl:=TS rfl
   iterate 2 refine ab J λa J=>?_
   refine ab J λa J=>?_;refine a9 rfl (ak (hs[i].data.toList==x.data.toList) (J.Q 33) ?_);cases he:(hs[i].data.toList==x.data.toList)with
   |false=>exact a9 rfl (a9 rfl (step a (hv.trans (YF.trans (by simp[he]))) (J.only ⟨rfl,rfl,rfl,trivial⟩)))
   |true=>
    refine ab J λa J=>?_;exact a9 rfl (nq (by rw[hv,YF,he];rfl) a _ (J.only ⟨rfl,trivial⟩))
end
theorem uD(x:ByteArray)(st le:Int)(vu vh:Value)(us:List Bool)(hs:List ByteArray)(w:World)(hU:cV w vu (us.map .bool))(hH:cV w vh (hs.map .string))(WK:us.length<4611686018427387904):
 Cl kX 42 #[.agg (eT st le vu vh),.string x] w λe w'=>e=.returned (.bool (vouchF us hs x))/\Bw w w':=by
 refine az (N:=34) func42 KL λcs a J=>?_;refine dw J λw1 a b1 c3 _ J=>?_
 iterate 2 refine ab J λa J=>?_
 refine a9 rfl (a9 rfl (a9 rfl ?_));refine Dh (hU.below b1) (hH.below b1) WK c3 (λhv a J=>?_) (λhv a k' J=>?_) _ 0 a rfl (ay7 _) rfl (J.only ⟨rfl,rfl,rfl,trivial⟩)
 .refine ab J λa J=>?_;exact aH J ⟨by rw[hv],b1⟩
 .exact aH J ⟨by rw[hv],b1⟩

theorem lJ(KS:List Int)(s:ByteArray)(le:Int)(us:List Bool)(hs:List ByteArray):∃n c,lQ KS s le us hs n c:=by
 by_cases h1:(iR s.data.toList).2=0
 .obtain⟨v,en,sg,a,l,k,hh,_⟩:=zV s h1;by_cases h2:v<le
  .exact⟨0,7,.inr ⟨v,en,sg,a,l,k,hh,.inl ⟨h2,rfl,rfl⟩⟩⟩
  .cases hv:vouchF us hs (j1 KS [⟨k.toArray⟩])with
   |false=>exact⟨0,8,.inr ⟨v,en,sg,a,l,k,hh,.inr (.inl ⟨by omega,hv,rfl,rfl⟩)⟩⟩
   |true=>
    obtain⟨d,hd⟩:=rl KS ⟨k.toArray⟩ (s.extract 0 sg) (s.extract a (a+l));by_cases h3:d=0
    .exact⟨en,0,.inr ⟨v,en,sg,a,l,k,hh,.inr (.inr ⟨by omega,hv,d,hd,.inr ⟨h3,rfl,rfl⟩⟩)⟩⟩
    .exact⟨0,d,.inr ⟨v,en,sg,a,l,k,hh,.inr (.inr ⟨by omega,hv,d,hd,.inl ⟨h3,rfl,rfl⟩⟩)⟩⟩
 .exact⟨0,_,.inl ⟨h1,rfl,rfl⟩⟩
theorem LU{key:ByteArray}(h:qE KS key msg sig c):0<=c/\c<=10:=by
 rcases h with⟨_,rfl⟩|⟨_,_,rfl⟩|⟨_,_,_,rfl⟩|⟨_,_,_,rfl⟩<;>decide
theorem Nk(L:List UInt8):0<=(iR L).2/\(iR L).2<=10:=by
 unfold iR zU
 repeat' split
 all_goals simp
theorem pe{le:Int}{us:List Bool}{hs:List ByteArray}{n:Int}(h:lQ KS s le us hs n c):0<=c/\c<=10:=by
 rcases h with⟨_,_,rfl⟩|⟨v,en,sg,a,l,k,_,⟨_,_,rfl⟩|⟨_,_,_,rfl⟩|⟨_,_,d,hd,⟨_,_,rfl⟩|⟨_,_,rfl⟩⟩⟩
 .exact Nk _
 .decide
 .decide
 .exact LU hd
 .decide
theorem Kt(KS:List Int)(SY:KS.length=64)(s:ByteArray)(st le:Int)(vu vh:Value)(us:List Bool)(hs:List ByteArray)(WK:us.length<4611686018427387904)(Tf:s.size<=281474976000000):∃n c,lQ KS s le us hs n c/\∀w:World,cV w vu (us.map .bool)->cV w vh (hs.map .string)->w.rangeAt 0 0 (aI KS)->0<w.heap.size->
 Cl kX 40 #[.string s,.agg (eT st le vu vh)] w λe w'=>e=.returned (.tuple #[.int .i64 n,.int .i64 c])/\Bw w w':=by
 obtain⟨n,c,h⟩:=lJ KS s le us hs;exact⟨n,c,h,λw h1 h2 h3 h4=>(DO KS SY s st le vu vh us hs w h1 h2 WK Tf h3 h4).mono λe w' ⟨n',c',e1,e2,e3⟩=>⟨by obtain⟨rfl,rfl⟩:=iD e2 h;exact e1,e3⟩⟩
theorem AZ{L:List Value}{t:TypeId}(h:w.heap[b]?=some (.cells L.toArray t))(hn:L.length=n):cV w (.sk b n n) L:=⟨_,n,by rw[hn],λi u hu=>⟨_,rfl,by rw[az3,aw9,ar h];simpa using hu⟩⟩
theorem kC{rb:Nat}{fl:Value}{W:List Int}{on:Bool}{c:Array Value}(h:HE w cb fl W on sl)(hb:w.heap[rb]?=some (.cells c 151)){cs:Array Value}{t:TypeId}{fr:Nat×Nat}(hc:w.heap[b]?=some (.cells cs t fr))(h1:t≠149)(h2:t≠151):¬XR cb rb b:=by
 rintro(rfl|rfl)
 .obtain⟨_,K,_,_,h⟩:=h;rw[h]at hc;injection hc with hc;injection hc with _ hc;exact h1 hc.symm
 .rw[hb]at hc;injection hc with hc;injection hc with _ hc;exact h2 hc.symm
theorem cW{L:List Value}(hx:Ex X w w')(h0:¬X 0)(hs:0<w.heap.size)(h:w.rangeAt 0 0 L):w'.rangeAt 0 0 L:=λj v hv=>by
 have:=h j v hv;unfold ay_ at this⊢;rwa [hx.block 0 hs h0]
section
variable{u:TypeId}
theorem uV(SS:o.op=.slice 144 x none none none)(hx:ev x=.pk b 1):(execOp ev o).run prog w=.ok (.value (.slice (some ⟨b,1,none⟩) 85 85)) w:=by
 have e:execOp ev o=(do pure (.value (←az5 144 (.pk b 1) none none none))):=by simp only[execOp,SS,hx];rfl
 have h2:(do pure (.value (←az5 144 (.pk b 1) none none none)):Sem Next).run prog w=.ok (.value (.slice (some ⟨b,1,none⟩) 85 85)) w:=by kernel_rfl
 rw[e,h2]
theorem u7(SS:o.op=.alloc 45):(execOp ev o).run prog w=.ok (.value (.pk w.heap.size 0)) (w.alloc (.cells (eT 0 0 (.slice none 0 0) (.slice none 0 0)) 45)):=by
 have e:execOp ev o=(do pure (.value (←az0 45 true (.tuple #[])))):=by simp only[execOp,SS]
 have h2:(do pure (.value (←az0 45 true (.tuple #[]))):Sem Next).run prog w=.ok (.value (.pk w.heap.size 0)) (w.alloc (.cells (eT 0 0 (.slice none 0 0) (.slice none 0 0)) 45)):=by kernel_rfl
 rw[e,h2]
theorem zS:(prog.info? 45).map (·.size)=some 4:=by kernel_rfl
theorem mp{st le:Int}{pu ph:Option Addr}{lu qu lh qh:Nat}{old:Array Value}(SS:o.op=.store 45 x y)(hx:ev x=.pk b 0)(hy:ev y=.agg (eT st le (.slice pu lu qu) (.slice ph lh qh)))(h:w.heap[b]?=some (.cells old t'))(hk:old.size=4):
 (execOp ev o).run prog w=.ok .skip (put w b (eT st le (.slice pu lu qu) (.slice ph lh qh)) t'):=by
 rw[←gD h];exact aQ SS hx hy h zS hk (by simp[eT,ax4])
theorem fN(SS:o.op=.pick x y z)(hx:ev x=.bool true)(hy:ev y=v):(execOp ev o).run prog w=.ok (.value v) w:=by simp[execOp,SS,hx,hy,asBool]
theorem gk(SS:o.op=.pick x y z)(hx:ev x=.bool false)(hz:ev z=v):(execOp ev o).run prog w=.ok (.value v) w:=by simp[execOp,SS,hx,hz,asBool]
theorem Me{t:TypeId}(ht:t=212)(SS:o.op=.build t #[(0,x),(1,y)])(hx:ev x=.int .i64 16)(hy:ev y=.int .i64 32):(execOp ev o).run prog w=.ok (.value (.agg #[.int .i64 16,.int .i64 32])) w:=by
 subst ht;have e:execOp ev o=(do pure (.value (←ax9 212 #[(0,.int .i64 16),(1,.int .i64 32)]))):=by simp[execOp,SS,hx,hy]
 have h5:(do pure (.value (←ax9 212 #[(0,.int .i64 16),(1,.int .i64 32)])):Sem Next).run prog w=.ok (.value (.agg #[.int .i64 16,.int .i64 32])) w:=by kernel_rfl
 rw[e,h5]
theorem PV(hk:k<2)(SS:o.op=.index 212 x y)(hx:ev x=.agg #[.int .i64 16,.int .i64 32])(hy:ev y=.int .i64 k):(execOp ev o).run prog w=.ok (.value (.int .i64 ((16+16*k:Nat):Int))) w:=by
 have e:execOp ev o=(do pure (.value (←aO0 212 (.agg #[.int .i64 16,.int .i64 32]) (.int .i64 k)))):=by simp only[execOp,SS,hx,hy]
 have h5:(do pure (.value (←aO0 212 (.agg #[.int .i64 16,.int .i64 32]) (.int .i64 k))):Sem Next).run prog w=.ok (.value (.int .i64 ((16+16*k:Nat):Int))) w:=by
  rcases(by omega:k=0\/k=1)with rfl|rfl<;>kernel_rfl
 rw[e,h5]
end

def Qi(f:Func):Code:=.seq (rG f 9) (.seq (.cond (.tmp 39) .skip (.exit 0)) (.seq (.block 1 (.seq (rG f 10) (.seq (rD f 11) (.seq (rG f 12) (.seq (.seq (rG f 13) (.cond (.tmp 59) (.seq (rG f 14) .ret) .skip)) (rG f 15)))))) (rG f 16)))
def G9(f:Func):Code:=.seq (rG f 17) .ret
def Ft(f:Func):Code:=.seq (rG f 7) (.seq (.seq (rG f 8) (.block 0 (.loop (Qi f)))) (G9 f))

section
variable{u:TypeId}
theorem Bn{t:TypeId}(hv:v.cells=#[v])(SS:o.op=.box t x)(hx:ev x=v):(execOp ev o).run prog w=.ok (.value (.pk w.heap.size 0)) (w.alloc (.cells #[v] t)):=by
 have:=(rY prog (w:=w) (ev:=ev) SS).1
 rwa [hx,hv]at this
theorem nP:yz prog 188:=λw=>⟨by kernel_rfl,by kernel_rfl⟩
theorem Fc{room:Int}(SS:o.op=.build 151 #[(0,x),(1,y)])(hx:ev x=.pk cb 0)(hy:ev y=.int .i64 room):(execOp ev o).run prog w=.ok (.value (.agg (kz cb room false))) w:=by
 have e:execOp ev o=(do pure (.value (←ax9 151 #[(0,.pk cb 0),(1,.int .i64 room)]))):=by simp[execOp,SS,hx,hy]
 have h5:(do pure (.value (←ax9 151 #[(0,.pk cb 0),(1,.int .i64 room)])):Sem Next).run prog w=.ok (.value (.agg (kz cb room false))) w:=by kernel_rfl
 rw[e,h5]
theorem FQ(SS:o.op=.alloc 151):(execOp ev o).run prog w=.ok (.value (.pk w.heap.size 0)) (w.alloc (.cells #[.pointer none,.int .i64 0,.bool false] 151)):=by
 have e:execOp ev o=(do pure (.value (←az0 151 true (.tuple #[])))):=by simp only[execOp,SS]
 have h2:(do pure (.value (←az0 151 true (.tuple #[]))):Sem Next).run prog w=.ok (.value (.pk w.heap.size 0)) (w.alloc (.cells #[.pointer none,.int .i64 0,.bool false] 151)):=by kernel_rfl
 rw[e,h2]
theorem Nj:(prog.info? 151).map (·.size)=some 3:=by kernel_rfl
theorem Lc{room:Int}{old:Array Value}(SS:o.op=.store 151 x y)(hx:ev x=.pk b 0)(hy:ev y=.agg (kz cb room false))(h:w.heap[b]?=some (.cells old t'))(hk:old.size=3):
 (execOp ev o).run prog w=.ok .skip (put w b (kz cb room false) t'):=by
 rw[←gD h];exact aQ SS hx hy h Nj hk (by simp[kz,ax4])
theorem kY{r s e:Int}{j:Bool}(SS:o.op=.load 100 x)(hx:ev x=.pk b 0)(hc:w.heap[b]?=some (.cells (bo r j s e c) t')):(execOp ev o).run prog w=.ok (.value (.agg (bo r j s e c))) w:=by
 have h1:(isAgg 100).run prog w=.ok true w:=by kernel_rfl
 have hc:=ar hc;simp[execOp,SS,hx,ay9,loadVar,h1,loadCells,loadCellsFrom,aF6,hc,bo,go_sem]
end
theorem DW:f126.body=some (.seq (rG f126 0) (.seq (rG f126 1) (.seq (rG f126 2) (.seq (.seq (rG f126 3) (.cond (.tmp 24) (.seq (rG f126 4) .ret) .skip)) (.seq (.seq (rG f126 5) (.cond (.tmp 34) (.seq (rG f126 6) .ret) .skip)) (Ft f126)))))):=by kernel_rfl
section
variable{rb:Nat}{fl:Value}{W:List Int}{room:Int}
theorem xT{on:Bool}(h:HE w cb fl W on sl):w.rangeAt cb 1 (W.map (Value.int .i64)):=λj v hv=>by
 obtain⟨hW,K,hK,_,hc⟩:=h;rw[aC5]at hv;cases hj:W[j]? with
 |none=>rw[hj]at hv;cases hv
 |some x=>
  rw[hj]at hv;cases hv;obtain⟨SX,rfl⟩:=aw5.1 hj;rw[ar hc];exact QH j SX
end

theorem Ol:f100.body=some (.seq (rG f100 0) (.seq (rG f100 1) (.seq (rG f100 2) .ret))):=by kernel_rfl
theorem GW:f125.body=some (.seq (rG f125 0) (.cond (.tmp 4) (.seq (rG f125 1) (rG f125 2)) .skip)):=by kernel_rfl

theorem ix{p:Option Addr}{c:Nat}(SS:o.op=.call {callee:=.builtin .len,args:=#[.tmp k],argTypes:=#[24]})(hx:ev (.tmp k)=.slice p l c):(execOp ev o).run prog w=.ok (.value (.int .i64 l)) w:=fL (ty:=24) (e:=3) k_ SS hx
theorem Oc:f49.body=some (.seq (rG f49 0) (.seq (rG f49 1) .ret)):=by kernel_rfl
section
variable{fl:Value}{W:List Int}{on:Bool}
theorem gF{c:Array Value}{t:TypeId}(h:w.heap[b]?=some (.cells c t))(ht:t≠5)(b':Nat)(cs:Array Value)(fr:Nat×Nat)(hb:w.heap[b']?=some (.cells cs 5 fr)):¬b'=b:=λe=>by
 rw[e,h]at hb;injection hb with hb;injection hb with _ hb;exact ht hb
end

theorem BI{a c:Nat}(ha:a<65536)(hb:b<65536):rZ a b c<65536:=by
 have h1:a&&&b<2^16:=aJ0 _ hb;have h2:a&&&c<2^16:=aG2 aZ_ ha;have h3:b&&&c<2^16:=aG2 aZ_ hb;exact aJ6 (aJ6 h1 h2) h3
theorem JH{a c:Nat}(ha:a<65536)(hb:b<65536)(hc:c<65536):
 bits .or .i64 (bits .or .i64 (bits .and .i64 (a:Int) (b:Int)) (bits .and .i64 (a:Int) (c:Int))) (bits .and .i64 (b:Int) (c:Int))=((rZ a b c:Nat):Int):=by
 have h1:a&&&b<2^16:=aJ0 _ hb;have h2:a&&&c<2^16:=aJ0 _ hc;have h3:b&&&c<2^16:=aJ0 _ hc;have h4:(a&&&b)|||(a&&&c)<2^16:=aJ6 h1 h2;rw[dJ _ _ o_ o_,dJ _ _ o_ o_,dJ _ _ o_ o_,gE _ _ o_ o_,gE _ _ o_ o_];rfl
theorem Li{off:Nat}{W:List Int}(h:w.rangeAt g off (W.map (Value.int .i64)))(n:Nat)(hn:n<W.length):w.cell? ⟨g,off+n,none⟩=some (.int .i64 (W.getD n 0)):=by
 refine h n _ ?_;rw[aC5,aw4,aw3 hn];rfl
section
variable{u t:TypeId}
theorem b_{off len cap:Nat}(n:Nat)(ht:prog.underlying t=some (.slice 3))(SS:o.op=.indexAddr t x y)(hx:ev x=.slice (some ⟨g,off,none⟩) len cap)(hy:ev y=.int .i64 n)(hn:n<len):(execOp ev o).run prog w=.ok (.value (.pk g (off+n))) w:=by
 have:=(bR (w:=w) ht (λw=>by kernel_rfl) SS hx hy hn).1
 rwa [az3]at this
theorem oM{off:Nat}{W:List Int}(n:Nat)(h:w.rangeAt g off (W.map (Value.int .i64)))(hn:n<W.length)(SS:o.op=.load 3 x)(hx:ev x=.pk g (off+n)):(execOp ev o).run prog w=.ok (.value (.int .i64 (W.getD n 0))) w:=(av aC SS hx (Li h n hn)).1
theorem Lf{m n:Int}(SS:o.op=.binOp .or 3 x y u)(hx:ev x=.int .i64 m)(hy:ev y=.int .i64 n):(execOp ev o).run prog w=.ok (.value (.int .i64 (bits .or .i64 m n))) w:=by simp[execOp,SS,hx,hy,go_sem]
theorem rB{m n:Int}(SS:o.op=.binOp .and 132 x y u)(hx:ev x=.int .u64 m)(hy:ev y=.int .u64 n):(execOp ev o).run prog w=.ok (.value (.int .u64 (bits .and .u64 m n))) w:=by simp[execOp,SS,hx,hy,go_sem]
theorem oL{m n:Int}(SS:o.op=.binOp .add 132 x y u)(hx:ev x=.int .u64 m)(hy:ev y=.int .u64 n):(execOp ev o).run prog w=.ok (.value (.int .u64 (az1.wrap (m+n)))) w:=by simp[execOp,SS,hx,hy,go_sem]
theorem oK{m:Int}(hk:k<=32)(SS:o.op=.binOp .shr 132 x y u)(hx:ev x=.int .u64 m)(hy:ev y=.int .u64 k):(execOp ev o).run prog w=.ok (.value (.int .u64 (m/2^k))) w:=by
 simp[execOp,SS,hx,hy,go_sem]
theorem Il{m:Int}(SS:o.op=.convert 132 3 x)(hx:ev x=.int .u64 m):(execOp ev o).run prog w=.ok (.value (.int .i64 (ax8.wrap m))) w:=by
 have h1:prog.underlying 132=some (.int .u64):=by kernel_rfl
 have h2:prog.underlying 3=some (.int .i64):=by kernel_rfl
 simp[execOp,SS,hx,go_sem,h1,h2]
theorem Iy{m:Int}(SS:o.op=.convert 3 112 x)(hx:ev x=.int .i64 m):(execOp ev o).run prog w=.ok (.value (.int .u64 (az1.wrap m))) w:=by
 have h1:prog.underlying 112=some (.int .u64):=by kernel_rfl
 have h2:prog.underlying 3=some (.int .i64):=by kernel_rfl
 simp[execOp,SS,hx,go_sem,h1,h2]
end
theorem GV:f104.body=some (.seq (rG f104 0) (.seq (rG f104 1) .ret)):=by kernel_rfl
theorem xy(x:Int)(hx:0<=x/\x<65536)(w:World):Cl kX 104 #[.int .i64 x] w λe w'=>e=.returned (.bool true)/\w'=w:=by
 refine az (N:=9) func104 GV λcs a J=>?_
 iterate 4 refine ao J λa J=>?_
 rw[show decide (x≥0)=true from decide_eq_true hx.1]at J
 iterate 2 refine ao J λa J=>?_
 refine ai J (λo ho=>fN ho (J.Q 5) (J.Q 7)) λa J=>?_;rw[show decide (x<=65535)=true from decide_eq_true o_]at J;refine ao J λa J=>?_;exact aH J ⟨rfl,rfl⟩
def Qh(f:Func):Code:=.seq (rG f 4) (.seq (.cond (.tmp 11) .skip (.exit 0)) (.seq (.block 1 (.seq (rG f 5) (.seq (rG f 6) (.cond (.tmp 16) (.seq (rG f 7) .ret) .skip)))) (rG f 8)))
def G8(f:Func):Code:=.seq (rG f 9) .ret
theorem GX:f98.body=some (.seq (rG f98 0) (.seq (.seq (rG f98 1) (.cond (.tmp 7) (.seq (rG f98 2) .ret) .skip)) (.seq (.seq (rG f98 3) (.block 0 (.loop (Qh f98)))) (G8 f98)))):=by kernel_rfl
theorem E0{W:List Int}(hW:dL W){off cap:Nat}(hr:w.rangeAt g off (W.map (Value.int .i64)))(nt:∀a,aB [(2,.bool true)] 18 [] a->Rn kX Goal ((base 98).atR a [.code .ret]) cs w):
 ∀(m i:Nat) (a:Act),85- i=m->i<=85->aB [(8,.slice (some ⟨g,off,none⟩) 85 cap),(9,.int .i64 85),(10,.int .i64 i)] 18 [] a->Rn kX Goal ((base 98).atR a [.code (Qh f98),.inLoop (Qh f98),.inBlock 0,.code (G8 f98)]) cs w:=by
 intro m;induction m with
 |zero=>
  intro i a hm hi J;refine ao J λa J=>?_;refine a9 rfl (a9 rfl (ak _ (J.Q 11) ?_));rw[decide_eq_false o_];refine ao J λa J=>?_;exact a9 rfl (nt _ (J.only ⟨rfl,trivial⟩))
 |succ m ih=>
  intro i a hm hi J;refine ao J λa J=>?_;refine a9 rfl (a9 rfl (ak _ (J.Q 11) ?_));rw[decide_eq_true o_];refine ai J (λo ho=>b_ i k_ ho (J.Q 8) (J.Q 10) o_) λa J=>?_;refine ai J (λo ho=>oM i hr (by rw[hW.1];omega) ho (J.Q 12)) λa J=>?_
  iterate 2 refine ao J λa J=>?_
  refine bz J func104 (xy _ (hW.2 i o_) w) λw' hw a J=>?_;rw[hw];refine ao J λa J=>?_;refine a9 rfl (ak _ (J.Q 16) ?_);refine ai J (λo ho=>aN (n:=1) ho (J.Q 10) rfl o_) λa J=>?_;refine ao J λa J=>?_;exact a9 rfl (a9 rfl (ih (i+1) _ o_ o_ (J.only ⟨rfl,rfl,rfl,trivial⟩)))
theorem H7{W:List Int}(hW:dL W)(g off cap:Nat)(w:World)(hr:w.rangeAt g off (W.map (Value.int .i64))):Cl kX 98 #[.slice (some ⟨g,off,none⟩) 85 cap] w λe w'=>e=.returned (.bool true)/\w'=w:=by
 refine az (N:=18) func98 GX λcs a J=>?_
 iterate 2 refine ao J λa J=>?_
 refine ai J (λo ho=>ix ho (J.Q 5)) λa J=>?_;refine ao J λa J=>?_;refine a9 rfl (ak _ (J.Q 7) ?_);refine ao J λa J=>?_;refine ai J (λo ho=>ix ho (J.Q 8)) λa J=>?_;refine ao J λa J=>?_;refine a9 rfl (a9 rfl (a9 rfl (E0 hW hr (λa J=>aH J ⟨rfl,rfl⟩) 85 0 _ rfl o_ (J.only ⟨rfl,rfl,rfl,trivial⟩))))
theorem KE:f192.body=some (.seq (rG f192 0) (.seq (rG f192 1) (.seq (rG f192 2) (.seq (rG f192 3) (.seq (rG f192 4) (.seq (rG f192 5) (.seq (rG f192 6) (.seq (rG f192 7) .ret)))))))):=by kernel_rfl
theorem xk(x:Int)(w:World):Cl kX 192 #[.int .u64 x] w λe w'=>e=.returned (.int .i64 (pM x))/\w'=w:=by
 refine az (N:=35) func192 KE λcs a J=>?_
 iterate 2 refine ao J λa J=>?_
 refine ai J (λo ho=>oK (k:=1) o_ ho (J.Q 3) rfl) λa J=>?_;refine ai J (λo ho=>rB ho (J.Q 4) rfl) λa J=>?_;refine ao J λa J=>?_;refine ai J (λo ho=>rB ho (J.Q 6) rfl) λa J=>?_;refine ai J (λo ho=>oL ho (J.Q 5) (J.Q 7)) λa J=>?_;refine ao J λa J=>?_;refine ao J λa J=>?_;refine ai J (λo ho=>oK (k:=2) o_ ho (J.Q 9) rfl) λa J=>?_;refine ai J (λo ho=>rB ho (J.Q 10) rfl) λa J=>?_;refine ao J λa J=>?_;refine ai J (λo ho=>rB ho (J.Q 12) rfl) λa J=>?_;refine ai J (λo ho=>oL ho (J.Q 11) (J.Q 13)) λa J=>?_;refine ao J λa J=>?_;refine ao J λa J=>?_;refine ai J (λo ho=>oK (k:=4) o_ ho (J.Q 15) rfl) λa J=>?_;refine ao J λa J=>?_;refine ai J (λo ho=>oL ho (J.Q 16) (J.Q 17)) λa J=>?_;refine ai J (λo ho=>rB ho (J.Q 18) rfl) λa J=>?_;refine ao J λa J=>?_;refine ao J λa J=>?_;refine ao J λa J=>?_;refine ai J (λo ho=>oK (k:=8) o_ ho (J.Q 21) rfl) λa J=>?_;refine ai J (λo ho=>oL ho (J.Q 20) (J.Q 22)) λa J=>?_;refine ao J λa J=>?_;refine ao J λa J=>?_;refine ao J λa J=>?_;refine ai J (λo ho=>oK (k:=16) o_ ho (J.Q 25) rfl) λa J=>?_;refine ai J (λo ho=>oL ho (J.Q 24) (J.Q 26)) λa J=>?_;refine ao J λa J=>?_;refine ao J λa J=>?_;refine ao J λa J=>?_;refine ai J (λo ho=>oK (k:=32) o_ ho (J.Q 29) rfl) λa J=>?_;refine ai J (λo ho=>oL ho (J.Q 28) (J.Q 30)) λa J=>?_;refine ao J λa J=>?_;refine ao J λa J=>?_;refine ai J (λo ho=>Il ho (J.Q 32)) λa J=>?_;refine ai J (λo ho=>dV ho (J.Q 33) rfl) λa J=>?_;refine ao J λa J=>?_;exact aH J ⟨rfl,rfl⟩
theorem O5:f188.body=some (.seq (rG f188 0) (.seq (.cond (.const (.bool false)) (.seq (rG f188 1) .ret) .skip) (.seq (rG f188 2) .ret))):=by kernel_rfl
theorem D6(x:Int)(w:World):Cl kX 188 #[.int .u64 x] w λe w'=>e=.returned (.int .i64 (pM x))/\w'=w:=by
 refine az (N:=8) func188 O5 λcs a J=>?_;refine ao J λa J=>?_;refine a9 rfl (a9 rfl (ak false rfl ?_));refine ao J λa J=>?_;refine bz J func192 (xk x w) λw' hw a J=>?_;rw[hw];refine ao J λa J=>?_;exact aH J ⟨rfl,rfl⟩
theorem NX:f176.body=some (.seq (rG f176 0) (.seq (rD f176 1) (.seq (.seq (rG f176 2) (.block 0 (.seq (.seq (rG f176 3) (.cond (.tmp 13) .skip (.seq (rG f176 4) (.cond (.tmp 13) .skip (.seq (rG f176 5) (.cond (.tmp 13) .skip (rG f176 6))))))) (.cond (.tmp 13) (.seq (rG f176 7) .ret) .skip)))) (.seq (rG f176 8) .ret)))):=by kernel_rfl
theorem CF{W:List Int}(hW:dL W)(gb off cap:Nat)(w:World)(hr:w.rangeAt gb off (W.map (Value.int .i64))):Cl kX 176 #[.slice (some ⟨gb,off,none⟩) 85 cap] w λe w'=>∃v,e=.returned v/\∃s,v=.tuple #[.int .i64 s,.bool (yu W)]/\(yu W=true->s=W.getD 0 0)/\Bw w w':=by
 refine cU (t:=2) (u:=3) func176 rfl λcs=>?_;refine bv (N:=22) func176 NX λa J=>?_
 iterate 2 refine ao J λa J=>?_
 have J:aB [(0,.slice (some ⟨gb,off,none⟩) 85 cap)] 22 [] a:=J.only ⟨rfl,trivial⟩;have hl:=hW.1;have ld:∀{w':World},Bw w w'->∀n,n<85->w'.cell? ⟨gb,off+n,none⟩=some (.int .i64 (W.getD n 0)):=λhb n hn=>aU hb (Li hr n o_);refine a9 rfl (a9 rfl ?_);refine cC J ?_;refine kO ?_;refine aj ?_ (y:=λo a w ho z=>b_ 0 k_ ho gx rfl o_);refine aj ?_ (y:=λo a w ho z=>(av aC ho gx (ld z.b 0 o_)).1);refine kO ?_;refine aj ?_ (y:=λo a w ho z=>b_ 1 k_ ho gx rfl o_);refine aj ?_ (y:=λo a w ho z=>(av aC ho gx (ld z.b 1 o_)).1)
 iterate 2 refine kO ?_
 refine cc λa w1 J b1 _=>?_;have fin:∀{a:Act} {K:List Item},(W.getD 0 0==255||W.getD 0 0==3855||W.getD 0 0==13107||W.getD 0 0==21845)=true->aB [(4,.int .i64 (W.getD 0 0)),(5,.int .i64 (W.getD 1 0)),(13,.bool true)] 22 [] a->Rn kX (λg w'=>∃(a:Act) (k:List Item) (v x:Value),g=dj {(base 176).atR a k with mode:=.returning} cs/\a.defers=[]/\a.tmps[2]?=some v/\a.tmps[3]?=some x/\∃v',aB2 (.tuple #[v,x])=.returned v'/\∃s,v'= .tuple #[.int .i64 s,.bool (yu W)]/\(yu W=true->s=W.getD 0 0)/\Bw w w') ((base 176).atR a (.code (.cond (.tmp 13) (.seq (rG f176 7) .ret) .skip)::K)) cs w1:=λ{a K} h J=>by
  refine ak _ (J.Q 13) ?_
  iterate 6 refine ao J λa J=>?_
  refine eN J ⟨_,rfl,W.getD 0 0,?_,λ_=>rfl,b1⟩;rw[yu,h,aN2]
 iterate 3 refine ao J λa J=>?_
 refine a9 rfl (ak _ (J.Q 13) ?_);by_cases e1:W.getD 0 0=255
 .have q:(W.getD 0 0==255)=true:=by simpa using e1
  rw[q]at J⊢;exact a9 rfl (fin (by simp only[q,aX6]) (J.only ⟨rfl,rfl,rfl,trivial⟩))
 have q1:(W.getD 0 0==255)=false:=by simpa using e1
 rw[q1]
 iterate 2 refine ao J λa J=>?_
 refine a9 rfl (ak _ (J.Q 13) ?_);by_cases e2:W.getD 0 0=3855
 .have q:(W.getD 0 0==3855)=true:=by simpa using e2
  rw[q]at J⊢;exact a9 rfl (fin (by simp only[q,aX6,aX7]) (J.only ⟨rfl,rfl,rfl,trivial⟩))
 have q2:(W.getD 0 0==3855)=false:=by simpa using e2
 rw[q2]
 iterate 2 refine ao J λa J=>?_
 refine a9 rfl (ak _ (J.Q 13) ?_);by_cases e3:W.getD 0 0=13107
 .have q:(W.getD 0 0==13107)=true:=by simpa using e3
  rw[q]at J⊢;exact a9 rfl (fin (by simp only[q,aX6,aX7]) (J.only ⟨rfl,rfl,rfl,trivial⟩))
 have q3:(W.getD 0 0==13107)=false:=by simpa using e3
 rw[q3]
 iterate 2 refine ao J λa J=>?_
 by_cases e4:W.getD 0 0=21845
 .have q:(W.getD 0 0==21845)=true:=by simpa using e4
  rw[q]at J;exact a9 rfl (fin (by simp only[q,aX7]) (J.only ⟨rfl,rfl,rfl,trivial⟩))
 have q4:(W.getD 0 0==21845)=false:=by simpa using e4
 refine a9 rfl (ak _ (J.Q 13) ?_);rw[q4]
 iterate 2 refine ao J λa J=>?_
 have Tg:yu W=false:=by simp only[yu,q1,q2,q3,q4,Bool.or_self,aU9]
 exact eN J ⟨_,rfl,0,by rw[Tg],λe=>(by rw[Tg]at e;cases e),b1⟩
theorem Oa:f177.body=some (.seq (rG f177 0) (.seq (rD f177 1) (.seq (rG f177 2) (.seq (.seq (rG f177 3) (.cond (.tmp 32) (.seq (rG f177 4) .ret) .skip)) (.seq (rG f177 5) .ret))))):=by kernel_rfl
theorem zQ{W:List Int}(hW:dL W)(gb off cap:Nat)(w:World)(hr:w.rangeAt gb off (W.map (Value.int .i64))):Cl kX 177 #[.slice (some ⟨gb,off,none⟩) 85 cap] w λe w'=>∃v,e=.returned v/\∃s,v=.tuple #[.int .i64 s,.bool (G0 W)]/\(G0 W=true->s=pM (oT W))/\Bw w w':=by
 refine cU (t:=2) (u:=3) func177 rfl λcs=>?_;refine bv (N:=36) func177 Oa λa J=>?_
 iterate 2 refine ao J λa J=>?_
 have J:aB [(0,.slice (some ⟨gb,off,none⟩) 85 cap)] 36 [] a:=J.only ⟨rfl,trivial⟩;have hl:=hW.1;have ld:∀{w':World},Bw w w'->∀n,n<85->w'.cell? ⟨gb,off+n,none⟩=some (.int .i64 (W.getD n 0)):=λhb n hn=>aU hb (Li hr n o_);obtain⟨A,hA,hA2⟩:∃A:Nat,W.getD 2 0=(A:Int)/\A<65536:=⟨(W.getD 2 0).toNat,by have:=hW.2 2 o_;omega,by have:=hW.2 2 o_;omega⟩;obtain⟨B,hB,TK⟩:∃A:Nat,W.getD 3 0=(A:Int)/\A<65536:=⟨(W.getD 3 0).toNat,by have:=hW.2 3 o_;omega,by have:=hW.2 3 o_;omega⟩;obtain⟨C,hC,Us⟩:∃A:Nat,W.getD 4 0=(A:Int)/\A<65536:=⟨(W.getD 4 0).toNat,by have:=hW.2 4 o_;omega,by have:=hW.2 4 o_;omega⟩;have hM:oT W=rZ A B C:=by simp only[oT,hA,hB,hC,aE3]
 have hMl:=BI (c:=C) hA2 TK;have hmj:=JH hA2 TK Us;refine a9 rfl (a9 rfl ?_);refine cC J ?_;refine kO ?_;refine aj ?_ (y:=λo a w ho z=>b_ 2 k_ ho gx rfl o_);refine aj ?_ (y:=λo a w ho z=>(av aC ho gx (hA▸ld z.b 2 o_)).1);refine kO ?_;refine aj ?_ (y:=λo a w ho z=>b_ 3 k_ ho gx rfl o_);refine aj ?_ (y:=λo a w ho z=>(av aC ho gx (hB▸ld z.b 3 o_)).1);refine kO ?_;refine aj ?_ (y:=λo a w ho z=>b_ 4 k_ ho gx rfl o_);refine aj ?_ (y:=λo a w ho z=>(av aC ho gx (hC▸ld z.b 4 o_)).1)
 iterate 3 refine kO ?_
 refine cc λa w1 J b1 _=>?_
 iterate 2 refine ao J λa J=>?_
 refine ai J (λo ho=>dV ho (J.Q 17) (J.Q 18)) λa J=>?_
 iterate 2 refine ao J λa J=>?_
 refine ai J (λo ho=>dV ho (J.Q 20) (J.Q 21)) λa J=>?_;refine ai J (λo ho=>Lf ho (J.Q 19) (J.Q 22)) λa J=>?_
 iterate 2 refine ao J λa J=>?_
 refine ai J (λo ho=>dV ho (J.Q 24) (J.Q 25)) λa J=>?_;refine ai J (λo ho=>Lf ho (J.Q 23) (J.Q 26)) λa J=>?_;rw[hmj,←hM]at J;rw[←hM]at hMl
 iterate 3 refine ao J λa J=>?_
 refine ai J (λo ho=>aN (n:=1) ho (J.Q 29) rfl o_) λa J=>?_;refine ai J (λo ho=>dV ho (J.Q 28) (J.Q 30)) λa J=>?_;rw[dJ _ _ o_ o_]at J;refine ao J λa J=>?_;refine a9 rfl (ak _ (J.Q 32) ?_);by_cases hz:oT W&&&(oT W+1)=0
 .have Wx:G0 W=true:=by simp[G0,hz]
  rw[hz];refine ao J λa J=>?_;refine ai J (λo ho=>Iy ho (J.Q 33)) λa J=>?_;rw[show az1.wrap ((oT W:Nat):Int)=((oT W:Nat):Int)from by rw[IntKind.wrap_u64];omega]at J;refine bz J func188 (D6 _ w1) λw' hw a J=>?_;rw[hw]
  iterate 2 refine ao J λa J=>?_
  exact eN J ⟨_,rfl,_,by rw[Wx],λ_=>rfl,b1⟩
 .have Wx:G0 W=false:=by simp[G0,hz]
  rw[show(((oT W&&&(oT W+1):Nat):Int) !=0)=true from by simp;omega]
  iterate 2 refine ao J λa J=>?_
  exact eN J ⟨_,rfl,0,by rw[Wx],λe=>(by rw[Wx]at e;cases e),b1⟩

def uZ(M:Nat):Nat->Nat->Bool->Int
 |0,n,_=>n
 |k+1,n,ended=>if M.testBit (16-(k+1))then(if ended then-1 else uZ M k (n+1) false)else uZ M k n true
def lF(M:Nat):Int:=uZ M 16 0 false
def Pq(M:Nat):Bool:=if M&&&(M+1)==0 then decide (0<=lF M)&&decide (lF M<=16)&&(M+1==2^(lF M).toNat)else lF M== -1
theorem NI:((ax_ 4).all λi=>(ax_ 4096).all λj=>Pq (i*4096+j))=true:=by decide+kernel
theorem NH:((ax_ 4).all λi=>(ax_ 4096).all λj=>Pq ((i+4)*4096+j))=true:=by decide+kernel
theorem NG:((ax_ 4).all λi=>(ax_ 4096).all λj=>Pq ((i+8)*4096+j))=true:=by decide+kernel
theorem NF:((ax_ 4).all λi=>(ax_ 4096).all λj=>Pq ((i+12)*4096+j))=true:=by decide+kernel
theorem Ku(M:Nat)(h:M<65536):Pq M=true:=by
 rcases(by omega:M/4096<4\/M/4096- 4<4/\4<=M/4096\/M/4096- 8<4/\8<=M/4096\/M/4096- 12<4/\12<=M/4096)with h1|h1|h1|h1
 .have:=aA7.1 (aA7.1 NI (M/4096) (by simp;omega)) (M%4096) (by simp;omega)
  rwa [show M/4096*4096+M%4096=M by omega]at this
 .have:=aA7.1 (aA7.1 NH (M/4096- 4) (by simp;omega)) (M%4096) (by simp;omega)
  rwa [show(M/4096- 4+4)*4096+M%4096=M by omega]at this
 .have:=aA7.1 (aA7.1 NG (M/4096- 8) (by simp;omega)) (M%4096) (by simp;omega)
  rwa [show(M/4096- 8+8)*4096+M%4096=M by omega]at this
 .have:=aA7.1 (aA7.1 NF (M/4096- 12) (by simp;omega)) (M%4096) (by simp;omega)
  rwa [show(M/4096- 12+12)*4096+M%4096=M by omega]at this
def ja(a b:Int):Int:=if a=b then(if a=4080 then 1 else if a=61455 then 0 else-1)else-1
theorem vQ(a k:Nat)(ha:a<65536):bits .and .i64 ((a:Int)/2^k) 1=((a.testBit k).toNat:Int):=by
 have e:(a:Int)/2^k=((a/2^k:Nat):Int):=by rw[Int.natCast_ediv,ay1];rfl
 have hl:a/2^k<=a:=aF9 _ _;rw[e];have h:=dJ (a/2^k) 1 o_ o_;rw[show((1:Nat):Int)=1 from rfl]at h;rw[h,show(1:Nat)=2^1- 1 from rfl,Nat.and_two_pow_sub_one_eq_mod,Nat.testBit_eq_decide_div_mod_eq];have:=Nat.mod_two_eq_zero_or_one (a/2^k);rcases this with h2|h2<;>simp[h2]
theorem JI(a b c k:Nat):(rZ a b c).testBit k=decide (2<=(a.testBit k).toNat+(b.testBit k).toNat+(c.testBit k).toNat):=by
 rw[rZ,aZ6,aZ6,aT7,aT7,aT7];cases a.testBit k<;>cases b.testBit k<;>cases c.testBit k<;>rfl
theorem CW(M k n:Nat)(ended:Bool)(hk:k<16):uZ M (16- k) n ended=if M.testBit k then(if ended then-1 else uZ M (16-(k+1)) (n+1) false)else uZ M (16-(k+1)) n true:=by
 obtain⟨j,hj⟩:∃j,16- k=j+1:=⟨16- k- 1,by omega⟩;rw[hj,show 16-(k+1)=j from by omega,uZ,show 16-(j+1)=k from by omega]
theorem NW:f128.body=some (.seq (rG f128 0) (.seq (.block 0 (.seq (rG f128 1) (.cond (.tmp 5) (.seq (rG f128 2) .ret) (.seq (rG f128 3) (.cond (.tmp 9) (.seq (rG f128 4) .ret) (.seq (rG f128 5) (.cond (.tmp 12) (.seq (rG f128 6) .ret) .skip))))))) (.seq (rG f128 7) .ret))):=by kernel_rfl
theorem tP(x y:Int)(w:World):Cl kX 128 #[.int .i64 x,.int .i64 y] w λe w'=>e=.returned (.int .i64 (ja x y))/\w'=w:=by
 refine az (N:=15) func128 NW λcs a J=>?_
 iterate 5 refine ao J λa J=>?_
 refine a9 rfl (ak _ (J.Q 5) ?_);by_cases h1:x=y
 .rw[show(x !=y)=false from by simpa using h1]
  iterate 3 refine ao J λa J=>?_
  refine a9 rfl (ak _ (J.Q 9) ?_);by_cases h2:x=4080
  .rw[show(x==4080)=true from by simpa using h2];refine ao J λa J=>?_;exact aH J ⟨by rw[ja,if_pos h1,if_pos h2],rfl⟩
  .rw[show(x==4080)=false from by simpa using h2]
   iterate 3 refine ao J λa J=>?_
   refine a9 rfl (ak _ (J.Q 12) ?_);by_cases h3:x=61455
   .rw[show(x==61455)=true from by simpa using h3];refine ao J λa J=>?_;exact aH J ⟨by rw[ja,if_pos h1,if_neg h2,if_pos h3],rfl⟩
   .rw[show(x==61455)=false from by simpa using h3];refine ao J λa J=>?_;exact aH J ⟨by rw[ja,if_pos h1,if_neg h2,if_neg h3],rfl⟩
 .rw[show(x !=y)=true from by simpa using h1];refine ao J λa J=>?_;exact aH J ⟨by rw[ja,if_neg h1],rfl⟩
def JL(f:Func):Code:=.seq (.seq (rG f 4) (.cond (.tmp 12) .skip (.exit 0))) (.seq (.block 1 (.seq (rD f 6) (.seq (.seq (rG f 7) (.cond (.tmp 33) (.seq (rG f 8) .ret) .skip)) (.seq (rG f 9) (.cond (.tmp 35) (rG f 10) (rG f 11)))))) (rG f 5))
def M_(f:Func):Code:=.seq (rG f 12) .ret
theorem O9:f127.body=some (.seq (rG f127 0) (.seq (rG f127 1) (.seq (rG f127 2) (.seq (.seq (rG f127 3) (.block 0 (.loop (JL f127)))) (M_ f127))))):=by kernel_rfl
section
variable{p:Nat}(hp:p<65536)(hq:q<65536)(hr:r<65536)
include hp hq hr
theorem zN(w0:World)(v:Int)(nt:∀a w I,Bw w0 w->aB [(6,.int .i64 v)] 39 [] a->Rn kX Goal ((base 127).atR a (.code .ret::I)) cs w):
 ∀(m k n:Nat) (en:Bool) (w:World) (a:Act),16- k=m->k<=16->n<=k->uZ (rZ p q r) (16- k) n en=v->Bw w0 w->aB [(0,.int .i64 p),(1,.int .i64 q),(2,.int .i64 r),(7,.int .i64 n),(8,.bool en),(9,.int .i64 k)] 39 [] a->Rn kX Goal ((base 127).atR a [.code (JL f127),.inLoop (JL f127),.inBlock 0,.code (M_ f127)]) cs w:=by
 intro m;induction m with
 |zero=>
  intro k n en w a hm hk hn hv hb J
  iterate 2 refine ao J λa J=>?_
  refine a9 rfl (ak _ (J.Q 12) ?_);rw[decide_eq_false o_]
  iterate 2 refine ao J λa J=>?_
  rw[show 16- k=0 by omega]at hv;rw[show(n:Int)=v from hv]at J;exact a9 rfl (nt _ _ _ hb (J.only ⟨rfl,trivial⟩))
 |succ m ih=>
  intro k n en w a hm hk hn hv hb J
  iterate 2 refine ao J λa J=>?_
  refine a9 rfl (ak _ (J.Q 12) ?_);rw[decide_eq_true o_];rw[CW _ _ _ _ (by omega:k<16)]at hv
  iterate 4 refine a9 rfl ?_
  refine cC J ?_
  iterate 2 refine kO ?_
  refine aj ?_ (y:=λo a w ho z=>rJ ho gx gx o_);refine aj ?_ (y:=λo a w ho z=>dV ho gx rfl);rw[vQ p k hp]
  iterate 2 refine kO ?_
  refine aj ?_ (y:=λo a w ho z=>rJ ho gx gx o_);refine aj ?_ (y:=λo a w ho z=>dV ho gx rfl);rw[vQ q k hq];refine aj ?_ (y:=λo a w ho z=>aN ho gx gx (by have:=aP7 (p.testBit k);have:=aP7 (q.testBit k);omega))
  iterate 2 refine kO ?_
  refine aj ?_ (y:=λo a w ho z=>rJ ho gx gx o_);refine aj ?_ (y:=λo a w ho z=>dV ho gx rfl);rw[vQ r k hr];refine aj ?_ (y:=λo a w ho z=>aN ho gx gx (by have:=aP7 (p.testBit k);have:=aP7 (q.testBit k);have:=aP7 (r.testBit k);omega));refine kO ?_;refine cc λa w1 J b1 _=>?_
  .have YY:decide ((((p.testBit k).toNat+(q.testBit k).toNat+(r.testBit k).toNat:Nat):Int)≥2)=(rZ p q r).testBit k:=by
    rw[JI]
    congr 1
    apply propext;omega
   generalize (rZ p q r).testBit k=t at YY hv;have SZ:=ae hb hb.size b1;have next:∀(n':Nat) (en':Bool) (a:Act),n'<=k+1->uZ (rZ p q r) (16-(k+1)) n' en'=v->aB [(0,.int .i64 p),(1,.int .i64 q),(2,.int .i64 r),(7,.int .i64 n'),(8,.bool en'),(9,.int .i64 k)] 39 [] a->Rn kX Goal ((base 127).atR a [.inBlock 1,.code (rG f127 5),.inLoop (JL f127),.inBlock 0,.code (M_ f127)]) cs w1:=λn' en' a Z7 U3 J=>by
    refine ao J λa J=>?_;refine ai J (λo ho=>aN (n:=1) ho (J.Q 13) rfl o_) λa J=>?_;refine ao J λa J=>?_;exact a9 rfl (a9 rfl (ih (k+1) n' en' w1 _ o_ o_ Z7 U3 SZ (J.only ⟨rfl,rfl,rfl,rfl,rfl,rfl,trivial⟩)))
   iterate 2 refine ao J λa J=>?_
   rw[YY]at J;refine ao J λa J=>?_;cases t with
   |true=>
    refine ao J λa J=>?_;refine ai J (λo ho=>fN ho (J.Q 31) (J.Q 32)) λa J=>?_;refine a9 rfl (ak _ (J.Q 33) ?_);cases en with
    |true=>
     refine ao J λa J=>?_;rw[show((-1:Int))=v from hv]at J;exact a9 rfl (nt _ _ _ SZ (J.only ⟨rfl,trivial⟩))
    |false=>
     iterate 2 refine ao J λa J=>?_
     rw[YY]at J;refine a9 rfl (ak _ (J.Q 35) ?_);refine ao J λa J=>?_;refine ai J (λo ho=>aN (n:=1) ho (J.Q 36) rfl o_) λa J=>?_;refine ao J λa J=>?_;exact a9 rfl (next (n+1) false _ o_ hv (J.only ⟨rfl,rfl,rfl,rfl,rfl,rfl,trivial⟩))
   |false=>
    refine bY J λa J=>?_;refine ai J (λo ho=>gk ho (J.Q 31) rfl) λa J=>?_;refine a9 rfl (ak _ (J.Q 33) ?_)
    iterate 2 refine ao J λa J=>?_
    rw[YY]at J;refine a9 rfl (ak _ (J.Q 35) ?_);refine ao J λa J=>?_;exact a9 rfl (next n true _ o_ hv (J.only ⟨rfl,rfl,rfl,rfl,rfl,rfl,trivial⟩))
theorem zO(w:World):Cl kX 127 #[.int .i64 p,.int .i64 q,.int .i64 r] w λe w'=>e=.returned (.int .i64 (lF (rZ p q r)))/\Bw w w':=by
 refine az (N:=39) func127 O9 λcs a J=>?_
 iterate 4 refine ao J λa J=>?_
 refine a9 rfl (a9 rfl (a9 rfl (zN hp hq hr w _ (λa w' I hb J=>?_) 16 0 0 false w _ rfl o_ o_ rfl (aw8 _ _) (J.only ⟨rfl,rfl,rfl,rfl,rfl,rfl,trivial⟩))));exact aH J ⟨rfl,hb⟩
end

end Go.Proofs.YtkmoglhgkcnalaaGreatDoor.L1
namespace Go.Proofs.YtkmoglhgkcnalaaGreatDoor
open Go Go.Conc Go.RowKit Go.Proofs.YtkmoglhgkcnalaaGreatDoor.L1
section
variable{p:Bool}{A:Ax}
theorem ov(b off cap at':Nat)(x y:Int)(w:World)(Wn:at'+1<20)
 (c0:w.cell? ⟨b,off+at',none⟩=some (.int .i64 x)) (c1:w.cell? ⟨b,off+(at'+1),none⟩=some (.int .i64 y)):
 Cl (cX prog p A) 190 #[.slice (some ⟨b,off,none⟩) 20 cap,.int .i64 at'] w λe w'=>e=.returned (.bool (pg x y))/\Bw w w':=by
 obtain⟨c,t,z,hr,_,y0⟩:=i6 c0
 replace hr:w.heap[b]?=some (.cells c t z):=hr
 obtain⟨c',t',z',hr',_,y1⟩:=i6 c1;rw[show((⟨b,off+(at'+1),none⟩:Addr)).block=b from rfl,hr]at hr';cases hr'
 replace y0:c[off+at']?=some (.int .i64 x):=y0
 replace y1:c[off+(at'+1)]?=some (.int .i64 y):=y1
 refine az (L:=[.slice (some ⟨b,off,none⟩) 20 cap,.int .i64 at']) func190 rfl λcs a J=>?_;refine ab J λ_ J=>?_;refine qe J ?_
 iterate 9 refine aj ?_
 by_cases hxy:x=y
 .refine aj (v:=.bool true) (y:=by intro o a w ho z;exact dq (dz ho gx gx rfl) (by simp[hxy])) ?_
  iterate 5 refine aj ?_
  by_cases h4:x=4080
  .refine aj (v:=.bool true) (y:=by intro o a w ho z;exact dq (dz ho gx gx rfl) (by simp[h4])) ?_;refine aj ?_
   iterate 5 refine kP ?_
   refine aj (y:=by intro o a w ho z;exact fI ho gx gx) ?_;refine aj (y:=by intro o a w ho z;exact fI ho gx gx) ?_;refine aj ?_;refine cc λ_ w1 J hb _=>?_;refine aH J ?_;exact⟨by simp[pg,←hxy,h4],hb⟩
  .refine aj (v:=.bool false) (y:=by intro o a w ho z;exact dq (dz ho gx gx rfl) (by simp[h4])) ?_
   iterate 6 refine aj ?_
   refine aj (y:=by intro o a w ho z;exact fJ ho gx gx) ?_;refine aj (y:=by intro o a w ho z;exact fI ho gx gx) ?_;refine aj ?_;refine cc λ_ w1 J hb _=>?_;refine aH J ?_;refine⟨?_,hb⟩;rw[pg,←hxy,show(x==4080)=false from beq_eq_false_iff_ne.2 h4];simp only[beq_self_eq_true,aN2,Bool.false_or];rfl
 .refine aj (v:=.bool false) (y:=by intro o a w ho z;exact dq (dz ho gx gx rfl) (by simp[hxy])) ?_;refine aj ?_
  iterate 12 refine kP ?_
  refine aj (y:=by intro o a w ho z;exact fJ ho gx gx) ?_;refine aj ?_;refine cc λ_ w1 J hb _=>?_;refine aH J ?_;exact⟨by simp[pg,hxy],hb⟩
end

theorem JX:∃i,prog.info? 5=some i/\i.zero=some (.int .u8 0)/\i.size=1/\i.bytes=1:=by
 obtain⟨i,hi,hz⟩:=IS.1 (show(prog.info? 5).map (λi=>(i.zero,i.size,i.bytes))=some (some (.int .u8 0),1,1) by kernel_rfl);simp only[Prod.mk.injEq]at hz;exact⟨i,hi,hz⟩
theorem tW{e:TypeId}(h:w.ownsRow B e 1 v n xs):(v.cells=#[v]/\v.oneCell'=true)/\∃ad cap,v=.slice ad n cap:=by
 rcases h.2 with⟨rfl,rfl⟩|⟨g,cap,cur,rfl,_⟩<;>exact⟨⟨rfl,rfl⟩,_,_,rfl⟩
theorem HJ(B b:Nat)(bs:List Value)(s:ByteArray)(w:World)(h:aK0 171 5 B b bs w)(hlen:bs.length+s.size<=140737488355328)(hBw:B<=w.heap.size):
 Cl kX 114 #[.pk b 0,.string s] w λe w'=>∃v,e=.returned v/\aK0 171 5 B b (bs++aT4 s) w'/\Below B w w':=by
 obtain⟨q,hq,hB,v,hb,To,T2⟩:∃q,(q=none\/q=some ⟨b,0,none⟩)/\aR3 171 5 B b (.pointer q) bs w:=h.elim (λh=>⟨none,.inl rfl,h⟩) λh=>⟨_,.inr rfl,h⟩;obtain⟨ti,hti,hz,Tf,Ym⟩:=JX;obtain⟨_,ad,cap,hv⟩:=tW To;refine mf (L:=[.pk b 0,.string s]) func114 rfl λcs' a J=>?_
 iterate 3 refine ab J λ_ J=>?_
 refine bp (R:=λ_ w'=>Eb w w' b #[.pk b 0,v] 171) J func134 ((jK b w hb hq).mono λe w' ⟨h1,h2⟩=>⟨_,h1,h2⟩) λ_ w1 hp _ J=>?_;have h1:=hp.here;have own1:w1.ownsRow B 5 1 v bs.length bs:=gi To λk hk=>hp.there k λe=>T2 (by rw[hk,e]);have UE:=hp.size
 iterate 6 refine ab J λ_ J=>?_
 refine L1.dX (R:=λv' w2=>w2.ownsRow B 5 1 v' (bs.length+s.size) (bs++aT4 s)/\w1.grownBy w2 v.ownBlock) J (λo ho e=>?_) λv' w2 ⟨Zr,W5⟩ _ J=>?_
 .obtain⟨v',w2,h1,h2,h3,_⟩:=Lib.run_append_own_string (P:=prog) {w1 with drawn:=e} B 83 9 o.type 5 ti k_ k_ hti hz Tf Ym v bs.length bs own1 s (by simp only[maxLen];omega) hlen (show B<=w1.heap.size by omega);exact⟨v',w2,uQ ho gx gx h1,h2,h3.os,h3.tape,h3.output,h3.size,h3.block⟩
 have Uc:=aA h1;have h2:=(W5.block b Uc (λe=>T2 e.symm)).trans h1;obtain⟨VG,ad',cap',U3⟩:=tW Zr;have hne':v'.ownBlock≠some b:=aA3 (jH Zr h2 (by intro cur q;cases q))
 iterate 2 refine ab J λ_ J=>?_
 refine cZ J (hy:=by intro o ho;exact pE ho gx gx h2 s_ k_ VG.1 VG.2) λw3 _ Yi J=>?_
 iterate 4 refine ab J λ_ J=>?_
 refine eN (R:=λx y w'=>∃v,aB2 (.tuple #[x,y])=.returned v/\aK0 171 5 B b (bs++aT4 s) w'/\Below B w w') J ?_;refine⟨_,rfl,.inr ⟨hB,v',Yi.here,?_,hne'⟩,((hp.below hB).trans ?_).trans (Yi.below hB)⟩
 .rw[BY,Lib.strCells_length];exact gi Zr λk hk=>Yi.there k λe=>hne' (by rw[hk,e])
 .exact⟨W5.os,W5.tape,W5.output,W5.size,λk hk=>W5.block k o_ λe=>by have:=(own1.lt k e.symm).1;omega⟩
theorem EB(B b:Nat)(l:List UInt8)(w:World)(h:aK0 171 5 B b (aN4 l) w)(h0:0<l.length)(hBw:B<=w.heap.size):
 Cl kX 115 #[.pk b 0] w λe w'=>e=.returned (.string ⟨l.toArray⟩)/\Below B w w':=by
 obtain⟨q,hB,v,hb,To,T2⟩:∃q,aR3 171 5 B b (.pointer q) (aN4 l) w:=h.elim (λh=>⟨_,h⟩) λh=>⟨_,h⟩;have Uc:=aV_ l;rcases To.2 with⟨rfl,e⟩|⟨g,cap,cur,rfl,hg,hr,hn,hm,Tf,ht⟩
 .omega
 .rw[Nat.mul_one]at Tf ht;subst Tf;refine(kr b g l w hb hr Uc o_ ?_ ⟨rfl,by show 0<_;omega⟩ hn (by have:maxLen=9223372036854775807:=rfl;omega)).mono λe w' ⟨h1,h2,_⟩=>⟨h1,h2.os,h2.tape,h2.output,h2.size,λk hk=>h2.block k o_ o_⟩;intro j x hj;have SX:=(aw5.1 hj).1;have e:(cur.toList.take (aN4 l).length)[j]?=some (Value.int .u8 x.toNat):=by
   rw[ht,aN4,aC5,hj];rfl
  rw[List.getElem?_take_of_lt o_,aA9]at e;exact e

end Go.Proofs.YtkmoglhgkcnalaaGreatDoor
namespace Go.Proofs.YtkmoglhgkcnalaaGreatDoor.L1
open Go Go.Conc Go.RowKit Go.Proofs.YtkmoglhgkcnalaaGreatDoor
theorem ot{T e:Nat}{p:Value}{bs:List Value}{M M':World}(h:aR3 T e B b p bs M)(hb:Bw M M'):aR3 T e B b p bs M':=by
 have SX:=h.lt;obtain⟨hB,v,hk,To,T2⟩:=h;refine⟨hB,v,by rw[hb.block b SX];exact hk,To.kept (row:=none) ⟨hb.os,hb.tape,hb.output,hb.size,λk hk _=>hb.block k hk⟩ ?_,T2⟩;cases hv:v.ownBlock with
 |none=>exact .inl rfl
 |some k=>exact .inr s_
theorem sn{T e:Nat}{bs:List Value}{M M':World}(h:aK0 T e B b bs M)(hb:Bw M M'):aK0 T e B b bs M':=
 h.elim (λx=>.inl (ot x hb)) (λx=>.inr (ot x hb))
theorem nZ(L:List Int):(dr L).length=2*L.length:=by
 induction L with
 |nil=>rfl
 |cons x L ih=>rw[dr,aF3,BY,bJ];rw[dr]at ih;rw[ih];simp;omega
theorem N_:f179.body=some (.seq (rG f179 0) (.seq (rG f179 1) .ret)):=by kernel_rfl
theorem yV(L:List Int)(gb off cap:Nat)(w:World)(hr:w.rangeAt gb off (L.map (Value.int .i64)))(hl:L.length=20):Cl kX 179 #[.slice (some ⟨gb,off,none⟩) 20 cap] w λe w'=>e=.returned (.bool (gZ L))/\Bw w w':=by
 have c0:=Li hr 0 o_;have c1:=Li hr 1 o_;have c2:=Li hr 2 o_;have c3:=Li hr 3 o_;refine az (N:=9) func179 N_ λcs a J=>?_
 iterate 2 refine ao J λa J=>?_
 refine bz J func190 (ov gb off cap 0 _ _ w o_ c0 c1) λw1 b1 a J=>?_;refine ao J λa J=>?_;cases hq:pg (L.getD 0 0) (L.getD 1 0)with
 |false=>
  rw[hq]at J
  iterate 2 refine bY J λa J=>?_
  refine ai J (λo ho=>gk ho (J.Q 5) rfl) λa J=>?_;refine ao J λa J=>?_;exact aH J ⟨by rw[gZ,hq,aU9],b1⟩
 |true=>
  rw[hq]at J;refine ao J λa J=>?_;refine bp J func190 (R:=λv w'=>v=.bool (pg (L.getD 2 0) (L.getD 3 0))/\Bw w1 w') ((ov gb off cap 2 _ _ w1 o_ (aU b1 c2) (aU b1 c3)).mono λe w' ⟨e1,e2⟩=>⟨_,e1,rfl,e2⟩) λv w2 hv a J=>?_;obtain⟨rfl,b2⟩:=hv;refine ai J (λo ho=>fN ho (J.Q 5) (J.Q 7)) λa J=>?_;refine ao J λa J=>?_;exact aH J ⟨by rw[gZ,hq,aN2],ae b1 b1.size b2⟩
theorem NR:f180.body=some (.seq (rG f180 0) (.seq (rG f180 1) .ret)):=by kernel_rfl
theorem wD(L:List Int)(gb off cap:Nat)(w:World)(hr:w.rangeAt gb off (L.map (Value.int .i64)))(hl:L.length=20):Cl kX 180 #[.slice (some ⟨gb,off,none⟩) 20 cap] w λe w'=>e=.returned (.bool (iv L))/\Bw w w':=by
 refine az (N:=13) func180 NR λcs a J=>?_
 iterate 2 refine ao J λa J=>?_
 refine ai J (λo ho=>b_ 0 k_ ho (J.Q 3) rfl o_) λa J=>?_;refine ai J (λo ho=>oM 0 hr o_ ho (J.Q 4)) λa J=>?_
 iterate 2 refine ao J λa J=>?_
 cases hq:(L.getD 0 0==4080)with
 |false=>
  rw[hq]at J
  iterate 4 refine bY J λa J=>?_
  refine ai J (λo ho=>gk ho (J.Q 7) rfl) λa J=>?_;refine ao J λa J=>?_;exact aH J ⟨by rw[iv,hq,aU9],aw8 _ _⟩
 |true=>
  rw[hq]at J;refine ao J λa J=>?_;refine ai J (λo ho=>b_ 2 k_ ho (J.Q 8) rfl o_) λa J=>?_;refine ai J (λo ho=>oM 2 hr o_ ho (J.Q 9)) λa J=>?_;refine ao J λa J=>?_;refine ai J (λo ho=>fN ho (J.Q 7) (J.Q 11)) λa J=>?_;refine ao J λa J=>?_;exact aH J ⟨by rw[iv,hq,aN2],aw8 _ _⟩
section
variable{u:TypeId}
theorem MW(SS:o.op=.alloc 171):(execOp ev o).run prog w=.ok (.value (.pk w.heap.size 0)) (w.alloc (.cells #[.pointer none,.slice none 0 0] 171)):=by
 have e:execOp ev o=(do pure (.value (←az0 171 true (.tuple #[])))):=by simp only[execOp,SS]
 have h2:(do pure (.value (←az0 171 true (.tuple #[]))):Sem Next).run prog w=.ok (.value (.pk w.heap.size 0)) (w.alloc (.cells #[.pointer none,.slice none 0 0] 171)):=by kernel_rfl
 rw[e,h2]
theorem Jb{off cap:Nat}(hc:20<=cap)(SS:o.op=.slice 234 x (some y) none none)(hx:ev x=.slice (some ⟨gb,off,none⟩) 20 cap)(hy:ev y=.int .i64 4):(execOp ev o).run prog w=.ok (.value (.slice (some ⟨gb,off+4,none⟩) 16 (cap- 4))) w:=by
 have hu:prog.underlying 234=some (.slice 3):=by kernel_rfl
 have Wq:(sizeOf 3).run prog w=.ok 1 w:=by kernel_rfl
 have h2:¬cap=4:=by omega
 have e0:(⟨gb,off,none⟩:Addr).add 4=⟨gb,off+4,none⟩:=az3 ..;simp[execOp,SS,hx,hy,az5,aD8,ay6,run_underlying hu,ay8,asIntOf,Wq,h2,e0]
end
def RP(f:Func):Code:=.seq (rG f 3) (.seq (.cond (.tmp 10) .skip (.exit 0)) (.seq (.block 1 (.seq (rG f 4) (rG f 5))) (rG f 6)))
def Lq(f:Func):Code:=.seq (rG f 7) .ret
theorem Oh:f181.body=some (.seq (rG f181 0) (.seq (rG f181 1) (.seq (.seq (rG f181 2) (.block 0 (.loop (RP f181)))) (Lq f181)))):=by kernel_rfl
section
variable{L:List Int}{off cap:Nat}
theorem Do(hr:w.rangeAt gb off (L.map (Value.int .i64)))(hl:L.length=20)(hw:∀k,k<20->0<=L.getD k 0/\L.getD k 0<65536)
 (nt:∀a w',Bw w w'->aB [(2,.string ⟨(dr (L.drop 4)).toArray⟩)] 18 [] a->Rn kX Goal ((base 181).atR a [.code .ret]) cs w'):
 ∀(m i:Nat) (a:Act) (wr:World),16- i=m->i<=16->Bw w wr->w.heap.size<wr.heap.size->aK0 171 5 w.heap.size w.heap.size (aN4 (dr ((L.drop 4).take i))) wr->aB [(3,.pk w.heap.size 0),(7,.slice (some ⟨gb,off+4,none⟩) 16 (cap- 4)),(8,.int .i64 16),(9,.int .i64 i)] 18 [] a->Rn kX Goal ((base 181).atR a [.code (RP f181),.inLoop (RP f181),.inBlock 0,.code (Lq f181)]) cs wr:=by
 intro m;induction m with
 |zero=>
  intro i a wr hm hi hb hz hB J;have e16:(L.drop 4).take i=L.drop 4:=ay5 (by rw[aS1];omega);rw[e16]at hB;refine ao J λa J=>?_;refine a9 rfl (a9 rfl (ak _ (J.Q 10) ?_));rw[decide_eq_false o_];refine bz J func115 (EB _ _ _ wr hB (by rw[nZ,aS1];omega) o_) λw1 b1 a J=>?_;refine ao J λa J=>?_;exact a9 rfl (nt _ _ (hb.trans b1) (J.only ⟨rfl,trivial⟩))
 |succ m ih=>
  intro i a wr hm hi hb hz hB J;refine ao J λa J=>?_;refine a9 rfl (a9 rfl (ak _ (J.Q 10) ?_));rw[decide_eq_true o_];have hx:=hw (4+i) o_;have hc:=aU hb (Li hr (4+i) o_);obtain⟨x,ex⟩:∃x:Nat,L.getD (4+i) 0=(x:Int):=⟨(L.getD (4+i) 0).toNat,by omega⟩;rw[←aN3,ex]at hc;refine ai J (λo ho=>b_ i k_ ho (J.Q 7) (J.Q 9) o_) λa J=>?_;refine ai J (λo ho=>(av aC ho (J.Q 11) hc).1) λa J=>?_
  iterate 2 refine ao J λa J=>?_
  refine bz J func92 (u16_any x o_ wr) λw1 b1 a J=>?_;have z1:=b1.size;refine bp J func114 (R:=λ_ w'=>aK0 171 5 w.heap.size w.heap.size (aN4 (dr ((L.drop 4).take i))++aT4 ⟨(cz x 2).toArray⟩) w'/\Below w.heap.size w1 w') (HJ _ _ _ ⟨(cz x 2).toArray⟩ w1 (sn hB b1) (by
   rw[aV_,nZ,aC2];have:(ByteArray.mk (cz x 2).toArray).size=2:=(by show(cz x 2).toArray.size=2;rw[AT,bJ]);omega) o_) λv w2 hv a J=>?_
  obtain⟨TK,b2⟩:=hv;have z2:=b2.size;refine ai J (λo ho=>aN (n:=1) ho (J.Q 9) rfl o_) λa J=>?_;refine ao J λa J=>?_;refine a9 rfl (a9 rfl (ih (i+1) _ w2 o_ o_ ((hb.trans (b1.mono hb.size)).trans b2) o_ ?_ (J.only ⟨rfl,rfl,rfl,rfl,trivial⟩)));have e1:(L.drop 4).take (i+1)=(L.drop 4).take i++[(x:Int)]:=by
   have h1:i<(L.drop 4).length:=(by rw[aS1];omega);rw[List.take_succ_eq_append_getElem h1,List.getElem_drop,←ex,aw4,aw3 o_];rfl
  rw[e1,show dr ((L.drop 4).take i++[(x:Int)])=dr ((L.drop 4).take i)++cz x 2 from by simp[dr],Lib.byteCells_append];exact TK
theorem Dp(hr:w.rangeAt gb off (L.map (Value.int .i64)))(hl:L.length=20)(hw:∀k,k<20->0<=L.getD k 0/\L.getD k 0<65536)(TX:20<=cap):Cl kX 181 #[.slice (some ⟨gb,off,none⟩) 20 cap] w λe w'=>e=.returned (.string ⟨(dr (L.drop 4)).toArray⟩)/\Bw w w':=by
 refine az (N:=18) func181 Oh λcs a J=>?_;refine ao J λa J=>?_;refine ai J (λo ho=>MW ho) λa J=>?_;have b1:=aJ w (.cells #[.pointer none,.slice none 0 0] 171);have z1:=ay w (.cells #[.pointer none,.slice none 0 0] 171);have hB:=Lib.fresh_isBuilder 171 5 w;revert b1 z1 hB;generalize w.alloc (.cells #[.pointer none,.slice none 0 0] 171)=w1;intro b1 z1 hB;refine ao J λa J=>?_;refine ai J (λo ho=>Jb TX ho (J.Q 6) rfl) λa J=>?_;refine ai J (λo ho=>fL (ty:=234) (e:=3) k_ ho (J.Q 7)) λa J=>?_;refine ao J λa J=>?_;exact a9 rfl (a9 rfl (a9 rfl (Do (cap:=cap) hr hl hw (λa w' hb J=>aH J ⟨rfl,hb⟩) 16 0 _ w1 rfl o_ b1 o_ hB (J.only ⟨rfl,rfl,rfl,rfl,trivial⟩))))
end

theorem bN{a:Nat}{c1 c2:Array Value}{t1 t2:TypeId}(h1:w.heap[a]?=some (.cells c1 t1))(h2:w.heap[b]?=some (.cells c2 t2))(ht:t1≠t2):a≠b:=λe=>by
 rw[e,h2]at h1;injection h1 with h1;injection h1 with _ h1;exact ht h1.symm
theorem gB{a:Nat}{c1:Array Value}{t1:TypeId}{r:Loop}(h1:w.heap[a]?=some (.cells c1 t1))(h2:w.heap[b]?=some (.loop r)):a≠b:=λe=>by rw[e,h2]at h1;cases h1
theorem qS{a:Nat}{c1:Array Value}{t1:TypeId}{x:Option (List Deferred)}(h1:w.heap[a]?=some (.cells c1 t1))(h2:w.heap[b]?=some (.deferred x)):a≠b:=λe=>by rw[e,h2]at h1;cases h1
theorem cL{cs:Array Value}{t:TypeId}(h:N<=b):Below N w (put w b cs t):=⟨rfl,rfl,rfl,aT2 fm.symm,λk hk=>bH o_⟩
theorem Fw{off:Nat}{W:List Int}(h:w.rangeAt cb off (W.map (Value.int .i64)))(k:Nat):w.rangeAt cb (off+(5+20*k)) ((iU W k).map (Value.int .i64)):=λj v hv=>by
 rw[aC5,iU,aC8]at hv;split at hv
 .rw[aG1]at hv;rw[aN3];exact h _ v (by rw[aC5];exact hv)
 .cases hv
theorem CZ{W:List Int}(h:W.length=85)(hk:k<4):(iU W k).length=20:=by simp[iU,h];omega
theorem MM{W:List Int}(k:Nat)(hj:j<20):(iU W k).getD j 0=W.getD (5+20*k+j) 0:=by
 rw[aw4,aw4,iU,aC8,if_pos hj,aG1]
def jn(W:List Int)(k:Nat):List Bool:=(ax_ 4).map λi=>if i<k then iv (iU W i)else false
def jv(W:List Int)(k:Nat):List ByteArray:=(ax_ 4).map λi=>if i<k then⟨(dr ((iU W i).drop 4)).toArray⟩else⟨#[]⟩
theorem Cp(W:List Int)(hk:k<4):(jn W k).set k (iv (iU W k))=jn W (k+1):=by
 rcases(by omega:k=0\/k=1\/k=2\/k=3)with rfl|rfl|rfl|rfl<;>rfl
theorem Dm(W:List Int)(hk:k<4):(jv W k).set k ⟨(dr ((iU W k).drop 4)).toArray⟩=jv W (k+1):=by
 rcases(by omega:k=0\/k=1\/k=2\/k=3)with rfl|rfl|rfl|rfl<;>rfl
def KU(f:Func):Code:=.seq (rG f 11) (rG f 12)
def C3(f:Func):Code:=.block 1 (.seq (.seq (rG f 13) (.cond (.tmp 41) (.seq (rG f 14) .ret) .skip)) (.seq (rD f 15) (rD f 16)))
def tc(f:Func)(T:Array Value)(ld:Nat)(st:LoopState)(pd:Option Code):Loop:={state:=st,pending:=pd,fn:=158,tmps:=T,params:=#[37,38],assign:=KU f,body:=C3 f,defers:=ld}
structure Cr (w0:World) (b2 b3 b7 bu bh bs l ld:Nat) (r:Loop) (sv:Value) (st le er:Int) (U:List Bool) (H:List ByteArray) (w:World):Prop where
 old:Bw w0 w
 res:∃c,c.size=4/\w.heap[b2]?=some (.cells c 45)
 err:w.heap[b3]?=some (.cells #[.int .i64 er] 36)
 fus:w.heap[b7]?=some (.cells (eT st le (.sk bu 4 4) (.sk bh 4 4)) 45)
 us:w.heap[bu]?=some (.cells (U.map Value.bool).toArray 4)
 hs:w.heap[bh]?=some (.cells (H.map Value.string).toArray 9)
 box:w.heap[bs]?=some (.cells #[sv] 24)
 list:w.heap[ld]?=some (.deferred (some []))
 loop:w.heap[l]?=some (.loop r)
 lo:w0.heap.size<=b2/\w0.heap.size<=b3/\w0.heap.size<=bu/\w0.heap.size<=bh/\w0.heap.size<=l
 ne:b2≠b7
section
variable{ld:Nat}{r:Loop}{sv:Value}{st le er:Int}{U:List Bool}{H:List ByteArray}
theorem Cr.below(h:Cr w0 b2 b3 b7 bu bh bs l ld r sv st le er U H w)(hb:Bw w w'):Cr w0 b2 b3 b7 bu bh bs l ld r sv st le er U H w':=
 ⟨ae h.old h.old.size hb,let ⟨c,e,hc⟩:=h.res;⟨c,e,bk hb hc⟩,bk hb h.err,bk hb h.fus,bk hb h.us,bk hb h.hs,bk hb h.box,bk hb h.list,bk hb h.loop,h.lo,h.ne⟩
theorem Cr.turn(h:Cr w0 b2 b3 b7 bu bh bs l ld r sv st le er U H w)(r':Loop):Cr w0 b2 b3 b7 bu bh bs l ld r' sv st le er U H (aT w l r'):=
 ⟨h.old.trans (dK w _ _ h.lo.2.2.2.2),let ⟨c,e,hc⟩:=h.res;⟨c,e,(aL w _ (gB hc h.loop)).trans hc⟩,(aL w _ (gB h.err h.loop)).trans h.err,(aL w _ (gB h.fus h.loop)).trans h.fus,(aL w _ (gB h.us h.loop)).trans h.us,(aL w _ (gB h.hs h.loop)).trans h.hs,(aL w _ (gB h.box h.loop)).trans h.box,
  (aL w _ (λe=>by have:=h.list;rw[e,h.loop]at this;cases this)).trans h.list,gH h.loop,h.lo,h.ne⟩
theorem Cr.setU(h:Cr w0 b2 b3 b7 bu bh bs l ld r sv st le er U H w)(U':List Bool):Cr w0 b2 b3 b7 bu bh bs l ld r sv st le er U' H (put w bu (U'.map Value.bool).toArray 4):=
 ⟨h.old.trans (cL h.lo.2.2.1),let ⟨c,e,hc⟩:=h.res;⟨c,e,(bH (bN hc h.us d_)).trans hc⟩,(bH (bN h.err h.us d_)).trans h.err,(bH (bN h.fus h.us d_)).trans h.fus,aZ h.us,(bH (bN h.hs h.us d_)).trans h.hs,(bH (bN h.box h.us d_)).trans h.box,
  (bH (aA3 (qS h.us h.list))).trans h.list,(bH (aA3 (gB h.us h.loop))).trans h.loop,h.lo,h.ne⟩
theorem Cr.setH(h:Cr w0 b2 b3 b7 bu bh bs l ld r sv st le er U H w)(H':List ByteArray):Cr w0 b2 b3 b7 bu bh bs l ld r sv st le er U H' (put w bh (H'.map Value.string).toArray 9):=
 ⟨h.old.trans (cL h.lo.2.2.2.1),let ⟨c,e,hc⟩:=h.res;⟨c,e,(bH (bN hc h.hs d_)).trans hc⟩,(bH (bN h.err h.hs d_)).trans h.err,(bH (bN h.fus h.hs d_)).trans h.fus,(bH (bN h.us h.hs d_)).trans h.us,aZ h.hs,(bH (bN h.box h.hs d_)).trans h.box,
  (bH (aA3 (qS h.hs h.list))).trans h.list,(bH (aA3 (gB h.hs h.loop))).trans h.loop,h.lo,h.ne⟩
theorem Cr.setR(h:Cr w0 b2 b3 b7 bu bh bs l ld r sv st le er U H w)(c':Array Value)(VG:c'.size=4):Cr w0 b2 b3 b7 bu bh bs l ld r sv st le er U H (put w b2 c' 45):=by
 obtain⟨c,_,hc⟩:=h.res;exact⟨h.old.trans (cL h.lo.1),⟨c',VG,aZ hc⟩,(bH (bN h.err hc d_)).trans h.err,(bH (aA3 h.ne)).trans h.fus,(bH (bN h.us hc d_)).trans h.us,(bH (bN h.hs hc d_)).trans h.hs,(bH (bN h.box hc d_)).trans h.box,
  (bH (aA3 (qS hc h.list))).trans h.list,(bH (aA3 (gB hc h.loop))).trans h.loop,h.lo,h.ne⟩
theorem Cr.setE(h:Cr w0 b2 b3 b7 bu bh bs l ld r sv st le er U H w)(e':Int):Cr w0 b2 b3 b7 bu bh bs l ld r sv st le e' U H (put w b3 #[.int .i64 e'] 36):=
 ⟨h.old.trans (cL h.lo.2.1),let ⟨c,e,hc⟩:=h.res;⟨c,e,(bH (bN hc h.err d_)).trans hc⟩,aZ h.err,(bH (bN h.fus h.err d_)).trans h.fus,(bH (bN h.us h.err d_)).trans h.us,(bH (bN h.hs h.err d_)).trans h.hs,(bH (bN h.box h.err d_)).trans h.box,
  (bH (aA3 (qS h.err h.list))).trans h.list,(bH (aA3 (gB h.err h.loop))).trans h.loop,h.lo,h.ne⟩
end
theorem yW(SS:o.op=.build 45 #[]):(execOp ev o).run prog w=.ok (.value (.agg (eT 0 0 (.slice none 0 0) (.slice none 0 0)))) w:=by
 have e:execOp ev o=(do pure (.value (←ax9 45 #[]))):=by simp[execOp,SS]
 have h5:(do pure (.value (←ax9 45 #[])):Sem Next).run prog w=.ok (.value (.agg (eT 0 0 (.slice none 0 0) (.slice none 0 0)))) w:=by kernel_rfl
 rw[e,h5]
def Fz(q cb off k:Nat):Value:=.slice (some ⟨cb,off+(5+20*k),none⟩) 20 (q-(5+20*k))
section
variable{ld off:Nat}{sv:Value}{st le:Int}{W:List Int}{T:Array Value}
theorem M9(h85:85<=q)(hW:dL W)(hr:w0.rangeAt cb off (W.map (Value.int .i64)))(hT:aB [(2,.pk b2 0),(3,.pk b3 0),(7,.pk b7 0)] 56 [] ⟨T,[]⟩)(hk:k<4)
 (hC:Cr w0 b2 b3 b7 bu bh bs l ld (tc f158 T ld .ready none) sv st le 0 (jn W k) (jv W k) w)
 (nt:gZ (iU W k)=true->∀w',Cr w0 b2 b3 b7 bu bh bs l ld (tc f158 T ld .ready none) sv st le 0 (jn W (k+1)) (jv W (k+1)) w'->Rn kX Goal (cf.finish (.bool true)) cs w')
 (nq:gZ (iU W k)=false->∀w',Cr w0 b2 b3 b7 bu bh bs l ld (tc f158 T ld .done (some .ret)) sv st le 1 (jn W k) (jv W k) w'->w'.heap[b2]?=some (.cells (eT 0 0 (.slice none 0 0) (.slice none 0 0)) 45)->Rn kX Goal (cf.finish (.bool false)) cs w'):
 Rn kX Goal (aH4 l 158 (((#[37,38]:Array Tmp).zip #[.int .i64 k,Fz q cb off k]).foldl (λtmps (t,a)=>tmps.setIfInBounds t a) T) (KU f158) (C3 f158) .normal) (cf::cs) w:=by
 have J:=(hT.put (d:=37) d_ (.int .i64 k)).put (d:=38) d_ (Fz q cb off k);have ez:((#[37,38]:Array Tmp).zip #[.int .i64 k,Fz q cb off k]).foldl (λ(tmps:Array Value) (x:Tmp×Value)=>match x with|(t,a)=>tmps.setIfInBounds t a) T=(T.setIfInBounds 37 (.int .i64 k)).setIfInBounds 38 (Fz q cb off k):=by simp
 rw[ez];show Rn _ Goal ((rb 158 l).atR (aG9 (aG9 ⟨T,[]⟩ (some 37) (.int .i64 k)) (some 38) (Fz q cb off k)) [.code (KU f158),.beginRound,.code (C3 f158)]) (cf::cs) w;revert J;generalize aG9 (aG9 ⟨T,[]⟩ (some 37) (.int .i64 k)) (some 38) (Fz q cb off k)=a;intro J
 iterate 2 refine ao J λa J=>?_
 refine a9 rfl (j6 (r:=tc f158 T ld .ready none) rfl hC.loop rfl ?_);have VA:Cr w0 b2 b3 b7 bu bh bs l ld (tc f158 T ld .busy none) sv st le 0 (jn W k) (jv W k) (aT w l {tc f158 T ld .ready none with state:=.busy}):=hC.turn (tc f158 T ld .busy none);revert VA;generalize aT w l {tc f158 T ld .ready none with state:=.busy}=w1;intro VA;have ZR:=CZ hW.1 hk;have rg:∀{w':World},Bw w0 w'->w'.rangeAt cb (off+(5+20*k)) ((iU W k).map (Value.int .i64)):=λhb=>Fw (λj v hv=>aU hb (hr j v hv)) k;have wd:∀j,j<20->0<=(iU W k).getD j 0/\(iU W k).getD j 0<65536:=λj hj=>by rw[MM k hj];exact hW.2 _ o_
 refine ao J λa J=>?_;refine bz J func179 (yV (iU W k) cb _ _ w1 (rg VA.old) ZR) λw2 b2' a J=>?_;have Us:=VA.below b2';refine ao J λa J=>?_;refine a9 rfl (ak _ (J.Q 41) ?_);cases hq:gZ (iU W k)with
 |false=>
  obtain⟨c,W6,hc⟩:=Us.res;refine ai J (λo ho=>yW ho) λa J=>?_;refine aP J (λo ho=>mp ho (J.Q 2) (J.Q 42) hc W6) λa J=>?_;have WW:=Us.setR (eT 0 0 (.slice none 0 0) (.slice none 0 0)) rfl;have e3:=aZ (cs:=eT 0 0 (.slice none 0 0) (.slice none 0 0)) (t:=45) hc;refine aP J (λo ho=>cI (v:=.int .i64 1) rfl rfl k_ ho (J.Q 3) rfl WW.err (by decide:0<1)) λa J=>?_;have Z0:=WW.setE 1;have e4:=(bH (cs:=#[.int .i64 1]) (t:=36) (bN hc Us.err d_)).trans e3;have Y_:=Z0.turn (tc f158 T ld .done (some .ret));refine a9 rfl (yd rfl rfl Z0.loop (nq hq _ Y_ ?_));exact(aL _ _ (gB e4 Z0.loop)).trans e4
 |true=>
  have J:aB [(2,.pk b2 0),(3,.pk b3 0),(7,.pk b7 0),(8,.int .i64 k),(9,Fz q cb off k)] 56 [] a:=J.only ⟨rfl,rfl,rfl,rfl,rfl,trivial⟩;refine a9 rfl (a9 rfl ?_);have f2:=Us.fus;refine ie 6 J ?_
  iterate 4 refine aj ?_
  refine cy func180 (λw b _=>wD (iU W k) cb _ _ w (rg (ae Us.old Us.old.size b)) ZR) ?_;refine aj ?_ (y:=λo a w ho z=>(bR (t:=42) (e:=4) (n:=k) k_ (λw=>by kernel_rfl) ho gx gx hk).1.trans (by rw[az3,aw9]));refine cc λa w' J hb _ rest hgo=>?_;have Y_:=Us.below hb;have hlen:(jn W k).length=4:=by simp[jn]
  refine aP J (λo ho=>cI (v:=.bool (iv (iU W k))) rfl rfl k_ ho (J.Q 48) (J.Q 47) Y_.us (by simp[hlen];omega)) λa J=>hgo _ _ ?_;have WW:=Y_.setU (jn W (k+1));rw[show((jn W (k+1)).map Value.bool).toArray=((jn W k).map Value.bool).toArray.setIfInBounds k (.bool (iv (iU W k)))from by rw[←Cp W hk,aO7];simp]at WW;revert WW;generalize put w' bu _ _=w3;intro WW;have f3:=WW.fus;refine ie 6 (J.only (G:=[(2,.pk b2 0),(3,.pk b3 0),(7,.pk b7 0),(8,.int .i64 k),(9,Fz q cb off k)]) ⟨rfl,rfl,rfl,rfl,rfl,trivial⟩) ?_
  iterate 4 refine aj ?_
  refine cy func181 (λw b _=>Dp (rg (ae WW.old WW.old.size b)) ZR wd ?_) ?_
  .omega
  refine aj ?_ (y:=λo a w ho z=>(bR (t:=43) (e:=9) (n:=k) k_ (λw=>by kernel_rfl) ho gx gx hk).1.trans (by rw[az3,aw9]));refine cc λa w' J hb _ rest hgo=>?_;have Y_:=WW.below hb;have hlen:(jv W k).length=4:=by simp[jv]
  refine aP J (λo ho=>cI (v:=.string ⟨(dr ((iU W k).drop 4)).toArray⟩) rfl rfl k_ ho (J.Q 54) (J.Q 53) Y_.hs (by simp[hlen];omega)) λa _=>hgo _ _ ?_;have Z0:=Y_.setH (jv W (k+1));rw[show((jv W (k+1)).map Value.string).toArray=((jv W k).map Value.string).toArray.setIfInBounds k (.string ⟨(dr ((iU W k).drop 4)).toArray⟩)from by rw[←Dm W hk,aO7];simp]at Z0;exact a9 rfl (ir rfl rfl Z0.loop (nt hq _ (Z0.turn _)))
end

theorem tv{C:iV}{R:Ending->World->Prop}{t u:Tmp}{ty':TypeId}{d:TypeDesc}(hf:C.P.funcs[f]?=some fn)(TB:fn.results=#[.cell t ty,.cell u ty'])(hu:C.P.underlying ty=some d)(hd:d.isRow=true)(hi:(C.P.info? ty).map (·.size)=some n)(hag:∀w:World,(isAgg ty').run C.P w=.ok false w)
 (h:∀cs,Rn C (λg w'=>∃(a:Act) (k:List Item) (bk:Nat) (cells:Array Value) (tt:TypeId) (ad:Addr) (v:Value),g=dj {(base f).atR a k with mode:=.returning} cs/\a.defers=[]/\a.tmps[t]?=some (.pk bk 0)/\w'.heap[bk]?=some (.cells cells tt)/\cells.size=n/\a.tmps[u]?=some (.pointer (some ad))/\w'.cell? ad=some v/\R (.returned (.tuple #[.agg cells,v])) w') (ay2 C.P f args .normal) cs w):Cl C f args w R:=by
 refine fB hf λcs L hG=>h cs L λfr cs' w' ⟨a,k,bk,cells,tt,ad,v,e,h2,h3,h4,h5,h6,h7,h8⟩=>hG _ _ _ ⟨a,k,.tuple #[.agg cells,v],e,h2,?_,h8⟩;have hp:a.tmps[t]?.getD undef=.pk bk 0:=by rw[h3];rfl
 have hv:a.tmps[u]?.getD undef=.pointer (some ad):=by rw[h6];rfl
 have hr:w'.rangeAt bk 0 cells.toList:=λj x hx=>by
  rw[aw9];have:w'.cell? ⟨bk,j,none⟩=cells[j]?:=by simp[ay_,h4]
  rw[this,←hx,aA9]
 have hl:=run_loadVar_mid (P:=C.P) w' bk 0 ty cells.toList d hr hu hd (by rw[hi];simp[h5]);have VK:(loadVar ty' ad).run C.P w'= .ok v w':=by simp[loadVar,hag,h7,go_sem]
 show(results fn a.tmps).run C.P w'=_;simp[results,TB,hp,hv,asAddr,hl,VK]
section
variable{u:TypeId}
theorem J9{off len cap:Nat}(SS:o.op=.slice 24 x (some y) (some z) none)(hx:ev x=.slice (some ⟨gb,off,none⟩) len cap)(hy:ev y=.int .i64 m)(hz:ev z=.int .i64 n)(h:n<=cap)(hm:m<n):(execOp ev o).run prog w=.ok (.value (.slice (some ⟨gb,off+m,none⟩) (n- m) (cap- m))) w:=by
 have hu:prog.underlying 24=some (.slice 3):=by kernel_rfl
 have Wq:(sizeOf 3).run prog w=.ok 1 w:=by kernel_rfl
 have h1:m<=n:=by omega
 have h2:¬cap=m:=by omega
 have e0:(⟨gb,off,none⟩:Addr).add m=⟨gb,off+m,none⟩:=az3 ..;simp[execOp,SS,hx,hy,hz,az5,aD8,ay6,run_underlying hu,ay8,asIntOf,h,Wq,h1,h2,e0]
end
theorem O3:f178.body=some (.seq (rG f178 0) (.seq (rG f178 1) .ret)):=by kernel_rfl
theorem xd(v:Value)(hv:v.cells=#[v])(w:World):Cl kX 178 #[v] w λe w'=>e=.returned (.func (.func 189) #[] #[.pk w.heap.size 0])/\w'=w.alloc (.cells #[v] 24):=by
 refine az (N:=4) func178 O3 λcs a J=>?_;refine ai J (λo ho=>Bn hv ho (J.Q 0)) λa J=>?_;refine ao J λa J=>?_;refine ai (w':=w.alloc (.cells #[v] 24)) J (v:=.func (.func 189) #[] #[.pk w.heap.size 0]) (λo ho=>?_) λa J=>?_
 .have:=(ee (ev:=a.eval) (w:=w.alloc (.cells #[v] 24)) prog (cap:=#[.tmp 1]) ho).1
  rwa [show(#[aH5 1]:Array Operand).map a.eval=#[.pk w.heap.size 0]from by simp[J.Q 1]]at this
 refine ao J λa J=>?_;exact aH J ⟨rfl,rfl⟩
def RN(f:Func):Code:=.seq (rG f 1) (.seq (.cond (.tmp 6) .skip (.exit 0)) (.seq (.block 1 (.seq (rG f 2) (.seq (rG f 3) (.seq (rG f 4) (.cond (.tmp 19) .ret .skip))))) (rG f 5)))
theorem O4:f189.body=some (.seq (rG f189 0) (.block 0 (.loop (RN f189)))):=by kernel_rfl
section
variable{ld off:Nat}{st le:Int}{W:List Int}{T:Array Value}
theorem Qn(h85:85<=q)(hW:dL W)(hr:w0.rangeAt cb off (W.map (Value.int .i64)))(hT:aB [(2,.pk b2 0),(3,.pk b3 0),(7,.pk b7 0)] 56 [] ⟨T,[]⟩)
 (nf:((ax_ 4).all λk=>gZ (iU W k))=true->∀w',Cr w0 b2 b3 b7 bu bh bs l ld (tc f158 T ld .ready none) (.slice (some ⟨cb,off,none⟩) 85 q) st le 0 (jn W 4) (jv W 4) w'->Rn kX Goal (cf.finish (.tuple #[])) cs w')
 (nq:((ax_ 4).all λk=>gZ (iU W k))=false->∀U H w',Cr w0 b2 b3 b7 bu bh bs l ld (tc f158 T ld .done (some .ret)) (.slice (some ⟨cb,off,none⟩) 85 q) st le 1 U H w'->w'.heap[b2]?=some (.cells (eT 0 0 (.slice none 0 0) (.slice none 0 0)) 45)->Rn kX Goal (cf.finish (.tuple #[])) cs w'):
 ∀(m i:Nat) (a:Act) (w:World),4- i=m->i<=4->(∀j,j<i->gZ (iU W j)=true)->aB [(0,.func (.yield l) #[] #[]),(1,.pk bs 0),(5,.int .i64 i)] 21 [] a->Cr w0 b2 b3 b7 bu bh bs l ld (tc f158 T ld .ready none) (.slice (some ⟨cb,off,none⟩) 85 q) st le 0 (jn W i) (jv W i) w->
  Rn kX Goal ((base 189).atR a [.code (RN f189),.inLoop (RN f189),.inBlock 0]) (cf::cs) w:=by
 intro m;induction m with
 |zero=>
  intro i a w hm hi hj J hC;obtain rfl:i=4:=by omega
  refine ao J λa J=>?_;refine a9 rfl (a9 rfl (ak _ (J.Q 6) ?_));rw[decide_eq_false o_];refine a9 rfl (aS rfl (.inl rfl) (iu rfl J.defers func189 (nf ?_ _ hC)));rw[aA7];intro k hk;exact hj k (by simpa using hk)
 |succ m ih=>
  intro i a w hm hi hj J hC;refine ao J λa J=>?_;refine a9 rfl (a9 rfl (ak _ (J.Q 6) ?_));rw[decide_eq_true o_]
  iterate 3 refine ao J λa J=>?_
  refine ai J (λo ho=>iX (n:=20) ho (J.Q 8) rfl o_) λa J=>?_;refine ai J (λo ho=>aN (m:=5) ho rfl (J.Q 9) o_) λa J=>?_
  iterate 3 refine ao J λa J=>?_
  refine ai J (λo ho=>(av nQ ho (J.Q 1) ((ar hC.box 0).trans rfl)).1) λa J=>?_
  iterate 2 refine ao J λa J=>?_
  refine ai J (λo ho=>aN (n:=20) ho (J.Q 15) rfl o_) λa J=>?_;refine ai J (λo ho=>J9 ho (J.Q 13) (J.Q 14) (J.Q 16) o_ o_) λa J=>?_;rw[show(Value.slice (some ⟨cb,off+(5+i*20),none⟩) (5+i*20+20-(5+i*20)) (q-(5+i*20)))=Fz q cb off i from by rw[Fz,aX5 i 20,Nat.add_sub_cancel_left]]at J;refine bK ?_;have h18:((bM f189 4)[7]?).map (λo=>(o.dst,o.op,o.guard))=some (some 18,.call {callee:=.value (.tmp 11),args:=#[.tmp 12,.tmp 17],argTypes:=#[3,234]},none):=by kernel_rfl
  cases ho:(bM f189 4)[7]? with
  |none=>rw[ho]at h18;cases h18
  |some o=>
  obtain⟨e1,e2,e3⟩:=eI ho h18;refine mi (args:=#[.int .i64 i,Fz q cb off i]) ho (e3 _) (by rw[e2];simp) hC.loop rfl (λw=>jb e2 (J.Q 11) (by simp[J.Q 12,J.Q 17]) w) ?_;refine M9 h85 hW hr hT o_ hC (λhq w2 Us=>?_) (λhq w2 Us hz=>?_)
  .rw[aA6,ho,aD6,e1];have J:=J.put (d:=18) d_ (.bool true);revert J;generalize a.put (some 18) (.bool true)=a;intro J;clear e1 e2 e3 ho;refine ao J λa J=>?_;refine a9 rfl (ak false (J.Q 19) ?_);refine ai J (λo ho=>aN (n:=1) ho (J.Q 5) rfl o_) λa J=>?_;refine ao J λa J=>?_;exact a9 rfl (a9 rfl (ih (i+1) a _ o_ o_ (λj Ux=>by
    rcases aO4 j i with h|h
    .exact hj j h
    .rw[show j=i by omega];exact hq) (J.only ⟨rfl,rfl,rfl,trivial⟩) Us))
  .rw[aA6,ho,aD6,e1];have J:=J.put (d:=18) d_ (.bool false);revert J;generalize a.put (some 18) (.bool false)=a;intro J;clear e1 e2 e3 ho;refine ao J λa J=>?_;refine a9 rfl (ak true (J.Q 19) ?_);refine aS rfl (.inr ⟨_,rfl⟩) (iu rfl J.defers func189 (nq ?_ _ _ _ Us hz));rw[List.all_eq_false];exact⟨i,by simp;omega,by rw[hq];decide⟩
end

section
variable{u:Operand}
theorem MV(SS:o.op=.alloc 36):(execOp ev o).run prog w=.ok (.value (.pk w.heap.size 0)) (w.alloc (.cells #[.int .i64 0] 36)):=by
 have e:execOp ev o=(do pure (.value (←az0 36 true (.tuple #[])))):=by simp only[execOp,SS]
 have h2:(do pure (.value (←az0 36 true (.tuple #[]))):Sem Next).run prog w=.ok (.value (.pk w.heap.size 0)) (w.alloc (.cells #[.int .i64 0] 36)):=by kernel_rfl
 rw[e,h2]
theorem kx{m:Sem Value}(h:m.run P w=.ok v w'):(do pure (.value (←m)):Sem Next).run P w=.ok (.value v) w':=by simp[h]
theorem Qc(SS:o.op=.makeSlice 42 x y)(hx:ev x=.int .i64 4)(hy:ev y=.int .i64 4):(execOp ev o).run prog w=.ok (.value (.sk w.heap.size 4 4)) (w.alloc (.cells #[.bool false,.bool false,.bool false,.bool false] 4)):=by
 have h:=run_make_row' (P:=prog) 42 4 (Value.bool false) 1 k_ k_ rfl .i64 .i64 4 o_ o_ w;rw[iC]at h;have e:execOp ev o=(do pure (.value (←aH9 42 (.int .i64 4) (.int .i64 4)))):=by simp only[execOp,SS,hx,hy]
 rw[e];exact kx h
theorem Qa(SS:o.op=.makeSlice 43 x y)(hx:ev x=.int .i64 4)(hy:ev y=.int .i64 4):(execOp ev o).run prog w=.ok (.value (.sk w.heap.size 4 4)) (w.alloc (.cells #[.string ⟨#[]⟩,.string ⟨#[]⟩,.string ⟨#[]⟩,.string ⟨#[]⟩] 9)):=by
 have h:=run_make_row' (P:=prog) 43 9 (Value.string ⟨#[]⟩) 16 k_ k_ rfl .i64 .i64 4 o_ o_ w;rw[iC]at h;have e:execOp ev o=(do pure (.value (←aH9 43 (.int .i64 4) (.int .i64 4)))):=by simp only[execOp,SS,hx,hy]
 rw[e];exact kx h
theorem Mx{st le:Int}{pu ph:Option Addr}{lu qu lh qh:Nat}(SS:o.op=.build 45 #[(0,x),(1,y),(2,z),(3,u)])(hx:ev x=.int .i64 st)(hy:ev y=.slice pu lu qu)(hz:ev z=.int .i64 le)(hu:ev u=.slice ph lh qh):(execOp ev o).run prog w=.ok (.value (.agg (eT st le (.slice pu lu qu) (.slice ph lh qh)))) w:=by
 have e:execOp ev o=(do pure (.value (←ax9 45 #[(0,.int .i64 st),(1,.slice pu lu qu),(2,.int .i64 le),(3,.slice ph lh qh)]))):=by simp[execOp,SS,hx,hy,hz,hu]
 have h5:(do pure (.value (←ax9 45 #[(0,.int .i64 st),(1,.slice pu lu qu),(2,.int .i64 le),(3,.slice ph lh qh)])):Sem Next).run prog w=.ok (.value (.agg (eT st le (.slice pu lu qu) (.slice ph lh qh)))) w:=by kernel_rfl
 rw[e,h5]
end
section
variable{st le:Int}{sv p2 p3:Value}
theorem QC(J:aB [(0,sv),(2,p2),(3,p3),(4,.int .i64 st),(6,.int .i64 le)] 56 [] a)
 (next:∀a w1 b7 bu bh,Bw w w1->w.heap.size<=b7->w.heap.size<=bu->w.heap.size<=bh->w1.heap[b7]?=some (.cells (eT st le (.sk bu 4 4) (.sk bh 4 4)) 45)->w1.heap[bu]?=some (.cells #[.bool false,.bool false,.bool false,.bool false] 4)->w1.heap[bh]?=some (.cells #[.string ⟨#[]⟩,.string ⟨#[]⟩,.string ⟨#[]⟩,.string ⟨#[]⟩] 9)->aB [(0,sv),(2,p2),(3,p3),(7,.pk b7 0)] 56 [] a->Rn kX Goal ((base 158).atR a K) cs w1):
 Rn kX Goal ((base 158).atR a (.code (rD f158 9)::K)) cs w:=by
 refine ie 6 J ?_;refine aj ?_;refine oD [.inl (.int .i64 le),.inr (Ms w (λb=>.sk b 4 4) (.cells #[.string ⟨#[]⟩,.string ⟨#[]⟩,.string ⟨#[]⟩,.string ⟨#[]⟩] 9)),.inr λu w1=>∃x y,u=.agg (eT st le x y)/\Ms w (λb=>.sk b 4 4) (.cells #[.bool false,.bool false,.bool false,.bool false] 4) x w1/\Ms w (λb=>.sk b 4 4) (.cells #[.string ⟨#[]⟩,.string ⟨#[]⟩,.string ⟨#[]⟩,.string ⟨#[]⟩] 9) y w1,
  .inr (Ms w (λb=>.pk b 0) (.cells (eT 0 0 (.slice none 0 0) (.slice none 0 0)) 45))] (V:=λb=>.sk b 4 4) (λu=>?_) (y:=λo a w ho z=>Qc ho gx gx)
 refine Ec ?_;refine yn (λx=>?_) (y:=λo a w ho z=>Qa ho gx gx);refine wi (λ_ _ _ ⟨x,y,h1,h2,h3⟩ hb=>⟨x,y,h1,Ms.st _ _ _ h2 hb,Ms.st _ _ _ h3 hb⟩) (λy=>?_) (y:=λo a w ho z=>?_)
 rotate_left
 .have h1:=(z.m _ (aw8 _ _)).2.1 k_;have h2:=(z.m _ (aw8 _ _)).1 k_;obtain⟨_,rfl,_⟩:=id h1;obtain⟨_,rfl,_⟩:=id h2;exact⟨_,w,Mx ho gx gx gx gx,⟨_,_,rfl,h1,h2⟩,aw8 _ _⟩
 refine yn (λv=>oE λa w' J hb hM rest hgo=>?_) (y:=λo a w ho _=>u7 ho);obtain⟨b7,rfl,q6,q7⟩:=hM.1 rfl;obtain⟨_,_,rfl,⟨bu,rfl,q1,q4⟩,bh,rfl,q2,q5⟩:=hM.2.1 rfl;exact aP J (λo ho=>mp ho (J.Q 7) (J.Q 34) q7 rfl) λa J=>hgo _ _ (next a _ b7 bu bh (hb.trans (cL q6)) q6 q1 q2 (aZ q7) ((bH (bN q4 q7 d_)).trans q4) ((bH (bN q5 q7 d_)).trans q5) (J.only ⟨rfl,rfl,rfl,rfl,trivial⟩))
end
theorem O1:f158.body=some (.seq (rG f158 0) (.seq (.seq (rG f158 1) (.cond (.tmp 12) (.seq (rG f158 2) .ret) .skip)) (.seq (rG f158 3) (.seq (.seq (rG f158 4) (.cond (.tmp 20) (.seq (rG f158 5) .ret) .skip)) (.seq (rG f158 6) (.seq (.seq (rG f158 7) (.cond (.tmp 28) (.seq (rG f158 8) .ret) .skip)) (.seq (rD f158 9) (.seq (.seq (rG f158 10) (.block 0 (.rangeFunc (.tmp 36) #[37,38] (KU f158) (C3 f158)))) (.seq (rG f158 17) .ret))))))))):=by kernel_rfl

theorem Jl:kN:=by
 intro W w cb off q h85 hW hr SX;refine tv (t:=2) (u:=3) (ty:=45) (ty':=36) (n:=4) func158 rfl (by exact underlying45) rfl zS (λw=>by kernel_rfl) λcs=>?_;refine bv (N:=56) func158 O1 λa J=>?_;refine bA J (λo ho=>u7 ho) λw1 a b1 c1 z1 J=>?_;refine bA J (λo ho=>MV ho) λw2 a b2 c2 z2 J=>?_;have B2:=ae b1 b1.size b2;have c1:=bk b2 c1;have rg:∀{w':World},Bw w w'->w'.rangeAt cb off (W.map (Value.int .i64)):=λhb j v hv=>aU hb (hr j v hv);refine ao J λa J=>?_;refine bz J func98 (H7 hW cb off q w2 (rg B2)) λw' hw a J=>?_;rw[hw];refine ao J λa J=>?_;refine a9 rfl (ak _ (J.Q 12) ?_);refine ao J λa J=>?_;refine bp J func176 (CF hW cb off q w2 (rg B2)) λv w3 hv a J=>?_;obtain⟨s,rfl,hs,b3⟩:=hv;have B3:=ae B2 B2.size b3;have c1:=bk b3 c1;have c2:=bk b3 c2;have z3:=b3.size
 iterate 7 refine ao J λa J=>?_
 refine a9 rfl (ak _ (J.Q 20) ?_);cases Tg:yu W with
 |false=>
  have hno:mE W=false:=by rw[mE,Tg];rfl
  refine ai J (λo ho=>yW ho) λa J=>?_;refine aP J (λo ho=>mp ho (J.Q 2) (J.Q 21) c1 rfl) λa J=>?_;have d3:=(bH (cs:=eT 0 0 (.slice none 0 0) (.slice none 0 0)) (t:=45) (bN c2 c1 d_)).trans c2;refine aP J (λo ho=>cI (v:=.int .i64 1) rfl rfl k_ ho (J.Q 3) rfl d3 (by decide:0<1)) λa J=>?_;have d2:=aZ (cs:=eT 0 0 (.slice none 0 0) (.slice none 0 0)) (t:=45) c1;exact dn 6 _ (aS rfl (.inr ⟨_,rfl⟩) (bj ⟨_,_,w.heap.size,_,_,⟨w1.heap.size,0,none⟩,.int .i64 1,rfl,J.defers,J.slot 2 _ rfl,(bH (bN d2 d3 d_)).trans d2,rfl,J.slot 3 _ rfl,(ar (aZ d3) 0).trans rfl,_,rfl,0,0,1,none,0,0,none,0,0,[],[],rfl,.inr ⟨hno,rfl⟩,(B3.trans (cL (aw0 _))).trans (cL o_),λe=>by cases e⟩))
 |true=>
  refine ao J λa J=>?_;refine bp J func177 (zQ hW cb off q w3 (rg B3)) λv w4 hv a J=>?_;obtain⟨le,rfl,hle,b4⟩:=hv;have B4:=ae B3 B3.size b4;have c1:=bk b4 c1;have c2:=bk b4 c2;have z4:=b4.size
  iterate 7 refine ao J λa J=>?_
  refine a9 rfl (ak _ (J.Q 28) ?_);cases Wx:G0 W with
  |false=>
   have hno:mE W=false:=(by rw[mE,Tg,Wx];rfl);refine ai J (λo ho=>yW ho) λa J=>?_;refine aP J (λo ho=>mp ho (J.Q 2) (J.Q 29) c1 rfl) λa J=>?_;have d3:=(bH (cs:=eT 0 0 (.slice none 0 0) (.slice none 0 0)) (t:=45) (bN c2 c1 d_)).trans c2;refine aP J (λo ho=>cI (v:=.int .i64 1) rfl rfl k_ ho (J.Q 3) rfl d3 (by decide:0<1)) λa J=>?_;have d2:=aZ (cs:=eT 0 0 (.slice none 0 0) (.slice none 0 0)) (t:=45) c1;exact dn 6 _ (aS rfl (.inr ⟨_,rfl⟩) (bj ⟨_,_,w.heap.size,_,_,⟨w1.heap.size,0,none⟩,.int .i64 1,rfl,J.defers,J.slot 2 _ rfl,(bH (bN d2 d3 d_)).trans d2,rfl,J.slot 3 _ rfl,(ar (aZ d3) 0).trans rfl,_,rfl,0,0,1,none,0,0,none,0,0,[],[],rfl,.inr ⟨hno,rfl⟩,(B4.trans (cL (aw0 _))).trans (cL o_),λe=>by cases e⟩))
  |true=>
   have J:aB [(0,(.slice (some ⟨cb,off,none⟩) 85 q:Value)),(2,.pk w.heap.size 0),(3,.pk w1.heap.size 0),(4,.int .i64 s),(6,.int .i64 le)] 56 [] a:=J.only ⟨rfl,rfl,rfl,rfl,rfl,trivial⟩;refine a9 rfl (a9 rfl ?_);refine QC J λa w5 b7 bu bh b5 l7 lu lh c7 cu ch J=>?_;have B5:=ae B4 B4.size b5;have c1:=bk b5 c1;have c2:=bk b5 c2;have z5:=b5.size;have lt7:=aA c7;have ltu:=aA cu;have lth:=aA ch;refine ao J λa J=>?_;refine bz J func178 (xd (.slice (some ⟨cb,off,none⟩) 85 q:Value) rfl w5) λw6 YD a J=>?_;have b6:Bw w5 w6:=(by rw[YD];exact aJ _ _);have c6:w6.heap[w5.heap.size]?=some (.cells #[(.slice (some ⟨cb,off,none⟩) 85 q:Value)] 24):=(by rw[YD];exact aR _ _);have z6:w6.heap.size=w5.heap.size+1:=(by rw[YD];exact ay _ _);clear YD;have B6:=ae B5 B5.size b6;have c1:=bk b6 c1;have c2:=bk b6 c2;have c7:=bk b6 c7;have cu:=bk b6 cu;have ch:=bk b6 ch;refine a9 rfl (a9 rfl ?_);refine jk (tc f158 a.tmps w6.heap.size .ready none) (args:=[.func (.yield (w6.heap.size+1)) #[] #[],.pk w5.heap.size 0].toArray) rfl rfl func189 k_ k_ (J.Q 36) rfl ?_;have hC:Cr w w.heap.size w1.heap.size b7 bu bh w5.heap.size (w6.heap.size+1) w6.heap.size (tc f158 a.tmps w6.heap.size .ready none) (.slice (some ⟨cb,off,none⟩) 85 q:Value) s le 0 (jn W 0) (jv W 0) (cj w6 (tc f158 a.tmps w6.heap.size .ready none)):=
    ⟨ae B6 B6.size (fT w6 _),⟨_,rfl,(bf w6 _ o_).trans c1⟩,(bf w6 _ o_).trans c2,(bf w6 _ o_).trans c7,(bf w6 _ o_).trans cu,(bf w6 _ o_).trans ch,(bf w6 _ o_).trans c6,ep w6 _,eo w6 _,⟨by omega,by omega,by omega,by omega,by omega⟩,by omega⟩
   revert hC;generalize cj w6 (tc f158 a.tmps w6.heap.size .ready none)=w8;intro hC;rw[gC (N:=21) _ func189 O4 rfl];have hH1:=dF [.func (.yield (w6.heap.size+1)) #[] #[],.pk w5.heap.size 0] 21 s_;revert hH1;generalize (Act.mk (([.func (.yield (w6.heap.size+1)) #[] #[],.pk w5.heap.size 0]:List Value).toArray++ay3 (21-([.func (.yield (w6.heap.size+1)) #[] #[],.pk w5.heap.size 0]:List Value).toArray.size) undef) [])=gg;intro hG;refine ao hG λgg hG=>?_;refine a9 rfl (a9 rfl (a9 rfl ?_));have hT:aB [(2,.pk w.heap.size 0),(3,.pk w1.heap.size 0),(7,.pk b7 0)] 56 [] a:=J.only ⟨rfl,rfl,rfl,trivial⟩;have hD:aB [(2,.pk w.heap.size 0),(3,.pk w1.heap.size 0),(7,.pk b7 0)] 56 [{target:=.collected w6.heap.size,args:=#[]}] ⟨a.tmps,{target:=.collected w6.heap.size,args:=#[]}::a.defers⟩:=⟨by rw[J.defers],J.size,hT.slot⟩;have far:∀(w9:World) {b:Nat} {ob:Obj},b≠w6.heap.size->w9.heap[b]?=some ob->({w9 with heap:=w9.heap.setIfInBounds w6.heap.size (.deferred none)}:World).heap[b]?=some ob:=λw9 b ob hb h=>(aw_ (aA3 hb)).trans h;refine Qn (T:=a.tmps) (w0:=w) h85 hW hr ⟨rfl,hT.size,hT.slot⟩ (λTC w9 Xi=>?_) (λTC U H w9 Xi hz=>?_) _ 0 gg w8 rfl o_ (λj hj=>by omega) (hG.only ⟨rfl,rfl,rfl,trivial⟩) hC
   .show Rn kX _ ((base 158).atR ⟨a.tmps,{target:=.collected w6.heap.size,args:=#[]}::a.defers⟩ (.endRangeFunc (w6.heap.size+1)::_)) cs w9;revert hD;generalize (Act.mk a.tmps ({target:=.collected w6.heap.size,args:=#[]}::a.defers))=a2;intro J;refine fV Xi.loop rfl rfl ?_;have Ue:=Xi.turn (tc f158 a.tmps w6.heap.size .exhausted none);revert Ue;show Cr _ _ _ _ _ _ _ _ _ _ _ _ _ _ _ _ (aT w9 (w6.heap.size+1) {tc f158 a.tmps w6.heap.size .ready none with state:=.exhausted})->_;generalize aT w9 (w6.heap.size+1) {tc f158 a.tmps w6.heap.size .ready none with state:=.exhausted}=W_;intro Ue;obtain⟨c,W6,hc⟩:=Ue.res;refine ai J (λo ho=>kZ ho (J.Q 7) Ue.fus) λa J=>?_;refine aP J (λo ho=>mp ho (J.Q 2) (J.Q 55) hc W6) λa J=>?_;have Wo:=Ue.setR (eT s le (.sk bu 4 4) (.sk bh 4 4)) rfl;have d2:=aZ (cs:=eT s le (.sk bu 4 4) (.sk bh 4 4)) (t:=45) hc;refine aP J (λo ho=>cI (v:=.int .i64 0) rfl rfl k_ ho (J.Q 3) rfl Wo.err (by decide:0<1)) λa J=>?_;have Y8:=Wo.setE 0;have d2:=(bH (cs:=#[.int .i64 0]) (t:=36) (bN d2 Wo.err d_)).trans d2;refine a9 rfl (aS rfl (.inr ⟨_,rfl⟩) (jA (ds:=[]) J.defers Y8.list (bj ⟨⟨a.tmps,[]⟩,_,w.heap.size,_,_,⟨w1.heap.size,0,none⟩,.int .i64 0,rfl,rfl,J.slot 2 _ rfl,far _ o_ d2,rfl,J.slot 3 _ rfl,(ar (far _ o_ Y8.err) 0).trans rfl,_,rfl,s,le,0,_,_,_,_,_,_,yK W,Gf W,rfl,.inl ⟨?_,rfl,hs Tg,hle Wx,rfl,rfl⟩,Y8.old.trans (fC _ _ o_),λ_=>⟨bu,bh,rfl,rfl,rfl,rfl,rfl,rfl,far _ o_ Y8.us,far _ o_ Y8.hs⟩⟩)));rw[mE,Tg,Wx,TC];rfl
   .show Rn kX _ ((base 158).atR ⟨a.tmps,{target:=.collected w6.heap.size,args:=#[]}::a.defers⟩ (.endRangeFunc (w6.heap.size+1)::_)) cs w9;revert hD;generalize (Act.mk a.tmps ({target:=.collected w6.heap.size,args:=#[]}::a.defers))=a2;intro J;refine oz Xi.loop rfl rfl ?_;have Ue:=Xi.turn (tc f158 a.tmps w6.heap.size .exhausted (some .ret));have hz10:=(aL w9 (tc f158 a.tmps w6.heap.size .exhausted (some .ret)) (gB hz Xi.loop)).trans hz;refine aS rfl (.inr ⟨_,rfl⟩) (jA (ds:=[]) J.defers Ue.list (bj ⟨⟨a2.tmps,[]⟩,_,w.heap.size,_,_,⟨w1.heap.size,0,none⟩,.int .i64 1,rfl,rfl,J.slot 2 _ rfl,far _ o_ hz10,rfl,J.slot 3 _ rfl,(ar (far _ o_ Ue.err) 0).trans rfl,_,rfl,0,0,1,none,0,0,none,0,0,[],[],rfl,.inr ⟨?_,rfl⟩,Ue.old.trans (fC _ _ o_),λe=>by cases e⟩));rw[mE,Tg,Wx,TC];rfl

def HI(n:Nat):List Int:=List.replicate n 0
section
variable{u:TypeId}
theorem Jd{p:Option Addr}{c:Nat}(SS:o.op=.build 149 #[(0,x)])(hx:ev x=.slice p l c):(execOp ev o).run prog w=.ok (.value (.agg (jm (.slice p l c) (HI 85) (HI 16) false 0))) w:=by
 have e:execOp ev o=(do pure (.value (←ax9 149 #[(0,.slice p l c)]))):=by simp[execOp,SS,hx]
 have h5:(do pure (.value (←ax9 149 #[(0,.slice p l c)])):Sem Next).run prog w=.ok (.value (.agg (jm (.slice p l c) (HI 85) (HI 16) false 0))) w:=by kernel_rfl
 rw[e,h5]
theorem Mn(SS:o.op=.build 127 #[(0,x)])(hx:ev x=.pk cb 0):(execOp ev o).run prog w=.ok (.value (.agg #[.pk cb 0])) w:=by
 have e:execOp ev o=(do pure (.value (←ax9 127 #[(0,.pk cb 0)]))):=by simp[execOp,SS,hx]
 have h5:(do pure (.value (←ax9 127 #[(0,.pk cb 0)])):Sem Next).run prog w=.ok (.value (.agg #[.pk cb 0])) w:=by kernel_rfl
 rw[e,h5]
theorem Bl(SS:o.op=.slice 145 x none none none)(hx:ev x=.pk b 86):(execOp ev o).run prog w=.ok (.value (.slice (some ⟨b,86,none⟩) 16 16)) w:=by
 have e:execOp ev o=(do pure (.value (←az5 145 (.pk b 86) none none none))):=by simp only[execOp,SS,hx];rfl
 have h2:(do pure (.value (←az5 145 (.pk b 86) none none none)):Sem Next).run prog w=.ok (.value (.slice (some ⟨b,86,none⟩) 16 16)) w:=by kernel_rfl
 rw[e,h2]
theorem M3{m:Sem Value}(h:m.run P w=.ok v w'):(do pure (.value (←m)):Sem Next).run P w=.ok (.value v) w':=by simp[h]
theorem GL{off cap:Nat}{fl:Value}{W0 W K:List Int}{on:Bool}{t:TypeId}(h0:W0.length=85)(hW:W.length=85)(hc:w.heap[b]?=some (.cells (jm fl W0 K on sl) t))(hr:w.rangeAt g off (W.map (Value.int .i64)))(SS:o.op=.call {callee:=.builtin .copy,args:=#[.tmp k,.tmp j],argTypes:=#[24,24]})(hx:ev (.tmp k)=.slice (some ⟨b,1,none⟩) 85 85)(hy:ev (.tmp j)=.slice (some ⟨g,off,none⟩) 85 cap):
 (execOp ev o).run prog w=.ok (.value (.int .i64 85)) (put w b (jm fl W K on sl) t):=by
 have e:execOp ev o=(do pure (.value (←aJ8 #[24,24] o.type #[.slice (some ⟨b,1,none⟩) 85 85,.slice (some ⟨g,off,none⟩) 85 cap]))):=by simp[execOp,SS,resolve,hx,hy,invoke,builtin]
 have hs:(jm fl W0 K on sl).toList.take 1++W.map (Value.int .i64)++(jm fl W0 K on sl).toList.drop (1+(W.map (Value.int .i64)).length)=(jm fl W K on sl).toList:=by
  simp only[jm,aF_,hW];rw[show 1+85=85+1 from rfl,aV6,aV7,List.drop_append_of_le_length (by simp[h0]),aC6 (by simp[h0])];simp
 have h:=run_copy_row (P:=prog) w 24 24 o.type 3 b 1 85 85 ⟨g,off,none⟩ 85 cap _ t (W.map (Value.int .i64)) k_ k_ hc (by simp[hW]) (λj v hv=>by rw[az3];exact hr j v hv) (by simp[jm,h0,hW]) (by intro v hv;obtain⟨_,_,rfl⟩:=aM2.1 hv;rfl);rw[hs,aL8,gD hc]at h;rw[e,M3 h,aF_,hW];rfl
theorem Kr{fl:Value}{W K:List Int}{on:Bool}{t:TypeId}(hW:W.length=85)(hK:K.length=16)(hs:s.size=16)(hc:w.heap[b]?=some (.cells (jm fl W K on sl) t))(SS:o.op=.call {callee:=.builtin .copy,args:=#[.tmp k,.tmp j],argTypes:=#[83,9]})(hx:ev (.tmp k)=.slice (some ⟨b,86,none⟩) 16 16)(hy:ev (.tmp j)=.string s):
 (execOp ev o).run prog w=.ok (.value (.int .i64 16)) (put w b (jm fl W (s.data.toList.map λb=>(b.toNat:Int)) on sl) t):=by
 have e:execOp ev o=(do pure (.value (←aJ8 #[83,9] o.type #[.slice (some ⟨b,86,none⟩) 16 16,.string s]))):=by simp[execOp,SS,resolve,hx,hy,invoke,builtin]
 have hl:s.data.toList.length=16:=by rw[ax1];exact hs
 have hu:prog.underlying 83=some (.slice 5):=by kernel_rfl
 have hz:(sizeOf 5).run prog w=.ok 1 w:=by kernel_rfl
 have ht:List.take 16 (List.map (λb=>Value.int .u8 b.toNat) s.data.toList)=List.map (λb=>Value.int .u8 b.toNat) s.data.toList:=ay5 (by rw[aF_,hl];exact aw0 _);have Vp:(jm fl W K on sl).toList.take (86+0)++(s.data.map λb=>Value.int .u8 b.toNat).toList++(jm fl W K on sl).toList.drop (86+0+(s.data.map λb=>Value.int .u8 b.toNat).toList.length)=(jm fl W (s.data.toList.map λb=>(b.toNat:Int)) on sl).toList:=by
  simp only[jm,aM4,aF_,hl];rw[show 86+0+16=101+1 from rfl,show 86+0=85+1 from rfl,aV6,aV7,List.take_append_of_le_length (by simp[hW]),ay5 (by simp[hW]),aM7,aC6 (by simp[hW]),aM7,aC6 (by simp[hW,hK])];simp[hW,hK]
 have h:=run_storeCells_at prog b 86 t (s.data.map λb=>Value.int .u8 b.toNat).toList 0 _ w hc (by simp[jm,hW,hK,hl]) (by intro v hv;rw[aM4]at hv;obtain⟨_,_,rfl⟩:=aM2.1 hv;rfl);rw[Vp,aL8,gD hc,aM4]at h;rw[e];simp[aJ8,run_underlying hu,Builtin.lenOf,Builtin.firstCells,hz,hs,ht,h,goInt]
end
theorem O7:f74.body=some (.seq (rG f74 0) (.seq (.seq (rG f74 1) (.cond (.tmp 16) (.seq (rG f74 2) .ret) .skip)) (.seq (rG f74 3) (.seq (rG f74 4) (.seq (rG f74 5) (.seq (rG f74 6) .ret)))))):=by kernel_rfl
theorem Ob:f46.body=some (.seq (rG f46 0) (.seq (rG f46 1) (.seq (.seq (rG f46 2) (.cond (.tmp 18) (.seq (rG f46 3) .ret) .skip)) (.seq (rG f46 4) .ret)))):=by kernel_rfl

def aO(L:List Int):List Value:=L.map (Value.int .i64)
theorem j5(L:List Int):∀u∈aO L,u.oneCell'=true:=by
 intro u hu;obtain⟨_,_,rfl⟩:=aM2.1 hu;rfl
theorem D4{base:Nat}{e:TypeId}(h:w.ownsRow base e 1 v n xs):∀c,v.ownBlock=some c->base<=c:=λc hc=>by
 rcases h.2 with⟨rfl,_⟩|⟨g,cap,cur,rfl,h1,_⟩
 .cases hc
 .cases hc;exact h1
theorem eH{base:Nat}{e:TypeId}(h:w.ownsRow base e 1 v n xs)(hk:∀c o,v.ownBlock=some c->w.heap[c]?=some o->w'.heap[c]?=some o):w'.ownsRow base e 1 v n xs:=by
 refine⟨h.1,?_⟩;rcases h.2 with h|⟨g,cap,cur,rfl,h1,h2,h3⟩
 .exact .inl h
 .exact .inr ⟨g,cap,cur,rfl,h1,hk g _ rfl h2,h3⟩
section
variable{u:TypeId}
theorem lN{base bytes:Nat}{t e:TypeId}{z:Value}{L news:List Value}(ht:prog.underlying t=some (.slice e))(hi:(prog.info? e).map (λi=>(i.zero,i.size,i.bytes))=some (some z,1,bytes))(hzs:z.cells.size=1)(To:w.ownsRow base e 1 v n L)(hg:∀j u,news[j]?=some u->w.cell? (ad.add j)=some u)(h1:∀u∈news,u.oneCell'=true)(hm:news.length=m)(hx:ev (.tmp k)=v)(hy:ev (.tmp j)=.slice (some ad) m q)(hn:n+m<=maxLen)(Ym:(n+m)*bytes<=140737488355328)(hb:base<=w.heap.size)(o:Oper)(SS:o.op=.call {callee:=.builtin .append,args:=#[.tmp k,.tmp j],argTypes:=#[t,t]}):
 ∀e':Nat,∃v' w',(execOp ev o).run prog {w with drawn:=e'}= .ok (.value v') w'/\w'.ownsRow base e 1 v' (n+m) (L++news)/\Below base w w'/\w.grownBy w' v.ownBlock:=λe'=>by
 obtain⟨i,hi,Uh⟩:=IS.1 hi;simp only[Prod.mk.injEq]at Uh;obtain⟨v',w',h2,h3,h4,_⟩:=run_append_own (P:=prog) {w with drawn:=e'} base t o.type e i z 1 bytes ht hi Uh.1 Uh.2.1 Uh.2.2 hzs o_ v n L To ad m q news o_ hg h1 hn Ym hb;refine⟨v',w',?_,h3,p_ ((aw8 base {w with drawn:=e'}).grown h4 hb (D4 To)),⟨h4.os,h4.tape,h4.output,h4.size,h4.block⟩⟩;have e:execOp ev o=(do pure (.value (←Builtin.append_ #[t,t] o.type #[v,.slice (some ad) m q]))):=by simp[execOp,SS,resolve,hx,hy,invoke,builtin]
 rw[e];exact kx h2
theorem J6{c:Nat}(SS:o.op=.binOp .eql 24 x y u)(hx:ev x=.slice (some ⟨b,k,none⟩) l c)(hy:ev y=.slice none 0 0):(execOp ev o).run prog w=.ok (.value (.bool false)) w:=by
 have e:execOp ev o=(do pure (.value (←(do eqGuard .eql 24 x y (.slice (some ⟨b,k,none⟩) l c) (.slice none 0 0);binOp .eql 24 (.slice (some ⟨b,k,none⟩) l c) (.slice none 0 0))))):=by simp only[execOp,SS,hx,hy]
 have h2:(do pure (.value (←(do eqGuard .eql 24 x y (.slice (some ⟨b,k,none⟩) l c) (.slice none 0 0);binOp .eql 24 (.slice (some ⟨b,k,none⟩) l c) (.slice none 0 0)))):Sem Next).run prog w=.ok (.value (.bool false)) w:=by kernel_rfl
 rw[e,h2]
theorem MD(SS:o.op=.buildSlice 24 0 #[]):(execOp ev o).run prog w=.ok (.value (.sk w.heap.size 0 0)) (w.alloc (.cells #[] 3)):=by
 have e:execOp ev o=(do pure (.value (←ax5 24 0 #[]))):=by simp[execOp,SS]
 have h2:(do pure (.value (←ax5 24 0 #[])):Sem Next).run prog w=.ok (.value (.sk w.heap.size 0 0)) (w.alloc (.cells #[] 3)):=by kernel_rfl
 rw[e,h2]
theorem li{m:Int}(SS:o.op=.buildSlice 24 1 #[(0,x)])(hx:ev x=.int .i64 m):(execOp ev o).run prog w=.ok (.value (.sk w.heap.size 1 1)) (w.alloc (.cells #[.int .i64 m] 3)):=by
 have e:execOp ev o=(do pure (.value (←ax5 24 1 #[(0,.int .i64 m)]))):=by simp[execOp,SS,hx]
 have h2:(do pure (.value (←ax5 24 1 #[(0,.int .i64 m)])):Sem Next).run prog w=.ok (.value (.sk w.heap.size 1 1)) (w.alloc (.cells #[.int .i64 m] 3)):=by kernel_rfl
 rw[e,h2]
theorem MC{m:Bool}(SS:o.op=.buildSlice 42 1 #[(0,x)])(hx:ev x=.bool m):(execOp ev o).run prog w=.ok (.value (.sk w.heap.size 1 1)) (w.alloc (.cells #[.bool m] 4)):=by
 have e:execOp ev o=(do pure (.value (←ax5 42 1 #[(0,.bool m)]))):=by simp[execOp,SS,hx]
 have h2:(do pure (.value (←ax5 42 1 #[(0,.bool m)])):Sem Next).run prog w=.ok (.value (.sk w.heap.size 1 1)) (w.alloc (.cells #[.bool m] 4)):=by kernel_rfl
 rw[e,h2]
theorem MB{m:ByteArray}(SS:o.op=.buildSlice 43 1 #[(0,x)])(hx:ev x=.string m):(execOp ev o).run prog w=.ok (.value (.sk w.heap.size 1 1)) (w.alloc (.cells #[.string m] 9)):=by
 have e:execOp ev o=(do pure (.value (←ax5 43 1 #[(0,.string m)]))):=by simp[execOp,SS,hx]
 have h2:(do pure (.value (←ax5 43 1 #[(0,.string m)])):Sem Next).run prog w=.ok (.value (.sk w.heap.size 1 1)) (w.alloc (.cells #[.string m] 9)):=by kernel_rfl
 rw[e,h2]
end

theorem uo(a b:Int):pg a b=decide (0<=ja a b):=by
 unfold pg ja;by_cases h1:a=b
 .subst h1;by_cases h2:a=4080
  .subst h2;decide
  .by_cases h3:a=61455
   .subst h3;decide
   .simp[h2,h3]
 .simp[h1]
theorem Et{a b d:Int}(h:pg a b=true)(h':pg c d=true):((ja a b==1)&&(ja c d==0))=((a==4080)&&(c==61455)):=by
 unfold pg at h h';simp only[aB1,beq_iff_eq,Bool.or_eq_true]at h h';obtain⟨rfl,h⟩:=h;obtain⟨rfl,h'⟩:=h';rcases h with rfl|rfl<;>rcases h' with rfl|rfl<;>decide
theorem sd{W:List Int}(hW:dL W):G0 W=decide (0<=lF (oT W))/\(G0 W=true->lF (oT W)=pM (oT W)):=by
 have h2:=hW.2 2 o_;have h3:=hW.2 3 o_;have hM:oT W<65536:=BI o_ o_;have hK:=Ku _ hM;unfold G0;generalize oT W=M at*;unfold Pq at hK;by_cases hz:M&&&(M+1)==0
 .rw[if_pos hz]at hK;simp only[aB1,decide_eq_true_eq,beq_iff_eq]at hK;obtain⟨⟨k1,k2⟩,k3⟩:=hK;refine⟨by rw[hz,decide_eq_true k1],λ_=>?_⟩;obtain⟨n,hn⟩:=ay0 k1;rw[hn]at k2 k3⊢;rw[aE3]at k3;have ones:∀n:Nat,n<17->pM ((2:Int)^n- 1)=n:=by decide+kernel
  have e:(M:Int)=(2:Int)^n- 1:=by
   have:((M+1:Nat):Int)=((2^n:Nat):Int):=(by rw[k3]);rw[ay1]at this;have e2:((2:Nat):Int)^n=2^n:=rfl;omega
  rw[e,ones n o_]
 .rw[if_neg hz]at hK;have hl:lF M= -1:=by simpa using hK
  exact⟨by rw[hl];simpa using hz,λh=>absurd h hz⟩
def N6(f:Func):Code:=.seq (.seq (rG f 4) (.cond (.tmp 10) .skip (.exit 0))) (.seq (.block 1 (.seq (rG f 6) (.cond (.tmp 24) (.seq (rG f 7) .ret) .skip))) (rG f 5))
def Qf(f:Func):Code:=.seq (rG f 8) .ret
theorem NY:f75.body=some (.seq (rG f75 0) (.seq (.seq (rG f75 1) (.cond (.tmp 6) (.seq (rG f75 2) .ret) .skip)) (.seq (.seq (rG f75 3) (.block 0 (.loop (N6 f75)))) (Qf f75)))):=by kernel_rfl
section
variable{W:List Int}{off cap:Nat}
theorem CV(hW:dL W)(hr:w.rangeAt g off (W.map (Value.int .i64)))(nt:∀a I,aB [(2,.bool true)] 25 [] a->Rn kX Goal ((base 75).atR a (.code .ret::I)) cs w):
 ∀(m i:Nat) (a:Act),85- i=m->i<=85->aB [(0,.slice (some ⟨g,off,none⟩) 85 cap),(3,.int .i64 i)] 25 [] a->Rn kX Goal ((base 75).atR a [.code (N6 f75),.inLoop (N6 f75),.inBlock 0,.code (Qf f75)]) cs w:=by
 intro m;induction m with
 |zero=>
  intro i a hm hi J
  iterate 2 refine ao J λa J=>?_
  refine ai J (λo ho=>ix ho (J.Q 8)) λa J=>?_;refine ao J λa J=>?_;refine a9 rfl (ak _ (J.Q 10) ?_);rw[decide_eq_false o_];refine ao J λa J=>?_;exact a9 rfl (nt _ _ (J.only ⟨rfl,trivial⟩))
 |succ m ih=>
  intro i a hm hi J;have hb:=hW.2 i o_
  iterate 2 refine ao J λa J=>?_
  refine ai J (λo ho=>ix ho (J.Q 8)) λa J=>?_;refine ao J λa J=>?_;refine a9 rfl (ak _ (J.Q 10) ?_);rw[decide_eq_true o_]
  iterate 2 refine ao J λa J=>?_
  refine ai J (λo ho=>b_ i k_ ho (J.Q 13) (J.Q 14) o_) λa J=>?_;refine ai J (λo ho=>oM i hr (by rw[hW.1];omega) ho (J.Q 15)) λa J=>?_;refine ao J λa J=>?_;rw[decide_eq_false o_]at J
  iterate 3 refine ao J λa J=>?_
  refine ai J (λo ho=>b_ i k_ ho (J.Q 19) (J.Q 20) o_) λa J=>?_;refine ai J (λo ho=>oM i hr (by rw[hW.1];omega) ho (J.Q 21)) λa J=>?_;refine ao J λa J=>?_;rw[decide_eq_false o_]at J;refine ai J (λo ho=>gk ho (J.Q 18) (J.Q 23)) λa J=>?_;refine a9 rfl (ak _ (J.Q 24) ?_);refine ao J λa J=>?_;refine ai J (λo ho=>aN (n:=1) ho (J.Q 11) rfl o_) λa J=>?_;refine ao J λa J=>?_;exact a9 rfl (a9 rfl (ih (i+1) _ o_ o_ (J.only ⟨rfl,rfl,trivial⟩)))
theorem wX(hW:dL W)(hr:w.rangeAt g off (W.map (Value.int .i64))):Cl kX 75 #[.slice (some ⟨g,off,none⟩) 85 cap] w λe w'=>e=.returned (.bool true)/\w'=w:=by
 refine az (N:=25) func75 NY λcs a J=>?_
 iterate 2 refine ao J λa J=>?_
 refine ai J (λo ho=>ix ho (J.Q 4)) λa J=>?_;refine ao J λa J=>?_;refine a9 rfl (ak _ (J.Q 6) ?_);refine ao J λa J=>?_;exact a9 rfl (a9 rfl (a9 rfl (CV hW hr (λa I J=>aH J ⟨rfl,rfl⟩) 85 0 _ rfl o_ (J.only ⟨rfl,rfl,trivial⟩))))
end

theorem My{st le:Int}(SS:o.op=.build 45 #[(0,x),(2,y)])(hx:ev x=.int .i64 st)(hy:ev y=.int .i64 le):(execOp ev o).run prog w=.ok (.value (.agg (eT st le (.slice none 0 0) (.slice none 0 0)))) w:=by
 have e:execOp ev o=(do pure (.value (←ax9 45 #[(0,.int .i64 st),(2,.int .i64 le)]))):=by simp[execOp,SS,hx,hy]
 have h5:(do pure (.value (←ax9 45 #[(0,.int .i64 st),(2,.int .i64 le)])):Sem Next).run prog w=.ok (.value (.agg (eT st le (.slice none 0 0) (.slice none 0 0)))) w:=by kernel_rfl
 rw[e,h5]
theorem Mw(SS:o.op=.build 45 #[]):(execOp ev o).run prog w=.ok (.value (.agg (eT 0 0 (.slice none 0 0) (.slice none 0 0)))) w:=by
 have e:execOp ev o=(do pure (.value (←ax9 45 #[]))):=by simp[execOp,SS]
 have h5:(do pure (.value (←ax9 45 #[])):Sem Next).run prog w=.ok (.value (.agg (eT 0 0 (.slice none 0 0) (.slice none 0 0)))) w:=by kernel_rfl
 rw[e,h5]
theorem jd{W:List Int}{off:Nat}(hW:W.length=85)(hr:w.rangeAt g off (W.map (Value.int .i64)))(hb:Bw w w')(i:Nat)(hi:i<85):w'.cell? ⟨g,off+i,none⟩=some (.int .i64 (W.getD i 0)):=by
 refine aU hb (hr i _ ?_);rw[aC5,aw3 o_,aw4,aw3 o_];rfl
section
variable{W:List Int}{off cap:Nat}{p2:Value}
theorem QF(hW:dL W)(hr:w.rangeAt g off (W.map (Value.int .i64)))(J:aB [(0,.slice (some ⟨g,off,none⟩) 85 cap),(2,p2)] 142 [] a)
 (next:∀a w1 b5,Bw w w1->w.heap.size<=b5->w1.heap[b5]?=some (.cells (eT (W.getD 0 0) (lF (oT W)) (.slice none 0 0) (.slice none 0 0)) 45)->aB [(0,.slice (some ⟨g,off,none⟩) 85 cap),(2,p2),(5,.pk b5 0)] 142 [] a->Rn kX Goal ((base 101).atR a K) cs w1):
 Rn kX Goal ((base 101).atR a (.code (rD f101 4)::K)) cs w:=by
 have w2:=hW.2 2 o_;have w3:=hW.2 3 o_;have w4:=hW.2 4 o_;refine ie 15 J ?_;refine aj ?_;refine aj ?_ (y:=λo a w ho z=>b_ 0 k_ ho gx gx o_);refine aj ?_ (y:=λo a w ho z=>(av aC ho gx (jd hW.1 hr z.b 0 o_)).1);refine aj ?_;refine aj ?_ (y:=λo a w ho z=>b_ 2 k_ ho gx gx o_);refine aj ?_ (y:=λo a w ho z=>(av aC ho gx (jd hW.1 hr z.b 2 o_)).1);refine aj ?_;refine aj ?_ (y:=λo a w ho z=>b_ 3 k_ ho gx gx o_);refine aj ?_ (y:=λo a w ho z=>(av aC ho gx (jd hW.1 hr z.b 3 o_)).1);refine aj ?_;refine aj ?_ (y:=λo a w ho z=>b_ 4 k_ ho gx gx o_);refine aj ?_ (y:=λo a w ho z=>(av aC ho gx (jd hW.1 hr z.b 4 o_)).1);refine cy (v:=.int .i64 (lF (oT W))) func127 (λw _ _=>?_) ?_
 .have:=zO (p:=(W.getD 2 0).toNat) (q:=(W.getD 3 0).toNat) (r:=(W.getD 4 0).toNat) o_ o_ o_ w
  rwa [aB7 w2.1,aB7 w3.1,aB7 w4.1]at this
 refine aj ?_ (y:=λo a w ho z=>My ho gx gx);refine oD [] (V:=λb=>.pk b 0) (λu=>oE λa w' J hb hM rest hgo=>?_) (y:=λo a w ho _=>u7 ho);obtain⟨b7,rfl,q6,q7⟩:=hM.1 rfl;exact aP J (λo ho=>mp ho (J.Q 5) (J.Q 32) q7 rfl) λa J=>hgo _ _ (next a _ b7 (hb.trans (cL q6)) q6 (aZ q7) (J.only ⟨rfl,rfl,rfl,trivial⟩))
end

section
variable{W:List Int}{off cap:Nat}{le:Int}{p2 pu:Value}{t:Bool}
theorem Bq{Q:Act->WP}(hW:dL W)(hr:w.rangeAt g off (W.map (Value.int .i64)))(next:∀a w1,Bw w w1->aB [(6,.bool (t&&(W.getD 0 0==255||W.getD 0 0==3855||W.getD 0 0==13107||W.getD 0 0==21845))),(0,.slice (some ⟨g,off,none⟩) 85 cap),(2,p2),(5,.pk b5 0)] 142 [] a->Q a w1):
 Gx kX (bM f101 5) w 142 37 [] Q 13 [(45,.bool t),(0,.slice (some ⟨g,off,none⟩) 85 cap),(2,p2),(5,.pk b5 0)] []:=by
 have fin:∀{q:Bool} {F:List (Nat×Value)},F.lookup 45=some (.bool true)->F.lookup 67=some (.bool q)->F.lookup 0=some (.slice (some ⟨g,off,none⟩) 85 cap)->F.lookup 2=some p2->F.lookup 5=some (.pk b5 0)->q=(W.getD 0 0==255||W.getD 0 0==3855||W.getD 0 0==13107||W.getD 0 0==21845)->t=true->Gx kX (bM f101 5) w 142 37 [] Q 35 F []:=λ{q F} l1 l2 l3 l4 l5 hq ht=>by
  refine wh (F:=[(45,.bool true),(67,.bool q),(0,.slice (some ⟨g,off,none⟩) 85 cap),(2,p2),(5,.pk b5 0)]) ⟨l1,l2,l3,l4,l5,trivial⟩ ?_;refine aj ?_ (y:=λo a w ho z=>fN ho gx gx);refine aj ?_;exact cc λa w1 J hb _=>next a w1 hb (J.only ⟨by rw[hq,ht];rfl,rfl,rfl,rfl,trivial⟩)
 cases t with
 |false=>
  iterate 22 refine kP ?_
  refine aj ?_ (y:=λo a w ho z=>gk ho gx rfl);refine aj ?_;exact cc λa w1 J hb _=>next a w1 hb (J.only ⟨rfl,rfl,rfl,rfl,trivial⟩)
 |true=>
  refine aj ?_;refine aj ?_ (y:=λo a w ho z=>b_ (t:=24) 0 k_ ho gx rfl o_);refine aj ?_ (y:=λo a w ho z=>(av aC ho gx (jd hW.1 hr z.b 0 o_)).1)
  iterate 2 refine aj ?_
  generalize YB:W.getD 0 0=x0 at fin⊢;by_cases e0:x0=255
  .rw[show(x0==255)=true from by simpa using e0]
   iterate 4 refine kP ?_
   refine aj ?_ (y:=λo a w ho z=>fN ho gx rfl);refine aj ?_
   iterate 4 refine kP ?_
   refine aj ?_ (y:=λo a w ho z=>fN ho gx rfl);refine aj ?_
   iterate 4 refine kP ?_
   refine aj ?_ (y:=λo a w ho z=>fN ho gx rfl);exact fin rfl rfl rfl rfl rfl (by simp[e0]) rfl
  .rw[show(x0==255)=false from by simpa using e0];refine aj ?_;refine aj ?_ (y:=λo a w ho z=>b_ (t:=24) 0 k_ ho gx rfl o_);refine aj ?_ (y:=λo a w ho z=>(av aC ho gx (YB▸jd hW.1 hr z.b 0 o_)).1);refine aj ?_;refine aj ?_ (y:=λo a w ho z=>gk ho gx gx);refine aj ?_;by_cases e1:x0=3855
   .rw[show(x0==3855)=true from by simpa using e1]
    iterate 4 refine kP ?_
    refine aj ?_ (y:=λo a w ho z=>fN ho gx rfl);refine aj ?_
    iterate 4 refine kP ?_
    refine aj ?_ (y:=λo a w ho z=>fN ho gx rfl);exact fin rfl rfl rfl rfl rfl (by simp[e1]) rfl
   .rw[show(x0==3855)=false from by simpa using e1];refine aj ?_;refine aj ?_ (y:=λo a w ho z=>b_ (t:=24) 0 k_ ho gx rfl o_);refine aj ?_ (y:=λo a w ho z=>(av aC ho gx (YB▸jd hW.1 hr z.b 0 o_)).1);refine aj ?_;refine aj ?_ (y:=λo a w ho z=>gk ho gx gx);refine aj ?_;by_cases e2:x0=13107
    .rw[show(x0==13107)=true from by simpa using e2]
     iterate 4 refine kP ?_
     refine aj ?_ (y:=λo a w ho z=>fN ho gx rfl);exact fin rfl rfl rfl rfl rfl (by simp[e2]) rfl
    .rw[show(x0==13107)=false from by simpa using e2];refine aj ?_;refine aj ?_ (y:=λo a w ho z=>b_ (t:=24) 0 k_ ho gx rfl o_);refine aj ?_ (y:=λo a w ho z=>(av aC ho gx (YB▸jd hW.1 hr z.b 0 o_)).1);refine aj ?_;refine aj ?_ (y:=λo a w ho z=>gk ho gx gx);exact fin rfl rfl rfl rfl rfl (by simp[e0,e1,e2]) rfl
theorem QE(hW:dL W)(hr:w.rangeAt g off (W.map (Value.int .i64)))(h5:w.heap[b5]?=some (.cells (eT (W.getD 0 0) le (.slice none 0 0) (.slice none 0 0)) 45))(J:aB [(0,.slice (some ⟨g,off,none⟩) 85 cap),(2,p2),(5,.pk b5 0)] 142 [] a)
 (next:∀a w1,Bw w w1->aB [(6,.bool (yu W&&decide (0<=le))),(0,.slice (some ⟨g,off,none⟩) 85 cap),(2,p2),(5,.pk b5 0)] 142 [] a->Rn kX Goal ((base 101).atR a K) cs w1):
 Rn kX Goal ((base 101).atR a (.code (rD f101 5)::K)) cs w:=by
 have eb:(yu W&&decide (0<=le))=((W.getD 0 0==W.getD 1 0&&decide (le≥0))&&(W.getD 0 0==255||W.getD 0 0==3855||W.getD 0 0==13107||W.getD 0 0==21845)):=by
  unfold yu;rw[show decide (le≥0)=decide (0<=le)from rfl];generalize decide (0<=le)=x;generalize (W.getD 0 0==W.getD 1 0)=y;generalize (W.getD 0 0==255||W.getD 0 0==3855||W.getD 0 0==13107||W.getD 0 0==21845)=z;cases x<;>cases y<;>cases z<;>rfl
 rw[eb]at next
 refine cC J ?_;refine aj ?_;refine aj ?_ (y:=λo a w ho z=>b_ (t:=24) 0 k_ ho gx rfl o_);refine aj ?_ (y:=λo a w ho z=>(av aC ho gx (jd hW.1 hr z.b 0 o_)).1);refine aj ?_;refine aj ?_ (y:=λo a w ho z=>b_ (t:=24) 1 k_ ho gx rfl o_);refine aj ?_ (y:=λo a w ho z=>(av aC ho gx (jd hW.1 hr z.b 1 o_)).1)
 iterate 2 refine aj ?_
 generalize hy:(W.getD 0 0==W.getD 1 0)=y at next⊢
 cases y with
 |false=>
  iterate 3 refine kP ?_
  refine aj ?_ (y:=λo a w ho z=>gk ho gx rfl);refine aj ?_;exact wh (by exact⟨rfl,rfl,rfl,rfl,trivial⟩) (Bq (t:=false) hW hr next)
 |true=>
  refine aj ?_;refine aj ?_ (y:=λo a w ho z=>(av aC ho gx ((ar (bk z.b h5) 2).trans rfl)).1);refine aj ?_;refine aj ?_ (y:=λo a w ho z=>fN ho gx gx);refine aj ?_;exact wh (by exact⟨rfl,rfl,rfl,rfl,trivial⟩) (Bq (t:=decide (le≥0)) hW hr next)
end

theorem S8(a b:List UInt8):(ByteArray.mk a.toArray)++(ByteArray.mk b.toArray)=ByteArray.mk (a++b).toArray:=by
 apply aR2;simp
theorem fo{base:Nat}{e t:TypeId}{cs:Array Value}{fr:Nat×Nat}(h:w.ownsRow base e 1 v n xs)(hb:w.heap[b]?=some (.cells cs t fr))(ht:t≠e):some b≠v.ownBlock:=λe'=>by
 rcases h.2 with⟨rfl,_⟩|⟨g,cap,cur,rfl,_,h2,_⟩
 .cases e'
 .cases e';rw[h2]at hb;injection hb with hb;injection hb with _ hb;exact ht hb.symm
theorem lw{base:Nat}{e:TypeId}(h:w.ownsRow base e 1 v n xs):∃p c,v=.slice p n c:=by
 rcases h.2 with⟨rfl,rfl⟩|⟨g,cap,cur,rfl,_⟩
 .exact⟨_,_,rfl⟩
 .exact⟨_,_,rfl⟩
theorem cG{base:Nat}{e:TypeId}(h:w.ownsRow base e 1 v n xs)(hb:Bw w w'):w'.ownsRow base e 1 v n xs:=eH h λ_ _ _ ho=>bk hb ho
theorem eZ{base:Nat}{e t:TypeId}{cs ds:Array Value}{fr:Nat×Nat}(h:w.ownsRow base e 1 v n xs)(hb:w.heap[b]?=some (.cells cs t fr))(ht:t≠e):(put w b ds t).ownsRow base e 1 v n xs:=eH h λc _ hc ho=>(bH (by rintro rfl;exact fo h hb ht hc.symm)).trans ho
structure Rf (w0:World) (b2 b5:Nat) (st le:Int) (U:List Bool) (H:List ByteArray) (vU vH:Value) (w:World):Prop where
 old:Bw w0 w
 n2:w0.heap.size<=b2
 n5:w0.heap.size<=b5
 ne:b2≠b5
 c2:w.heap[b2]?=some (.cells (eT 0 0 (.slice none 0 0) (.slice none 0 0)) 45)
 c5:w.heap[b5]?=some (.cells (eT st le vU vH) 45)
 ou:w.ownsRow w0.heap.size 4 1 vU U.length (U.map Value.bool)
 oh:w.ownsRow w0.heap.size 9 1 vH H.length (H.map Value.string)
section
variable{st le:Int}{U:List Bool}{H:List ByteArray}{vU vH:Value}
theorem Rf.below(h:Rf w0 b2 b5 st le U H vU vH w)(hb:Bw w w'):Rf w0 b2 b5 st le U H vU vH w':=⟨ae h.old h.old.size hb,h.n2,h.n5,h.ne,bk hb h.c2,bk hb h.c5,cG h.ou hb,cG h.oh hb⟩
theorem Rf.use(h:Rf w0 b2 b5 st le U H vU vH w){q:Bool}(hl:U.length<4)(hg:w.heap[g]?=some (.cells #[.bool q] 4))(hx:ev (.tmp k)=vU)(hy:ev (.tmp j)=.sk g 1 1)(o:Oper)(SS:o.op=.call {callee:=.builtin .append,args:=#[.tmp k,.tmp j],argTypes:=#[42,42]}):
 ∀e':Nat,∃v' w',(execOp ev o).run prog {w with drawn:=e'}= .ok (.value v') w'/\(∃p c,v'= .slice p (U.length+1) c)/\w'.heap[b5]?=some (.cells (eT st le vU vH) 45)/\Rf w0 b2 b5 st le (U++[q]) H v' vH (put w' b5 (eT st le v' vH) 45):=λe'=>by
 obtain⟨v',w',h1,h2,h3,h4⟩:=lN (ev:=ev) (t:=42) (z:=.bool false) (bytes:=1) (m:=1) (q:=1) (ad:=⟨g,0,none⟩) (news:=[.bool q]) k_ k_ rfl h.ou (λj u hu=>by
  rcases j with _|j
  .cases hu;rw[az3,ar hg];rfl
  .simp at hu) (by simp[ax4]) rfl hx hy (by unfold maxLen;omega) o_ h.old.size o SS e'
 have k5:=(h4.block b5 (aA h.c5) (fo h.ou h.c5 d_)).trans h.c5;have k2:=(h4.block b2 (aA h.c2) (fo h.ou h.c2 d_)).trans h.c2;have oh:w'.ownsRow w0.heap.size 9 1 vH H.length (H.map Value.string):=eH h.oh λc ob hc ho=>(h4.block c (aA ho) (by
  rcases h.oh.2 with⟨e,_⟩|⟨g',cap,cur,e,_,e2,_⟩
  .rw[e]at hc;cases hc
  .rw[e]at hc;cases hc;exact fo h.ou e2 d_)).trans ho
 refine⟨v',w',h1,lw h2,k5,(h.old.trans h3).trans (cL h.n5),h.n2,h.n5,h.ne,(bH h.ne).trans k2,aZ k5,?_,eZ oh k5 d_⟩;rw[BY,aC1];exact eZ h2 k5 d_
theorem Rf.hash(h:Rf w0 b2 b5 st le U H vU vH w){q:ByteArray}(hl:H.length<4)(hg:w.heap[g]?=some (.cells #[.string q] 9))(hx:ev (.tmp k)=vH)(hy:ev (.tmp j)=.sk g 1 1)(o:Oper)(SS:o.op=.call {callee:=.builtin .append,args:=#[.tmp k,.tmp j],argTypes:=#[43,43]}):
 ∀e':Nat,∃v' w',(execOp ev o).run prog {w with drawn:=e'}= .ok (.value v') w'/\(∃p c,v'= .slice p (H.length+1) c)/\w'.heap[b5]?=some (.cells (eT st le vU vH) 45)/\Rf w0 b2 b5 st le U (H++[q]) vU v' (put w' b5 (eT st le vU v') 45):=λe'=>by
 obtain⟨v',w',h1,h2,h3,h4⟩:=lN (ev:=ev) (t:=43) (z:=.string ⟨#[]⟩) (bytes:=16) (m:=1) (q:=1) (ad:=⟨g,0,none⟩) (news:=[.string q]) k_ k_ rfl h.oh (λj u hu=>by
  rcases j with _|j
  .cases hu;rw[az3,ar hg];rfl
  .simp at hu) (by simp[ax4]) rfl hx hy (by unfold maxLen;omega) o_ h.old.size o SS e'
 have k5:=(h4.block b5 (aA h.c5) (fo h.oh h.c5 d_)).trans h.c5;have k2:=(h4.block b2 (aA h.c2) (fo h.oh h.c2 d_)).trans h.c2;have ou:w'.ownsRow w0.heap.size 4 1 vU U.length (U.map Value.bool):=eH h.ou λc ob hc ho=>(h4.block c (aA ho) (by
  rcases h.ou.2 with⟨e,_⟩|⟨g',cap,cur,e,_,e2,_⟩
  .rw[e]at hc;cases hc
  .rw[e]at hc;cases hc;exact fo h.oh e2 d_)).trans ho
 refine⟨v',w',h1,lw h2,k5,(h.old.trans h3).trans (cL h.n5),h.n2,h.n5,h.ne,(bH h.ne).trans k2,aZ k5,eZ ou k5 d_,?_⟩;rw[BY,aC1];exact eZ h2 k5 d_
end
def G2(f:Func):Code:=.seq (.seq (rG f 16) (.cond (.tmp 118) .skip (.exit 2))) (.seq (.block 3 (.seq (rG f 18) (rG f 19))) (rG f 17))
def G3(f:Func):Code:=.seq (.seq (rG f 7) (.cond (.tmp 70) .skip (.exit 0))) (.seq (.block 1 (.seq (rG f 9) (.seq (rD f 10) (.seq (rD f 11) (.seq (rG f 12) (.seq (rG f 13) (.seq (rG f 14) (.seq (.seq (rG f 15) (.block 2 (.loop (G2 f)))) (rG f 20))))))))) (rG f 8))
def F_(f:Func):Code:=.seq (.seq (rG f 21) (.cond (.tmp 139) (.seq (rG f 22) .ret) .skip)) (.seq (rG f 23) .ret)
theorem O0:f101.body=some (.seq (rG f101 0) (.seq (rG f101 1) (.seq (.seq (rG f101 2) (.cond (.tmp 17) (.seq (rG f101 3) .ret) .skip)) (.seq (rD f101 4) (.seq (rD f101 5) (.seq (.seq (rG f101 6) (.block 0 (.loop (G3 f101)))) (F_ f101))))))):=by kernel_rfl
section
variable{W:List Int}{off cap:Nat}{ok:Bool}{v2 v5:Value}
theorem JY(hW:dL W)(hr:w.rangeAt g off (W.map (Value.int .i64)))(hk:k<4)(nt:∀a w' h,h=(⟨(dr ((iU W k).drop 4)).toArray⟩:ByteArray)->Bw w w'->aB [(11,.string h),(0,.slice (some ⟨g,off,none⟩) 85 cap),(2,v2),(5,v5),(6,.bool ok),(7,.int .i64 k)] 142 [] a->Rn kX Goal ((base 101).atR a (.code (rG f101 20)::K)) cs w'):
 ∀(m i:Nat) (w':World) (a:Act),16- i=m->i<=16->Bw w w'->aB [(0,.slice (some ⟨g,off,none⟩) 85 cap),(2,v2),(5,v5),(6,.bool ok),(7,.int .i64 k),(8,.int .i64 ((5+20*k:Nat):Int)),(11,.string ⟨(dr (((iU W k).drop 4).take i)).toArray⟩),(12,.int .i64 i)] 142 [] a->Rn kX Goal ((base 101).atR a (.code (G2 f101):: .inLoop (G2 f101):: .inBlock 2:: .code (rG f101 20)::K)) cs w':=by
 have hlen:((iU W k).drop 4).length=16:=by simp[iU,hW.1];omega
 intro m;induction m with
 |zero=>
  intro i w' a hm hi hb J
  iterate 2 refine ao J λa J=>?_
  refine a9 rfl (ak _ (J.Q 118) ?_);rw[decide_eq_false o_];refine a9 rfl (nt _ _ _ ?_ hb (J.only ⟨rfl,rfl,rfl,rfl,rfl,rfl,trivial⟩));rw[ay5 o_]
 |succ m ih=>
  intro i w' a hm hi hb J
  iterate 2 refine ao J λa J=>?_
  refine a9 rfl (ak _ (J.Q 118) ?_);rw[decide_eq_true o_]
  iterate 2 refine ao J λa J=>?_
  refine ai J (λo ho=>aN (n:=4) ho (J.Q 122) rfl o_) λa J=>?_;refine ao J λa J=>?_;refine ai J (λo ho=>aN ho (J.Q 123) (J.Q 124) o_) λa J=>?_;refine ai J (λo ho=>b_ (t:=24) (5+20*k+4+i) k_ ho (J.Q 121) (J.Q 125) o_) λa J=>?_;refine ai J (λo ho=>(av aC ho (J.Q 126) (jd hW.1 hr hb (5+20*k+4+i) o_)).1) λa J=>?_;have hx:=hW.2 (5+20*k+4+i) o_;have ex:((iU W k).drop 4)[i]?=some (W.getD (5+20*k+4+i) 0):=by
   rw[iU,aG1,aC8,if_pos o_,aG1,aw4,show 5+20*k+(4+i)=5+20*k+4+i by omega,aw3 (by rw[hW.1];omega)];rfl
  generalize W.getD (5+20*k+4+i) 0=x at J hx ex;rw[←aB7 hx.1]at J;refine bz J func29 (gj x.toNat 2 w' d_ o_) λw1 b1 a J=>?_
  iterate 3 refine ao J λa J=>?_
  refine ai J (λo ho=>cN ho (J.Q 129) (J.Q 130) ?_) λa J=>?_
  .have:(ByteArray.mk (dr (((iU W k).drop 4).take i)).toArray).size<=32:=by
    show(dr _).toArray.size<=32;have:∀L:List Int,(dr L).length=2*L.length:=λL=>by
     induction L with
     |nil=>rfl
     |cons y L ih=>simp only[dr,aF3,BY,bJ,List.length_cons]at ih⊢;omega
    simp[this];omega
   have h2:(ByteArray.mk (cz x.toNat 2).toArray).size=2:=(by show(cz x.toNat 2).toArray.size=2;simp[bJ]);omega
  rw[show(ByteArray.mk (dr (((iU W k).drop 4).take i)).toArray++ByteArray.mk (cz x.toNat 2).toArray)=⟨(dr (((iU W k).drop 4).take (i+1))).toArray⟩from by
   rw[List.take_add_one,ex];simp only[dr,Option.toList_some,List.flatMap_append,aF3,List.flatMap_nil,List.append_nil];exact S8 _ _]at J
  iterate 2 refine ao J λa J=>?_
  refine ai J (λo ho=>aN (n:=1) ho (J.Q 119) rfl o_) λa J=>?_;refine ao J λa J=>?_;exact a9 rfl (a9 rfl (ih (i+1) w1 _ o_ o_ (ae hb hb.size b1) (J.only ⟨rfl,rfl,rfl,rfl,rfl,rfl,rfl,rfl,trivial⟩)))
end

end Go.Proofs.YtkmoglhgkcnalaaGreatDoor.L1
