/- A part of what the last text of the claim imports: texts laid together, without remarks and blanks, by a program. -/
import Derived.Deep.Slices
import Derived.Test.YtkmoglhgkcnalaaGreatDoorRows
import Derived.ProofKit
import Derived.ChangeArms
import Derived.ChangeSame
import Derived.OpenShut
import Derived.SliceStrings
import Derived.Deep.Grids
import Derived.Test.YtkmoglhgkcnalaaGreatDoorAwn5
set_option maxHeartbeats 16000000
set_option maxRecDepth 100000
open Array renaming getElem?_eq_some_iff->av9,length_toList->ax1,getElem?_setIfInBounds->aG_
open ByteArray renaming size_extract->aw6,size_append->ax3
open Decidable renaming not_not->aX9
open Go.DataW renaming trod->az4,trod_int->aB0,trod_struct->aO9,trod_string->aP_,weights->b00,Trod->b32
open Go.Ending renaming returned->aB2
open Go.Frame renaming enter->ay2
open Go.Instr renaming fieldAt->aw1,buildSlice->ax5
open Go.IntKind renaming i64->ax8,u8->aB3,wrap_u8->aD_
open Go.RowKit.Below renaming refl->aw8
open Go.Value renaming oneCell'->ax4,okWide->aS3,cells->aU5
open Go.World renaming cell?->ay_
open Int renaming eq_ofNat_of_zero_le->ay0,one_mul->aG3
open List renaming getElem?_eq_getElem->aw3,getD_eq_getElem?_getD->aw4,getElem?_eq_some_iff->aw5,range->ax_,length_append->BY,mem_cons->aC7,flatMap_cons->aF3,append_nil->aG7,getElem_mem->aH0,map_cons->aI5,getElem_set->aI8,flatMap_nil->aS2,map_nil->aS9,take->aV3,getElem?_set->aX8,drop->aY4
open Nat renaming le_refl->aw0,lt_of_lt_of_le->aw2,zero_add->aw9,zero_le->ay7
open Option renaming getD_some->az9
open UInt8 renaming ofNat->aE1
set_option linter.all false
open Go.Proofs.Tryz
open Go
variable{B N b b2 b3 cb fb fq Tp g gb hq i j k kb lb ln lq m n pb q qk qw r tb tq wb zb:Nat}{D qi rs sl:Int}{F:List (Nat×Value)}{Goal:Goroutine->World->Prop}{K k':List Item}{KS ms:List Int}{L Xn kp s seed sig:ByteArray}{S X Z:Nat->Prop}{a:Act}{ad:Addr}{args cv:Array Value}{cs:List Frame}{d:Tmp}{ds:List Deferred}{ev:Operand->Value}{f:FuncId}{fn:Func}{fr:Frame}{gd:Option (Nat×Bool)}{lp:Option Addr}{ls:List Value}{lv v:Value}{o:Oper}{ops:Array Oper}{p:Op}{rest:List Nat}{w w' Tm:World}{x y z:Operand}
namespace Go.Proofs.YtkmoglhgkcnalaaGreatDoor.L1
open Go Go.Conc Go.RowKit Go.Proofs.YtkmoglhgkcnalaaGreatDoor
def xv:ByteArray:=⟨#[76,78,84,76]⟩
theorem io:xv.size=4:=rfl
def Ru(ver:Int)(sg:Nat)(en:Int)(at_ ln:Nat)(ex:Int)(key:ByteArray):ByteArray:=xv++ob (wv ver) 2++ob (wv sg) 4++ob (wv (4*(eF en 300:Nat))) 4++ob (wv at_) 4++ob (wv (ax8.wrap (ln+ex))) 4++key
theorem Gh(ver:Int)(sg:Nat)(en:Int)(at_ ln:Nat)(ex:Int)(key:ByteArray):(Ru ver sg en at_ ln ex key).size=22+key.size:=by
 simp only[Ru,ax3,ce,io]
section
variable{ch ver en gap ex sa sw sc aa aw aq:Int}{body sm am:ByteArray}{b6:Nat}{bd key:ByteArray}{sg at_:Nat}
theorem NL(WM:w.heap[b3]?=some (.cells (Lt ch qi seed ver en gap ex body sa sw sc sm aa aw aq am) 41))(Zd: -9223372036854775808<=en/\en<9223372036854775808)(hk:key.size<=3000)
 (J:aB [(2,.pk b2 0),(3,.pk b3 0),(6,.pk b6 0),(7,.string bd),(8,.int .i64 sg),(9,.int .i64 at_),(10,.int .i64 ln),(11,.string key)] 110 [] a)
 (next:∀a w',(Bw w w'/\aB [(12,.string (Ru ver sg en at_ ln ex key)),(2,.pk b2 0),(3,.pk b3 0),(6,.pk b6 0),(7,.string bd),(8,.int .i64 sg),(9,.int .i64 at_),(10,.int .i64 ln),(11,.string key)] 110 [] a)->Rn kX Goal (fr.atR a K) cs w'):
 Rn kX Goal (fr.atR a (.code (rD f16 9)::K)) cs w:=by
 have hp:=iH en (n:=300) d_;have l3:=(av9.1 WM).1;refine cC J ?_;refine aj (v:=.pk b3 3) ?_ (y:=λo a w1 ho z=>(jV 3 3 d_ ho gx));refine aj (v:=.int .i64 ver) ?_;refine cy (v:=.string (ob (wv ver) 2)) func29 (λw1 hb _=>(j3 ver (wv ver) 2 _ d_ (wo _))) ?_;refine aj (v:=.string (xv++ob (wv ver) 2)) ?_ (y:=λo a w1 ho z=>(cN ho rfl gx (by simp only[ce,io];omega)));refine aj ?_;refine cy (v:=.string (ob (wv sg) 4)) func29 (λw1 hb _=>(j3 sg (wv sg) 4 _ d_ (wo _))) ?_;refine aj (v:=.string (xv++ob (wv ver) 2++ob (wv sg) 4)) ?_ (y:=λo a w1 ho z=>(cN ho gx gx (by simp only[ax3,ce,io];omega)));refine aj (v:=.pk b3 4) ?_ (y:=λo a w1 ho z=>(jV 4 4 d_ ho gx));refine aj (v:=.int .i64 en) ?_;refine cy (v:=.int .i64 (eF en 300:Nat)) func17 (λw1 hb _=>((gJ en 300 Zd d_ _).mono λ_ _ h=>⟨h.1,by rw[h.2];exact aw8 _ _⟩)) ?_;refine aj (v:=.int .i64 (4*(eF en 300:Nat))) ?_ (y:=λo a w1 ho z=>(qO ho rfl gx o_));refine cy (v:=.string (ob (wv (4*(eF en 300:Nat))) 4)) func29 (λw1 hb _=>(j3 (4*(eF en 300:Nat)) (wv (4*(eF en 300:Nat))) 4 _ d_ (wo _))) ?_;refine aj (v:=.string (xv++ob (wv ver) 2++ob (wv sg) 4++ob (wv (4*(eF en 300:Nat))) 4)) ?_ (y:=λo a w1 ho z=>(cN ho gx gx (by simp only[ax3,ce,io];omega)));refine aj ?_;refine cy (v:=.string (ob (wv at_) 4)) func29 (λw1 hb _=>(j3 at_ (wv at_) 4 _ d_ (wo _))) ?_;refine aj (v:=.string (xv++ob (wv ver) 2++ob (wv sg) 4++ob (wv (4*(eF en 300:Nat))) 4++ob (wv at_) 4)) ?_ (y:=λo a w1 ho z=>(cN ho gx gx (by simp only[ax3,ce,io];omega)));refine aj ?_;refine aj (v:=.pk b3 6) ?_ (y:=λo a w1 ho z=>(jV 6 6 d_ ho gx));refine aj (v:=.int .i64 ex) ?_;refine aj (v:=.int .i64 (ax8.wrap (ln+ex))) ?_ (y:=λo a w1 ho z=>(Jj (u:=3) ho gx gx));refine cy (v:=.string (ob (wv (ax8.wrap (ln+ex))) 4)) func29 (λw1 hb _=>(j3 (ax8.wrap (ln+ex)) (wv (ax8.wrap (ln+ex))) 4 _ d_ (wo _))) ?_;refine aj (v:=.string (xv++ob (wv ver) 2++ob (wv sg) 4++ob (wv (4*(eF en 300:Nat))) 4++ob (wv at_) 4++ob (wv (ax8.wrap (ln+ex))) 4)) ?_ (y:=λo a w1 ho z=>(cN ho gx gx (by simp only[ax3,ce,io];omega)));refine aj ?_;refine aj (v:=.string (xv++ob (wv ver) 2++ob (wv sg) 4++ob (wv (4*(eF en 300:Nat))) 4++ob (wv at_) 4++ob (wv (ax8.wrap (ln+ex))) 4++key)) ?_ (y:=λo a w1 ho z=>(cN ho gx gx (by simp only[ax3,ce,io];omega)));refine aj ?_;exact cc λa w' J hb _=>next a w' ⟨hb,J.O⟩
theorem KD(SY:KS.length=64)(Te:iS KS){s:Sc}{text:ByteArray}(hX:Xn=⟨(dG KS seed.data.toList).toArray⟩)(hXs:Xn.size=32)(ok:E7 s)(hsh:s.sh<=8)(Um:1<=s.n)(TZ:s.n<=34*(8/s.wd))(ht:s.t<1000)(hc:s.c<1000)(TW:s.id.size=16)(hp:s.path.size<=1000)(U8:seed.size<=140737488351232)(htx:text.size<=10000)(hC:jl KS cv w)(TF:w.heap[b2]?=some (.cells cv 26))(WM:w.heap[b3]?=some (.cells (Lt ch qi seed ver en gap ex body sa sw sc sm aa aw aq am) 41))(Tr:w.heap[b6]?=some (.cells s.cells 31))
 (J:aB [(2,.pk b2 0),(3,.pk b3 0),(6,.pk b6 0),(8,.int .i64 sg),(9,.int .i64 at_),(11,.string key),(13,.string text)] 110 [] a)
 (next:∀a w',(Bw w w'/\aB [(14,.string (CH KS s Xn text)),(2,.pk b2 0),(3,.pk b3 0),(6,.pk b6 0),(8,.int .i64 sg),(9,.int .i64 at_),(11,.string key),(13,.string text)] 110 [] a)->Rn kX Goal (fr.atR a K) cs w'):
 Rn kX Goal (fr.atR a (.code (rD f16 11)::K)) cs w:=by
 refine cC J ?_;refine aj (v:=.agg cv) ?_;refine aj (v:=.agg s.cells) ?_ (y:=λo a w1 ho z=>(ny ho gx ((z.b.block _ (av9.1 Tr).1).trans Tr)));refine aj (v:=.agg cv) ?_;refine aj (v:=.pk b3 2) ?_ (y:=λo a w1 ho z=>(jV 2 2 d_ ho gx));refine aj (v:=.string seed) ?_ (y:=λo a w1 ho z=>(av bU ho gx ((ar ((z.b.block _ (av9.1 WM).1).trans WM) 2).trans rfl)).1);refine cy (v:=.string Xn) func12 (λw1 hb _=>(kq (js KS SY Te cv seed _ (hC.mono hb) o_) (congrArg Value.string hX.symm))) ?_;refine aj ?_;refine cy (v:=.string (CH KS s Xn text)) func11 (λw1 hb _=>(EE SY Te s Xn text ok hsh Um TZ ht hc hp o_ o_ _ (hC.mono hb))) ?_;refine aj ?_;exact cc λa w' J hb _=>next a w' ⟨hb,J.O⟩
end

def Rb(b3 sg at_ r N:Nat)(text sig sm:ByteArray)(sa sw sc:Int):Nat->Value->World->Prop
 |0,v,_=>v=.string text
 |1,v,_=>v=.int .i64 at_
 |2,v,_=>v=.int .i64 sg
 |3,v,_=>v=.int .i64 r
 |4,v,w=>∃g,v=.sk g r r/\w.heap[g]?=some (.cells (madeCells #[.int .u8 0] r) 5)
 |5,v,_=>v=.string (qZ r)
 |6,v,_=>v=.string (text++qZ r)
 |7,v,_=>v=.string sig
 |8,v,_=>v=.pk b3 8
 |9,v,_=>v=.agg #[.int .i64 sa,.int .i64 sw,.int .i64 sc,.string sm]
 |10,v,_=>∃t,v=.string t/\t.size<=sig.size+sm.size
 |_,v,_=>∃t,v=.string t/\t.size<=N
theorem Rb.mono{sg at_:Nat}{text sm:ByteArray}{sa sw sc:Int}(n:Nat)(v:Value)(w w':World)(h:Rb b3 sg at_ r N text sig sm sa sw sc n v w)(hb:Bw w w'):Rb b3 sg at_ r N text sig sm sa sw sc n v w':=by
 match n,h with
 |0,h|1,h|2,h|3,h|5,h|6,h|7,h|8,h|9,h|10,h=>exact h
 |4,h=>
  obtain⟨g,e,hc⟩:=h;exact⟨g,e,bk hb hc⟩
 |n+11,h=>exact h
def SQ(b3 N:Nat)(t key:ByteArray)(aa aw:Int):Nat->Value->World->Prop
 |0,v,_=>v=.string t
 |1,v,_=>∃r,v=.string r/\r.size<=N
 |2,v,_=>v=.pk b3 12
 |3,v,_=>v=.pk b3 12
 |4,v,_=>v=.int .i64 aa
 |5,v,_=>v=.pk b3 12
 |6,v,_=>v=.pk b3 13
 |7,v,_=>v=.int .i64 aw
 |8,v,_=>v=.agg #[.int .i64 aa,.int .i64 aw,.int .i64 0,.string ⟨#[]⟩]
 |9,v,_=>∃r,v=.string r/\r.size<=N
 |10,v,_=>v=.string key
 |11,v,_=>∃r,v=.string r/\r.size<=N
 |_,v,_=>v=.string key
section
variable{ch ver en gap ex sa sw sc aa aw aq:Int}{body sm am:ByteArray}{key text t:ByteArray}{sg at_:Nat}
theorem KC(WM:w.heap[b3]?=some (.cells (Lt ch qi seed ver en gap ex body sa sw sc sm aa aw aq am) 41))(Wn:at_=sg+r)(hr:r<=8)(htx:text.size<=10000)(Tx:sig.size<=10000)(hsm:sm.size<=1125899906842624)(hsa: -9223372036854775808<=sa/\sa<9223372036854775808)(hsc: -9223372036854775808<=sc/\sc<9223372036854775808)
 (J:aB [(3,.pk b3 0),(8,.int .i64 sg),(9,.int .i64 at_),(11,.string key),(13,.string text),(14,.string sig)] 110 [] a)
 (next:∀a w' t,t.size<=20100+sm.size->Bw w w'->aB [(15,.string t),(3,.pk b3 0),(8,.int .i64 sg),(9,.int .i64 at_),(11,.string key),(13,.string text),(14,.string sig)] 110 [] a->Rn kX Goal (fr.atR a K) cs w'):
 Rn kX Goal (fr.atR a (.code (rD f16 12)::K)) cs w:=by
 have l3:=(av9.1 WM).1;have e1:(at_:Int)-(sg:Int)=(r:Int):=by omega
 refine vY J [87,88,89,90,91,92,93,94,95,96,97,98,15] (Rb b3 sg at_ r (20100+sm.size) text sig sm sa sw sc) Rb.mono (λn o a w' hn z=>?_) (λa w' hb J hs=>?_)
 .match n,hn,z with
  |0,_,z=>exact z.now (p:=.move (.tmp 13)) (λe=>by rw[cg (.inl e),z.f 13]) ⟨rfl,aw8 _ _⟩
  |1,_,z=>exact z.now (p:=.move (.tmp 9)) (λe=>by rw[cg (.inl e),z.f 9]) ⟨rfl,aw8 _ _⟩
  |2,_,z=>exact z.now (p:=.move (.tmp 8)) (λe=>by rw[cg (.inl e),z.f 8]) ⟨rfl,aw8 _ _⟩
  |3,_,z=>
   obtain⟨_,h1,rfl⟩:=z.k 1 (d:=88);obtain⟨_,h2,rfl⟩:=z.k 2 (d:=89);exact z.now (p:=.binOp .sub 3 (.tmp 88) (.tmp 89) 3) (λe=>mC e h1 h2 o_) ⟨by rw[e1];rfl,aw8 _ _⟩ (ok:=.inl ⟨pl h1,pl h2⟩)
  |4,_,z=>
   obtain⟨_,h1,rfl⟩:=z.k 3 (d:=90);exact z.now (p:=.makeSlice 83 (.tmp 90) (.tmp 90)) (λe=>lC o_ e h1 h1) ⟨⟨_,rfl,aR _ _⟩,aJ _ _⟩
  |5,_,z=>
   obtain⟨_,h1,g,rfl,hg⟩:=z.k 4 (d:=91);exact z.now (p:=.convert 83 9 (.tmp 91)) (λe=>j8 e h1 hg) ⟨rfl,aw8 _ _⟩ (ok:=⟨by kernel_rfl,pl h1⟩)
  |6,_,z=>
   obtain⟨_,h1,rfl⟩:=z.k 0 (d:=87);obtain⟨_,h2,rfl⟩:=z.k 5 (d:=92);exact z.now (p:=.binOp .add 9 (.tmp 87) (.tmp 92) 9) (λe=>cN e h1 h2 (by rw[ff];omega)) ⟨rfl,aw8 _ _⟩ (ok:=.inl ⟨pl h1,pl h2⟩)
  |7,_,z=>exact z.now (p:=.move (.tmp 14)) (λe=>by rw[cg (.inl e),z.f 14]) ⟨rfl,aw8 _ _⟩
  |8,_,z=>exact z.now (p:=.fieldAddr 41 (.tmp 3) 8) (λe=>jV 8 8 d_ e (z.f 3)) ⟨rfl,aw8 _ _⟩
  |9,_,z=>
   obtain⟨_,h1,rfl⟩:=z.k 8 (d:=95);exact z.now (p:=.load 23 (.tmp 95)) (λe=>Ff e h1 ((z.b.block _ l3).trans WM)) ⟨rfl,aw8 _ _⟩
  |10,_,z=>
   obtain⟨_,h1,rfl⟩:=z.k 7 (d:=94);obtain⟨_,h2,rfl⟩:=z.k 9 (d:=96);exact z.calls func14 (xs:=#[.tmp 94,.tmp 96]) (vs:=#[.string sig,.agg #[.int .i64 sa,.int .i64 sw,.int .i64 sc,.string sm]]) (by simp[h1,h2]) ((pz sig sa sw sc sm o_ hsm hsa hsc w').mono λe Tm ⟨r,q1,q2,q3⟩=>⟨_,q1,⟨r,rfl,q2⟩,q3⟩)
  |11,_,z=>
   obtain⟨_,h1,rfl⟩:=z.k 6 (d:=93);obtain⟨_,h2,t,rfl,ht⟩:=z.k 10 (d:=97);exact z.now (p:=.binOp .add 9 (.tmp 93) (.tmp 97) 9) (λe=>cN e h1 h2 (by rw[ax3,ff];omega)) ⟨⟨_,rfl,by rw[ax3,ax3,ff];omega⟩,aw8 _ _⟩ (ok:=.inl ⟨pl h1,pl h2⟩)
  |12,_,z=>
   obtain⟨_,h1,t,rfl,ht⟩:=z.k 11 (d:=98);exact z.now (p:=.assign (.tmp 98)) (λe=>by rw[cg (.inr e),h1]) ⟨⟨t,rfl,ht⟩,aw8 _ _⟩
  |n+13,h,_=>exact absurd h s_
 .obtain⟨_,h1,t,rfl,ht⟩:=hs 12 15 rfl;exact next a w' t ht hb (J.more h1)
theorem KB(WM:w.heap[b3]?=some (.cells (Lt ch qi seed ver en gap ex body sa sw sc sm aa aw aq am) 41))(N:Nat)(hN:N<=1125899906842624)(ht:t.size+8192<=N)(haa: -9223372036854775808<=aa/\aa<9223372036854775808)
 (J:aB [(3,.pk b3 0),(11,.string key),(15,.string t)] 110 [] a)
 (next:∀a w' r,r.size<=N->Bw w w'->aB [(4,.string r),(5,.string key)] 110 [] a->Rn kX Goal (fr.atR a K) cs w'):
 Rn kX Goal (fr.atR a (.code (rD f16 13)::K)) cs w:=by
 have l3:=(av9.1 WM).1;refine vY J [99,100,101,102,103,104,105,106,107,108,109,4,5] (SQ b3 N t key aa aw) (λn v w w' h _=>?_) (λn o a w' hn z=>?_) (λa w' hb J hs=>?_)
 .match n,h with
  |0,h|1,h|2,h|3,h|4,h|5,h|6,h|7,h|8,h|9,h|10,h|11,h=>exact h
  |n+12,h=>exact h
 .match n,hn,z with
  |0,_,z=>exact z.now (p:=.move (.tmp 15)) (λe=>by rw[cg (.inl e),z.f 15]) ⟨rfl,aw8 _ _⟩
  |1,_,z=>
   obtain⟨_,h1,rfl⟩:=z.k 0 (d:=99);exact z.calls func39 (xs:=#[.tmp 99]) (vs:=#[.string t]) (by simp[h1]) ((z_ t w').mono λe Tm ⟨r,q1,q2,q3⟩=>⟨_,q1,⟨r,rfl,by omega⟩,q3⟩)
  |2,_,z=>exact z.now (p:=.fieldAddr 41 (.tmp 3) 9) (λe=>jV 9 12 d_ e (z.f 3)) ⟨rfl,aw8 _ _⟩
  |3,_,z=>
   obtain⟨_,h1,rfl⟩:=z.k 2 (d:=101);exact z.now (p:=.fieldAddr 23 (.tmp 101) 0) (λe=>Fa 0 d_ e h1) ⟨rfl,aw8 _ _⟩
  |4,_,z=>
   obtain⟨_,h1,rfl⟩:=z.k 3 (d:=102);exact z.now (p:=.load 3 (.tmp 102)) (λe=>(av (v:=.int .i64 aa) aC e h1 ((ar ((z.b.block _ l3).trans WM) 12).trans rfl)).1) ⟨rfl,aw8 _ _⟩
  |5,_,z=>exact z.now (p:=.fieldAddr 41 (.tmp 3) 9) (λe=>jV 9 12 d_ e (z.f 3)) ⟨rfl,aw8 _ _⟩
  |6,_,z=>
   obtain⟨_,h1,rfl⟩:=z.k 5 (d:=104);exact z.now (p:=.fieldAddr 23 (.tmp 104) 1) (λe=>Fa 1 d_ e h1) ⟨rfl,aw8 _ _⟩
  |7,_,z=>
   obtain⟨_,h1,rfl⟩:=z.k 6 (d:=105);exact z.now (p:=.load 3 (.tmp 105)) (λe=>(av (v:=.int .i64 aw) aC e h1 ((ar ((z.b.block _ l3).trans WM) 13).trans rfl)).1) ⟨rfl,aw8 _ _⟩
  |8,_,z=>
   obtain⟨_,h1,rfl⟩:=z.k 4 (d:=103);obtain⟨_,h2,rfl⟩:=z.k 7 (d:=106);exact z.now (p:=.build 23 #[(0,.tmp 103),(1,.tmp 106)]) (λe=>Je e h1 h2) ⟨rfl,aw8 _ _⟩
  |9,_,z=>
   obtain⟨_,h1,r,rfl,hr⟩:=z.k 1 (d:=100);obtain⟨_,h2,rfl⟩:=z.k 8 (d:=107);exact z.calls func14 (xs:=#[.tmp 100,.tmp 107]) (vs:=#[.string r,.agg #[.int .i64 aa,.int .i64 aw,.int .i64 0,.string ⟨#[]⟩]]) (by simp[h1,h2]) ((pz r aa aw 0 ⟨#[]⟩ o_ d_ haa d_ w').mono λe Tm ⟨r',q1,q2,q3⟩=>⟨_,q1,⟨r',rfl,Nat.le_trans q2 hr⟩,q3⟩)
  |10,_,z=>exact z.now (p:=.move (.tmp 11)) (λe=>by rw[cg (.inl e),z.f 11]) ⟨rfl,aw8 _ _⟩
  |11,_,z=>
   obtain⟨_,h1,r,rfl,hr⟩:=z.k 9 (d:=108);exact z.now (p:=.assign (.tmp 108)) (λe=>by rw[cg (.inr e),h1]) ⟨⟨r,rfl,hr⟩,aw8 _ _⟩
  |12,_,z=>
   obtain⟨_,h1,rfl⟩:=z.k 10 (d:=109);exact z.now (p:=.assign (.tmp 109)) (λe=>by rw[cg (.inr e),h1]) ⟨rfl,aw8 _ _⟩
  |n+13,h,_=>exact absurd h s_
 .obtain⟨_,h1,r,rfl,hr⟩:=hs 11 4 rfl;obtain⟨_,h2,rfl⟩:=hs 12 5 rfl;exact next a w' r hr hb (((J.more h2).more h1).only ⟨rfl,rfl,trivial⟩)
end

theorem KO:f16.body=some (.seq (rG f16 0) (.seq (rG f16 1) (.seq (rG f16 2) (.seq (.seq (rG f16 3) (.cond (.tmp 28) (rG f16 4) .skip)) (.seq (rG f16 5) (.seq (rG f16 6) (.seq (rG f16 7) (.seq (rG f16 8) (.seq (rD f16 9) (.seq (rG f16 10) (.seq (rD f16 11) (.seq (rD f16 12) (.seq (rD f16 13) .ret))))))))))))):=by kernel_rfl
theorem DU(ch qi:Int)(seed:ByteArray)(ver en gap ex:Int)(body:ByteArray)(sa sw sc:Int)(sm:ByteArray)(aa aw aq:Int)(am:ByteArray)(VF: -9223372036854775808<=ch/\ch<9223372036854775808)(VS: -9223372036854775808<=qi/\qi<9223372036854775808)(Zd: -9223372036854775808<=en/\en<9223372036854775808)(hgap: -9223372036854775808<=gap/\gap<9223372036854775808)(hsa: -9223372036854775808<=sa/\sa<9223372036854775808)(hsc: -9223372036854775808<=sc/\sc<9223372036854775808)(haa: -9223372036854775808<=aa/\aa<9223372036854775808)(U8:seed.size<=140737488351232)(hsm:sm.size<=140737488351232)(w:World)(hC:jl ef cv w):
 Cl kX 16 #[.agg cv,.agg (Lt ch qi seed ver en gap ex body sa sw sc sm aa aw aq am)] w λe w'=>∃r key:ByteArray,e=.returned (.tuple #[.string r,.string key])/\r.size<=281474976000000/\key.size<=3000/\Bw w w':=by
 refine cU (t:=4) (u:=5) func16 rfl λcs=>?_;refine bv (N:=110) func16 KO λa J=>?_;refine dw J λw0 a b0 c2 z0 J=>?_;refine dw J λw1 a b1 c3 _ J=>?_;have c2:=(b1.block _ o_).trans c2;have B1:Bw w w1:=ae b0 b0.size b1;rw[z0]at J c3;refine ab J λa J=>?_;refine ab J λa J=>?_;refine ai J (λo ho=>cF hC.two ho (J.Q 2) c2) λa J=>?_;refine ai J (λo ho=>jV 0 0 d_ ho (J.Q 3)) λa J=>?_;refine ab J λa J=>?_;refine ai J (λo ho=>jV 1 1 d_ ho (J.Q 3)) λa J=>?_;refine ab J λa J=>?_;refine ai J (λo ho=>jV 2 2 d_ ho (J.Q 3)) λa J=>?_;refine ab J λa J=>?_;refine bp J func9 (R:=λv w'=>∃s:Sc,yc s/\s.seed=seed/\v=.agg (dT ef s).cells/\Bw w1 w') ((wN eD mV ch qi seed VF VS U8 w1 (hC.mono B1)).mono λe w' ⟨s,h1,h2,h3,h4⟩=>⟨_,h3,s,h1,h2,rfl,h4⟩) λv w4 hv a J=>?_;obtain⟨s,kd,rfl,rfl,Tk⟩:=hv;have B4:Bw w w4:=ae B1 B1.size Tk;have c2:=bk Tk c2;have c3:=bk Tk c3;refine bA J (λo ho=>vr ho) λw5 a TI h7 _ J=>?_;refine aP J (λo ho=>aQ (cells:=(dT ef s).cells) ho (J.Q 6) (J.Q 23) h7 ma rfl (by simp[Sc.cells,ax4])) λa J=>?_;have Tr:=setRow_heap w5 w4.heap.size _ (dT ef s).cells _ _ h7;have Up:Bw w4 (w5.setRow w4.heap.size (dT ef s).cells):=TI.trans (a_ _ _ _ (aw0 _));revert Tr Up;generalize w5.setRow w4.heap.size (dT ef s).cells=w6;intro Tr Up;have B6:Bw w w6:=ae B4 B4.size Up;have c2:=bk Up c2;have c3:=bk Up c3;clear h7 TI Up Tk B4 B1 b0 b1;obtain⟨f1,f2,f3,f4,f5,f6,f7,f8⟩:=yR kd U8;have TW:(dT ef s).id.size=16:=kd.id;refine ai J (λo ho=>jV 7 7 d_ ho (J.Q 3)) λa J=>?_
 iterate 2 refine ab J λa J=>?_
 have rest:∀(a:Act) (bd:ByteArray),bd.size<=600->aB [(7,.string bd),(2,.pk w.heap.size 0),(3,.pk (w.heap.size+1) 0),(6,.pk w4.heap.size 0)] 110 [] a->Rn kX (λg w'=>∃(a:Act) (k:List Item) (v v':Value),g=dj {(base 16).atR a k with mode:=.returning} cs/\a.defers=[]/\a.tmps[4]?=some v/\a.tmps[5]?=some v'/\∃r key:ByteArray,aB2 (.tuple #[v,v'])=.returned (.tuple #[.string r,.string key])/\r.size<=281474976000000/\key.size<=3000/\Bw w w') ((base 16).atR a [.code (.seq (rG f16 5) (.seq (rG f16 6) (.seq (rG f16 7) (.seq (rG f16 8) (.seq (rD f16 9) (.seq (rG f16 10) (.seq (rD f16 11) (.seq (rD f16 12) (.seq (rD f16 13) .ret)))))))))]) cs w6:=by
  intro a bd Yo J
  iterate 2 refine ab J λa J=>?_
  refine po J 33 (.binOp .add 3 (.const (.int .i64 78)) (.tmp 32) 3) (λo ho=>eQ ho rfl (J.Q 32) o_) λa J=>?_;rw[show(78:Int)+(bd.size:Int)=((78+bd.size:Nat):Int)from by omega]at J
  iterate 2 refine ab J λa J=>?_
  refine ai J (λo ho=>jV 5 5 d_ ho (J.Q 3)) λa J=>?_;refine ab J λa J=>?_;refine qW J 37 36 8 rfl hgap d_ λr hr a J=>?_;refine ab J λa J=>?_;rw[show((78+bd.size:Nat):Int)+(r:Int)=((78+bd.size+r:Nat):Int)from by omega]at J;refine ab J λa J=>?_;have hn:=f1.n;have hh:=f1.h
  iterate 3 refine ab J λa J=>?_
  refine po J 42 (.binOp .mul 3 (.const (.int .i64 32)) (.tmp 41) 3) (λo ho=>qO ho rfl (J.Q 41) o_) λa J=>?_;refine po J 43 (.binOp .add 3 (.const (.int .i64 40)) (.tmp 42) 3) (λo ho=>eQ ho rfl (J.Q 42) o_) λa J=>?_;refine po J 44 (.binOp .add 3 (.tmp 43) (.const (.int .i64 4)) 3) (λo ho=>eQ ho (J.Q 43) rfl o_) λa J=>?_
  iterate 3 refine ab J λa J=>?_
  refine po J 48 (.binOp .mul 3 (.const (.int .i64 32)) (.tmp 47) 3) (λo ho=>qO ho rfl (J.Q 47) o_) λa J=>?_;refine ab J λa J=>?_;rw[show(40:Int)+32*((dT ef s).n:Int)+4+32*((dT ef s).h:Int)=((44+32*(dT ef s).n+32*(dT ef s).h:Nat):Int)from by omega]at J;refine ab J λa J=>?_;refine ab J λa J=>?_;refine bz J func10 ((JU (dT ef s) f5 f6 o_ f8 w6)) λw7 UB a J=>?_;have Yj:(Gb (dT ef s)).size<=3000:=by unfold Gb;simp only[ax3,ce];omega
  have B7:Bw w w7:=ae B6 B6.size UB;have c2:=bk UB c2;have c3:=bk UB c3;have Tr:=bk UB Tr;refine ab J λa J=>?_;refine a9 rfl (a9 rfl ?_);refine NL c3 Zd Yj (J.only ⟨rfl,rfl,rfl,rfl,rfl,rfl,rfl,rfl,trivial⟩) λa w8 ⟨Y1,J⟩=>?_;have ZV:=Gh ver (78+bd.size) en (78+bd.size+r) (44+32*(dT ef s).n+32*(dT ef s).h) ex (Gb (dT ef s));revert ZV Yj J;generalize Ru ver (78+bd.size) en (78+bd.size+r) (44+32*(dT ef s).n+32*(dT ef s).h) ex (Gb (dT ef s))=hd;generalize Gb (dT ef s)=key;intro Yj J ZV;have B8:Bw w w8:=ae B7 B7.size Y1;have c2:=bk Y1 c2;have c3:=bk Y1 c3;have Tr:=bk Y1 Tr
  iterate 4 refine ab J λa J=>?_
  have htx:(hd++bd).size<=10000:=by rw[ax3];omega
  revert htx J;generalize hd++bd=text;intro J htx;refine a9 rfl (a9 rfl ?_);refine KD (s:=dT ef s) (Xn:=⟨(dG ef s.seed.data.toList).toArray⟩) eD mV rfl (dx ef _) f1 f2 f3 f4 f5 f6 TW f7 U8 htx (hC.mono B8) c2 c3 Tr (J.only ⟨rfl,rfl,rfl,rfl,rfl,rfl,rfl,trivial⟩) λa w9 ⟨Zh,J⟩=>?_;have hss:(CH ef (dT ef s) ⟨(dG ef s.seed.data.toList).toArray⟩ text).size<=10000:=by
   unfold CH;simp only[ax3,ce,m7,dx];omega
  revert hss J;generalize CH ef (dT ef s) ⟨(dG ef s.seed.data.toList).toArray⟩ text=sig;intro J hss;have B9:Bw w w9:=ae B8 B8.size Zh;have c3:=bk Zh c3;refine a9 rfl ?_;refine KC (r:=r) c3 rfl o_ htx hss o_ hsa hsc (J.only ⟨rfl,rfl,rfl,rfl,rfl,rfl,trivial⟩) λa W_ t ht hb10 J=>?_;have B10:Bw w W_:=ae B9 B9.size hb10;have c3:=bk hb10 c3;refine a9 rfl ?_;refine KB c3 281474976000000 d_ o_ haa (J.only ⟨rfl,rfl,rfl,trivial⟩) λa Zp r hr hb11 J=>?_;exact eN J ⟨r,key,rfl,hr,Yj,ae B10 B10.size hb11⟩
 iterate 2 refine ab J λa J=>?_
 refine ai J (λo ho=>oN ho (J.Q 27) rfl) λa J=>?_;refine a9 rfl (ak _ (J.Q 28) ?_);by_cases h:600<body.size
 .rw[decide_eq_true o_];refine ab J λa J=>?_;refine ai J (λo ho=>lX (n:=600) ho (J.Q 29) rfl o_) λa J=>?_;refine ab J λa J=>?_;exact a9 rfl (rest a _ (by rw[aw6];omega) (J.only ⟨rfl,rfl,rfl,rfl,trivial⟩))
 .rw[decide_eq_false o_];exact a9 rfl (rest a body o_ (J.only ⟨rfl,rfl,rfl,rfl,trivial⟩))

end Go.Proofs.YtkmoglhgkcnalaaGreatDoor.L1
namespace Go.Proofs.YtkmoglhgkcnalaaGreatDoor
open Go Go.Conc Go.RowKit Go.Proofs.YtkmoglhgkcnalaaGreatDoor.L1
def sW(x:Int):Prop:= -9223372036854775808<=x/\x<9223372036854775808
def Eg(x:Int):Prop:=0<=x/\x<65536
structure Im where
 ch:Int
 qi:Int
 seed:ByteArray
 ver:Int
 en:Int
 gap:Int
 ex:Int
 body:ByteArray
 sa:Int
 sw:Int
 sc:Int
 sm:ByteArray
 aa:Int
 aw:Int
 aq:Int
 am:ByteArray
def Im.cells(i:Im):Array Value:=Lt i.ch i.qi i.seed i.ver i.en i.gap i.ex i.body i.sa i.sw i.sc i.sm i.aa i.aw i.aq i.am
structure Im.Ok (i:Im):Prop where
 ch:sW i.ch
 qi:sW i.qi
 en:sW i.en
 gap:sW i.gap
 sa:sW i.sa
 sc:sW i.sc
 aa:sW i.aa
 seed:i.seed.size<=140737488351232
 sm:i.sm.size<=140737488351232
structure Mc where
 A:Im
 B:Im
 has:Int
 st:Int
 le:Int
 pu:Option Addr
 U:List Int
 qu:Nat
 py:Option Addr
 Y:List Int
 qy:Nat
 wd:Int
 bt:Int
 cut:Int
 kp:ByteArray
def Mc.cells(m:Mc):Array Value:=
 #[.int .i64 m.A.ch,.int .i64 m.A.qi,.string m.A.seed,.int .i64 m.A.ver,.int .i64 m.A.en,.int .i64 m.A.gap,.int .i64 m.A.ex,.string m.A.body,.int .i64 m.A.sa,.int .i64 m.A.sw,.int .i64 m.A.sc,.string m.A.sm,.int .i64 m.A.aa,.int .i64 m.A.aw,.int .i64 m.A.aq,.string m.A.am,
  .int .i64 m.B.ch,.int .i64 m.B.qi,.string m.B.seed,.int .i64 m.B.ver,.int .i64 m.B.en,.int .i64 m.B.gap,.int .i64 m.B.ex,.string m.B.body,.int .i64 m.B.sa,.int .i64 m.B.sw,.int .i64 m.B.sc,.string m.B.sm,.int .i64 m.B.aa,.int .i64 m.B.aw,.int .i64 m.B.aq,.string m.B.am,
  .int .i64 m.has,.int .i64 m.st,.int .i64 m.le,.slice m.pu m.U.length m.qu,.slice m.py m.Y.length m.qy,.int .i64 m.wd,.int .i64 m.bt,.int .i64 m.cut,.string m.kp]
structure Mc.Ok (m:Mc) (w:World):Prop where
 A:m.A.Ok
 B:m.B.Ok
 has:sW m.has
 st:sW m.st
 le:sW m.le
 use:cV w (.slice m.pu m.U.length m.qu) (aO m.U)
 us:∀x∈m.U,sW x
 who:cV w (.slice m.py m.Y.length m.qy) (aO m.Y)
 ys:∀x∈m.Y,sW x
 wd:sW m.wd
 bt:sW m.bt
 cut:sW m.cut
 kp:m.kp.size<=140737488351232
theorem Mc.Ok.below{m:Mc}(h:m.Ok w)(hb:Bw w w'):m.Ok w':=⟨h.A,h.B,h.has,h.st,h.le,h.use.below hb,h.us,h.who.below hb,h.ys,h.wd,h.bt,h.cut,h.kp⟩
theorem zB{c:Array Value}{vs:List Value}(h:(c.toList.drop i).take n=vs)(j:Nat)(u:Value)(hj:vs[j]?=some u):c[i+j]?=some u:=by
 rw[←h,List.getElem?_take]at hj;split at hj
 .rw[List.getElem?_drop]at hj;simpa using hj
 .cases hj
section
variable{u v:Operand}{m:Mc}
theorem Mu(SS:o.op=.load 41 x)(hx:ev x=.pk b 0)(h:w.heap[b]?=some (.cells m.cells 65)):(execOp ev o).run prog w=.ok (.value (.agg m.A.cells)) w:=
 gW (vs:=m.A.cells.toList) SS hx h rfl rfl k_ (zB (n:=16) rfl)
theorem Mt(SS:o.op=.load 41 x)(hx:ev x=.pk b 16)(h:w.heap[b]?=some (.cells m.cells 65)):(execOp ev o).run prog w=.ok (.value (.agg m.B.cells)) w:=
 gW (vs:=m.B.cells.toList) SS hx h rfl rfl k_ (zB (n:=16) rfl)
theorem uS(SS:o.op=.load 65 x)(hx:ev x=.pk b 0)(h:w.heap[b]?=some (.cells m.cells 65)):(execOp ev o).run prog w=.ok (.value (.agg m.cells)) w:=
 gW (vs:=m.cells.toList) SS hx h rfl rfl k_ (zB (n:=41) rfl)
theorem JE(SS:o.op=.buildSlice 24 7 #[(0,.const (.int .i64 255)),(1,.const (.int .i64 3855)),(2,.const (.int .i64 13107)),(3,.const (.int .i64 21845)),(4,.const (.int .i64 0)),(5,.const (.int .i64 65535)),(6,.const (.int .i64 254))])(he:∀v,ev (.const v)=v):(execOp ev o).run prog w=.ok (.value (.sk w.heap.size 7 7)) (w.alloc (.cells #[.int .i64 255,.int .i64 3855,.int .i64 13107,.int .i64 21845,.int .i64 0,.int .i64 65535,.int .i64 254] 3)):=by
 have e:execOp ev o=(do pure (.value (←ax5 24 7 #[(0,.int .i64 255),(1,.int .i64 3855),(2,.int .i64 13107),(3,.int .i64 21845),(4,.int .i64 0),(5,.int .i64 65535),(6,.int .i64 254)]))):=by simp[execOp,SS,he]
 have h2:(do pure (.value (←ax5 24 7 #[(0,.int .i64 255),(1,.int .i64 3855),(2,.int .i64 13107),(3,.int .i64 21845),(4,.int .i64 0),(5,.int .i64 65535),(6,.int .i64 254)])):Sem Next).run prog w=.ok (.value (.sk w.heap.size 7 7)) (w.alloc (.cells #[.int .i64 255,.int .i64 3855,.int .i64 13107,.int .i64 21845,.int .i64 0,.int .i64 65535,.int .i64 254] 3)):=by kernel_rfl
 rw[e,h2]
theorem nX{p q r s:Int}(SS:o.op=.buildSlice 24 4 #[(0,.const (.int .i64 p)),(1,.const (.int .i64 q)),(2,.const (.int .i64 r)),(3,.const (.int .i64 s))])(he:∀v,ev (.const v)=v):(execOp ev o).run prog w=.ok (.value (.sk w.heap.size 4 4)) (w.alloc (.cells #[.int .i64 p,.int .i64 q,.int .i64 r,.int .i64 s] 3)):=by
 have e:execOp ev o=(do pure (.value (←ax5 24 4 #[(0,.int .i64 p),(1,.int .i64 q),(2,.int .i64 r),(3,.int .i64 s)]))):=by simp[execOp,SS,he]
 have h2:(do pure (.value (←ax5 24 4 #[(0,.int .i64 p),(1,.int .i64 q),(2,.int .i64 r),(3,.int .i64 s)])):Sem Next).run prog w=.ok (.value (.sk w.heap.size 4 4)) (w.alloc (.cells #[.int .i64 p,.int .i64 q,.int .i64 r,.int .i64 s] 3)):=by kernel_rfl
 rw[e,h2]
theorem JD{p q:Int}(SS:o.op=.buildSlice 24 5 #[(0,x),(1,y),(2,z),(3,u),(4,v)])(hx:ev x=.int .i64 p)(hy:ev y=.int .i64 p)(hz:ev z=.int .i64 q)(hu:ev u=.int .i64 q)(hv:ev v=.int .i64 q):(execOp ev o).run prog w=.ok (.value (.sk w.heap.size 5 5)) (w.alloc (.cells #[.int .i64 p,.int .i64 p,.int .i64 q,.int .i64 q,.int .i64 q] 3)):=by
 have e:execOp ev o=(do pure (.value (←ax5 24 5 #[(0,.int .i64 p),(1,.int .i64 p),(2,.int .i64 q),(3,.int .i64 q),(4,.int .i64 q)]))):=by simp[execOp,SS,hx,hy,hz,hu,hv]
 have h2:(do pure (.value (←ax5 24 5 #[(0,.int .i64 p),(1,.int .i64 p),(2,.int .i64 q),(3,.int .i64 q),(4,.int .i64 q)])):Sem Next).run prog w=.ok (.value (.sk w.heap.size 5 5)) (w.alloc (.cells #[.int .i64 p,.int .i64 p,.int .i64 q,.int .i64 q,.int .i64 q] 3)):=by kernel_rfl
 rw[e,h2]
theorem FO{a c d f:Nat}(SS:o.op=.buildSlice 58 5 #[(0,x),(1,y),(2,z),(3,u),(4,v)])(hx:ev x=.sk a 4 4)(hy:ev y=.sk b 4 4)(hz:ev z=.sk c 4 4)(hu:ev u=.sk d 4 4)(hv:ev v=.sk f 4 4):(execOp ev o).run prog w=.ok (.value (.sk w.heap.size 5 5)) (w.alloc (.cells #[.sk a 4 4,.sk b 4 4,.sk c 4 4,.sk d 4 4,.sk f 4 4] 24)):=by
 have e:execOp ev o=(do pure (.value (←ax5 58 5 #[(0,.sk a 4 4),(1,.sk b 4 4),(2,.sk c 4 4),(3,.sk d 4 4),(4,.sk f 4 4)]))):=by simp[execOp,SS,hx,hy,hz,hu,hv]
 have h2:(do pure (.value (←ax5 58 5 #[(0,.sk a 4 4),(1,.sk b 4 4),(2,.sk c 4 4),(3,.sk d 4 4),(4,.sk f 4 4)])):Sem Next).run prog w=.ok (.value (.sk w.heap.size 5 5)) (w.alloc (.cells #[.sk a 4 4,.sk b 4 4,.sk c 4 4,.sk d 4 4,.sk f 4 4] 24)):=by kernel_rfl
 rw[e,h2]
end
theorem AC{p:Option Addr}{U:List Int}(hv:cV w (.slice p U.length q) (aO U))(hU:∀x∈U,sW x)(k:Nat):Cl kX 80 #[.slice p U.length q,.int .i64 (k:Int)] w λe w'=>∃v,e=.returned v/\(∃x,v=.int .i64 x/\sW x)/\w'=w:=by
 refine az (L:=[.slice p U.length q,.int .i64 (k:Int)]) func80 rfl λcs a J=>?_
 iterate 5 refine ab J λ_ J=>?_
 by_cases hk:k<U.length
 .refine aD true J ?_ (hq:=decide_eq_true o_);obtain⟨q0,c0,e0,hp⟩:=hv;injection e0 with e1 _ e2;subst e1 e2;obtain⟨ad,rfl,hc⟩:=hp k (.int .i64 U[k]) (by simp[aO,hk])
  iterate 2 refine ab J λ_ J=>?_
  refine ab J (hy:=by intro o ho;exact(bR (e:=3) k_ (λw=>by kernel_rfl) ho gx gx hk).1) λ_ J=>?_;refine ab J (hy:=by intro o ho;exact(av aC ho gx hc).1) λ_ J=>?_;refine ab J λ_ J=>?_;exact aH J ⟨_,rfl,⟨_,rfl,hU _ (aH0 hk)⟩,rfl⟩
 .refine aD false J ?_ (hq:=decide_eq_false o_);refine ab J λ_ J=>?_;exact aH J ⟨_,rfl,⟨0,rfl,by unfold sW;omega⟩,rfl⟩
theorem GN{n:Int}(hn:sW n):Cl kX 79 #[.int .i64 n] w λe w'=>∃v,e=.returned v/\(∃x,v=.int .i64 x/\Eg x)/\Bw w w':=by
 refine az (L:=[.int .i64 n]) func79 rfl λcs a J=>?_;refine ab J λ_ J=>?_;refine bA J (λo ho=>JE ho λ_=>rfl) λw1 _ b1 c1 z1 J=>?_
 iterate 5 refine ab J λ_ J=>?_
 refine fE J func17 (gJ n 7 hn d_ w1) λ_ J=>?_;have SX:=iH n (n:=7) d_;have hv:∃x,(#[.int .i64 255,.int .i64 3855,.int .i64 13107,.int .i64 21845,.int .i64 0,.int .i64 65535,.int .i64 254]:Array Value)[0+eF n 7]?=some (.int .i64 x)/\Eg x:=by
  revert SX;generalize eF n 7=r;intro SX;obtain rfl|rfl|rfl|rfl|rfl|rfl|rfl:r=0\/r=1\/r=2\/r=3\/r=4\/r=5\/r=6:=by omega
  all_goals exact⟨_,rfl,by unfold Eg;omega⟩
 obtain⟨x,hx,hW⟩:=hv;refine ab J (hy:=by intro o ho;exact lS ho gx gx rfl k_ o_) λ_ J=>?_;refine ab J (hy:=by intro o ho;exact de ho gx c1 hx (λ_=>by kernel_rfl)) λ_ J=>?_;refine ab J λ_ J=>?_;exact aH J ⟨_,rfl,⟨x,rfl,hW⟩,b1⟩

def N3(f:Func):Code:=.seq (.seq (rG f 15) (.cond (.tmp 64) .skip (.exit 2))) (.seq (.block 3 (rG f 17)) (rG f 16))
def RD(f:Func):Code:=.seq (rG f 14) (.block 2 (.loop (N3 f)))
def G1(f:Func):Code:=.seq (.seq (rG f 5) (.cond (.tmp 30) .skip (.exit 0))) (.seq (.block 1 (.seq (rG f 7) (.seq (rG f 8) (.seq (rG f 9) (.seq (.seq (rG f 10) (.cond (.tmp 55) (rG f 11) .skip)) (.seq (.seq (rG f 12) (.cond (.tmp 61) (rG f 13) .skip)) (RD f))))))) (rG f 6))
def FY(f:Func):Code:=.seq (rG f 18) (.seq (rD f 19) (.seq (rG f 20) .ret))
theorem NQ:f52.body=some (.seq (rG f52 0) (.seq (rG f52 1) (.seq (rG f52 2) (.seq (rG f52 3) (.seq (.seq (rG f52 4) (.block 0 (.loop (G1 f52)))) (FY f52)))))):=by kernel_rfl
structure Hd (w:World) (gb:Nat) (m:Mc) (lv:Value) (X:List Int) (w':World):Prop where
 old:Bw w w'
 box:w'.heap[gb]?=some (.cells m.cells 65)
 row:w'.ownsRow w.heap.size 3 1 lv X.length (aO X)
 all:∀x∈X,Eg x
theorem Hd.below{m:Mc}{X:List Int}(h:Hd w gb m lv X w')(hb:Bw w' Tm):Hd w gb m lv X Tm:=⟨ae h.old h.old.size hb,bk hb h.box,cG h.row hb,h.all⟩
theorem Hd.app{m:Mc}{X nw:List Int}(h:Hd w gb m lv X w')(hX:X.length<=1000)(hn:nw.length<=100)(hc:∃cur:Array Value,w'.heap[g]?=some (.cells cur 3)/\∀(i:Nat) x,nw[i]?=some x->cur[i]?=some (Value.int .i64 x))(hw:∀x∈nw,Eg x)(hx:ev (.tmp k)=lv)(hy:ev (.tmp j)=.sk g nw.length q)(o:Oper)(SS:o.op=.call {callee:=.builtin .append,args:=#[.tmp k,.tmp j],argTypes:=#[24,24]}):
 ∀e':Nat,∃v' Tm,(execOp ev o).run prog {w' with drawn:=e'}= .ok (.value v') Tm/\Hd w gb m v' (X++nw) Tm:=λe'=>by
 obtain⟨cur,hg,Vl⟩:=hc;obtain⟨v',Tm,h1,h2,h3,h4⟩:=lN (t:=24) (z:=.int .i64 0) (bytes:=8) (m:=nw.length) (news:=aO nw) k_ k_ rfl h.row (λi u hu=>by
  have hi:i<nw.length:=by have:=(aw5.1 hu).1;simpa[aO]using this
  rw[Addr.add_mid,aw9,ar hg,Vl i nw[i] (aw3 hi),←hu];simp[aO,hi]) (j5 nw) (by simp[aO]) hx hy (by unfold maxLen;omega) o_ h.old.size o SS e'
 refine⟨v',Tm,h1,h.old.trans h3,(h4.block gb (aA h.box) (fo h.row h.box d_)).trans h.box,?_,λx hx=>(List.mem_append.1 hx).elim (h.all x) (hw x)⟩;rw[BY,show aO (X++nw)=aO X++aO nw from by simp[aO]];exact h2
section
variable{m:Mc}{a b hh:ByteArray}
theorem El(ZV:hh.size=32)(hk:k<4)
 (nt:∀aa w' lv X,Hd w gb m lv X w'->X.length=5+20*(k+1)->aB [(1,.string a),(2,.string b),(3,.pk gb 0),(9,lv),(10,.int .i64 k)] 91 [] aa->Rn kX Goal ((base 52).atR aa K) cs w'):
 ∀(n i:Nat) (lv:Value) (X:List Int) (w':World) (aa:Act),16- i=n->i<=16->Hd w gb m lv X w'->X.length=9+20*k+i->aB [(1,.string a),(2,.string b),(3,.pk gb 0),(9,lv),(10,.int .i64 k),(12,.string hh),(13,.int .i64 i)] 91 [] aa->Rn kX Goal ((base 52).atR aa (.code (N3 f52):: .inLoop (N3 f52):: .inBlock 2::K)) cs w':=by
 intro n;induction n with
 |zero=>
  intro i lv X w' aa hn hi H hX J;obtain rfl:i=16:=by omega
  refine ab J λ_ J=>?_;refine ab J (v:=.bool false) (hy:=by intro o ho;rw[(ii (m:=(16:Nat)) (n:=(16:Nat)) ho gx rfl).1];rfl) λ_ J=>?_;refine aD false J ?_;exact a9 rfl (nt _ _ lv X H o_ (J.only ⟨rfl,rfl,rfl,rfl,rfl,trivial⟩))
 |succ n ih=>
  intro i lv X w' aa hn hi H hX J;refine ab J λ_ J=>?_;refine ab J λ_ J=>?_;refine aD true J ?_ (hq:=decide_eq_true o_)
  iterate 3 refine ab J λ_ J=>?_
  refine ab J (v:=.int .i64 ((2*i:Nat):Int)) (hy:=by intro o ho;exact wO (m:=2) (n:=i) ho rfl gx o_) λ_ J=>?_;refine fE J func37 (jY hh (2*i) 2 w' d_ o_ o_) λ_ J=>?_;have VV:Eg (c_ (bV hh.data.toList (2*i) (2*i+2))):=by
   have hl:=fA hh.data.toList (2*i) (2*i+2) (by have:hh.data.toList.length=hh.size:=ax1;omega);exact iB _ 2 o_
  generalize c_ (bV hh.data.toList (2*i) (2*i+2))=x at J VV;refine bA J (λo ho=>li ho (J.Q 71)) λw2 _ b2 c2 z2 J=>?_;refine L1.dX J (λo SS=>(H.below b2).app (nw:=[(x:Int)]) o_ s_ ⟨_,c2,λi y hy=>by
   rcases i with _|i
   .cases hy;rfl
   .simp at hy⟩ (by simpa using VV) (J.Q 67) (J.Q 72) o SS) λv3 w3 H3 _ J=>?_
  refine ab J λ_ J=>?_;refine ab J λ_ J=>?_;refine ab J λ_ J=>?_;refine ab J λ_ J=>?_;exact a9 rfl (a9 rfl (ih (i+1) v3 _ w3 _ o_ o_ H3 (by simp;omega) (J.only ⟨rfl,rfl,rfl,rfl,rfl,rfl,rfl,trivial⟩)))
def L9:Nat->List Int
 |0=>[4080,4080,61455,61455]
 |1=>[61455,61455,61455,61455]
 |2=>[4080,4080,4080,4080]
 |3=>[4080,61455,61455,61455]
 |_=>[4080,4080,0,0]
theorem uH(r:Nat):(L9 r).length=4:=by unfold L9;split<;>rfl
theorem HX(r:Nat):∀x∈L9 r,Eg x:=by
 unfold L9 Eg;split<;>simp<;>omega
theorem yD(hm:m.Ok w)(has:a.size=32)(hbs:b.size=32)
 (nt:∀aa w' lv X,Hd w gb m lv X w'->X.length=85->aB [(3,.pk gb 0),(9,lv)] 91 [] aa->Rn kX Goal ((base 52).atR aa [.code (FY f52)]) cs w'):
 ∀(n k:Nat) (lv:Value) (X:List Int) (w':World) (aa:Act),4- k=n->k<=4->Hd w gb m lv X w'->X.length=5+20*k->aB [(1,.string a),(2,.string b),(3,.pk gb 0),(9,lv),(10,.int .i64 k)] 91 [] aa->Rn kX Goal ((base 52).atR aa [.code (G1 f52),.inLoop (G1 f52),.inBlock 0,.code (FY f52)]) cs w':=by
 intro n;induction n with
 |zero=>
  intro k lv X w' aa hn hk H hX J;obtain rfl:k=4:=by omega
  refine ab J λ_ J=>?_;refine ab J (v:=.bool false) (hy:=by intro o ho;rw[(ii (m:=(4:Nat)) (n:=(4:Nat)) ho gx rfl).1];rfl) λ_ J=>?_;refine aD false J ?_;exact a9 rfl (nt _ _ lv X H hX (J.only ⟨rfl,rfl,trivial⟩))
 |succ n ih=>
  intro k lv X w' aa hn hk H hX J;have VW:k<4:=by omega
  refine ab J λ_ J=>?_;refine ab J λ_ J=>?_;refine aD true J ?_ (hq:=decide_eq_true o_);refine bA J (λo ho=>nX ho λ_=>rfl) λw1 _ b1 c1 z1 J=>?_;refine bA J (λo ho=>nX ho λ_=>rfl) λw2 _ b2 c2 z2 J=>?_;refine bA J (λo ho=>nX ho λ_=>rfl) λw3 _ b3 c3 z3 J=>?_;refine bA J (λo ho=>nX ho λ_=>rfl) λw4 _ b4 c4 z4 J=>?_;refine bA J (λo ho=>nX ho λ_=>rfl) λw5 _ b5 c5 z5 J=>?_;refine bA J (λo ho=>FO ho (J.Q 33) (J.Q 34) (J.Q 35) (J.Q 36) (J.Q 37)) λw6 _ b6 c6 z6 J=>?_;have d1:=bk b6 (bk b5 (bk b4 (bk b3 (bk b2 c1))));have d2:=bk b6 (bk b5 (bk b4 (bk b3 c2)));have d3:=bk b6 (bk b5 (bk b4 c3));have d4:=bk b6 (bk b5 c4);have d5:=bk b6 c5;have H6:=(((((H.below b1).below b2).below b3).below b4).below b5).below b6
  iterate 3 refine ab J λ_ J=>?_
  have hbx:=H6.box
  iterate 3 refine ab J λ_ J=>?_
  refine bp J func80 (AC (hm.use.below H6.old) hm.us k) λv w7 hv _ J=>?_;obtain⟨⟨x,rfl,hx⟩,rfl⟩:=hv;refine fE J func17 (gJ x 5 hx d_ w7) λ_ J=>?_;have SX:=iH x (n:=5) d_;generalize eF x 5=r at J SX;obtain⟨g,ZX,cur,hg2,hg3⟩:∃g,(#[.sk w'.heap.size 4 4,.sk w1.heap.size 4 4,.sk w2.heap.size 4 4,.sk w3.heap.size 4 4,.sk w4.heap.size 4 4]:Array Value)[0+r]?=some (.sk g 4 4)/\∃cur:Array Value,w7.heap[g]?=some (.cells cur 3)/\∀(i:Nat) y,(L9 r)[i]?=some y->cur[i]?=some (Value.int .i64 y):=by
   have four:∀{p q s t:Int} (i:Nat) (y:Int),([p,q,s,t]:List Int)[i]?=some y->(#[.int .i64 p,.int .i64 q,.int .i64 s,.int .i64 t]:Array Value)[i]?=some (Value.int .i64 y):=λ{p q s t} i y h=>by
    rcases i with _|_|_|_|i
    .cases h;rfl
    .cases h;rfl
    .cases h;rfl
    .cases h;rfl
    .simp at h
   obtain rfl|rfl|rfl|rfl|rfl:r=0\/r=1\/r=2\/r=3\/r=4:=by omega
   .exact⟨_,rfl,_,d1,four⟩
   .exact⟨_,rfl,_,d2,four⟩
   .exact⟨_,rfl,_,d3,four⟩
   .exact⟨_,rfl,_,d4,four⟩
   .exact⟨_,rfl,_,d5,four⟩
  refine ab J (hy:=by intro o ho;exact lS ho gx gx rfl k_ o_) λ_ J=>?_;refine ab J (hy:=by intro o ho;exact de ho gx c6 ZX (λ_=>by kernel_rfl)) λ_ J=>?_;refine L1.dX J (λo SS=>H6.app (nw:=L9 r) o_ (by rw[uH];decide) ⟨cur,hg2,hg3⟩ (HX r) (J.Q 39) (by rw[uH];exact J.Q 47) o SS) λv8 w8 H8 _ J=>?_;refine ab J λ_ J=>?_;have hX8:(X++L9 r).length=9+20*k:=by rw[BY,uH];omega
  generalize X++L9 r=X8 at H8 hX8;refine bA J (λo ho=>lC (n:=32) d_ ho rfl rfl) λw9 _ b9 c9 z9 J=>?_;refine ab J (hy:=by intro o ho;exact j8 ho gx c9) λ_ J=>?_;refine ab J λ_ J=>?_;have H9:=H8.below b9;have hbx9:=H9.box;have inner:∀{aa:Act} {hh:ByteArray},hh.size=32->aB [(12,.string hh),(1,.string a),(2,.string b),(3,.pk gb 0),(9,v8),(10,.int .i64 k)] 91 [] aa->Rn kX Goal ((base 52).atR aa [.code (RD f52),.inBlock 1,.code (rG f52 6),.inLoop (G1 f52),.inBlock 0,.code (FY f52)]) cs w9:=λ{aa hh} ZV J=>by
   refine ab J λ_ J=>?_;refine a9 rfl (a9 rfl (a9 rfl (El (a:=a) (b:=b) ZV VW (λaa W_ lv X H hX J=>?_) 16 0 v8 X8 w9 _ rfl o_ H9 o_ (J.only ⟨rfl,rfl,rfl,rfl,rfl,rfl,rfl,trivial⟩))))
   iterate 3 refine ab J λ_ J=>?_
   exact a9 rfl (a9 rfl (ih (k+1) lv X W_ _ o_ o_ H hX (J.only ⟨rfl,rfl,rfl,rfl,rfl,trivial⟩)))
  have second:∀{aa:Act} {hh:ByteArray},hh.size=32->aB [(12,.string hh),(1,.string a),(2,.string b),(3,.pk gb 0),(9,v8),(10,.int .i64 k)] 91 [] aa->Rn kX Goal ((base 52).atR aa [.code (.seq (.seq (rG f52 12) (.cond (.tmp 61) (rG f52 13) .skip)) (RD f52)),.inBlock 1,.code (rG f52 6),.inLoop (G1 f52),.inBlock 0,.code (FY f52)]) cs w9:=λ{aa hh} ZV J=>by
   iterate 3 refine ab J λ_ J=>?_
   refine bp J func80 (AC (hm.who.below H9.old) hm.ys k) λv W_ hv _ J=>?_;obtain⟨⟨y,rfl,hy⟩,rfl⟩:=hv;refine ab J λ_ J=>?_;by_cases hy1:y=1
   .refine aD true J ?_ (hq:=by simp[hy1])
    iterate 2 refine ab J λ_ J=>?_
    exact a9 rfl (inner hbs (J.only ⟨rfl,rfl,rfl,rfl,rfl,rfl,trivial⟩))
   .refine aD false J ?_ (hq:=by simp[hy1]);exact a9 rfl (inner ZV (J.only ⟨rfl,rfl,rfl,rfl,rfl,rfl,trivial⟩))
  iterate 3 refine ab J λ_ J=>?_
  refine bp J func80 (AC (hm.who.below H9.old) hm.ys k) λv W_ hv _ J=>?_;obtain⟨⟨y,rfl,hy⟩,rfl⟩:=hv;refine ab J λ_ J=>?_;by_cases hy0:y=0
  .refine aD true J ?_ (hq:=by simp[hy0])
   iterate 2 refine ab J λ_ J=>?_
   exact a9 rfl (second has (J.only ⟨rfl,rfl,rfl,rfl,rfl,rfl,trivial⟩))
  .refine aD false J ?_ (hq:=by simp[hy0]);exact a9 rfl (second (ff 32) (J.only ⟨rfl,rfl,rfl,rfl,rfl,rfl,trivial⟩))
end

theorem Pw{x y:Int}(hx:Eg x)(hy:Eg y):Eg (bits .xor .i64 x y):=by
 obtain⟨a,rfl⟩:=ay0 hx.1;obtain⟨b,rfl⟩:=ay0 hy.1;have h1:=hx.2;have h2:=hy.2;rw[pR _ _ o_ o_];have:=Nat.xor_lt_two_pow (x:=a) (y:=b) (n:=16) o_ o_;exact⟨by omega,by omega⟩
section
variable{m:Mc}{a b:ByteArray}
theorem Cj(hm:m.Ok w)(has:a.size=32)(hbs:b.size=32):Cl kX 52 #[.agg m.cells,.string a,.string b] w λe w'=>∃v,e=.returned v/\∃g cap W,v=.sk g 85 cap/\dL W/\dZ w' g W/\w.heap.size<=g/\Bw w w':=by
 refine az (N:=91) (L:=[.agg m.cells,.string a,.string b]) func52 NQ λcs _ J=>?_;refine dw J λw1 _ b1 c1 z1 J=>?_;refine ab J λ_ J=>?_
 iterate 2 refine ab J λ_ J=>?_
 refine bp J func79 (GN hm.st) λv w2 hv _ J=>?_;obtain⟨⟨s,rfl,hs⟩,b2⟩:=hv;have c2:=bk b2 c1
 iterate 3 refine ab J λ_ J=>?_
 refine fE J func17 (gJ m.le 17 hm.le d_ w2) λ_ J=>?_;have SX:=iH m.le (n:=17) d_;generalize eF m.le 17=r at J SX;have hp:(1:Int)<=2^r/\(2:Int)^r<=65536:=by
  have h1:=Nat.pow_le_pow_right (n:=2) d_ (show r<=16 by omega);have h2:=Nat.pow_pos (n:=r) (show 0<2 by decide);have e:((2^r:Nat):Int)=(2:Int)^r:=by simp
  rw[←e];omega
 refine ab J (v:=.int .i64 (2^r)) (hy:=by intro o ho;rw[g_ (m:=1) (k:=r) ho rfl gx o_ (by rw[aG3];omega),aG3]) λ_ J=>?_;refine ab J (v:=.int .i64 (2^r- 1)) (hy:=by intro o ho;exact mC ho gx rfl o_) λ_ J=>?_;generalize YB:(2:Int)^r=x0 at J hp
 iterate 6 refine ab J λ_ J=>?_
 refine bA J (λo ho=>JD ho (J.Q 23) (J.Q 24) (J.Q 25) (J.Q 26) (J.Q 27)) λw3 _ b3 c3 z3 J=>?_;have c3':=bk b3 c2;have h1s:=b1.size;have h2s:=b2.size
 iterate 2 refine ab J λ_ J=>?_
 have H3:Hd w w.heap.size m (.sk w2.heap.size 5 5) [s,s,x0- 1,x0- 1,x0- 1] w3:=by
  refine⟨ae (ae b1 b1.size b2) o_ b3,c3',⟨rfl,.inr ⟨w2.heap.size,5,_,rfl,by omega,c3,by simp,by simp[maxLen],rfl,rfl⟩⟩,?_⟩;intro x hx;simp only[aC7,List.not_mem_nil,or_false]at hx;rcases hx with rfl|rfl|rfl|rfl|rfl
  .exact hs
  .exact hs
  all_goals exact⟨by omega,by omega⟩
 refine a9 rfl (a9 rfl (a9 rfl (yD (a:=a) (b:=b) hm has hbs (λ_ w4 lv X H4 hX J=>?_) 4 0 _ _ w3 _ rfl o_ H3 rfl (J.only ⟨rfl,rfl,rfl,rfl,rfl,trivial⟩))));obtain⟨g,cap,rfl,hg,cur,W6,Vl⟩:=xA H4.row o_;rw[hX]at J;have bx4:=H4.box
 iterate 4 refine ab J λ_ J=>?_
 refine fE J func17 (gJ m.wd 85 hm.wd d_ w4) λ_ J=>?_;have XT:=iH m.wd (n:=85) d_;generalize eF m.wd 85=k at J XT;refine ab J λ_ J=>?_;have hk:=Vl k X[k] (aw3 o_);have hWk:=H4.all X[k] (aH0 _);have hlt5:=iH m.bt (n:=65536) d_;refine ut 11 J ?_
 iterate 4 refine aj ?_
 refine aj ?_ (y:=λo a w ho z=>b_ k k_ ho gx gx XT);refine aj ?_ (y:=λo a w ho z=>de ho gx (bk z.b W6) (by rw[aw9];exact hk) (λ_=>by kernel_rfl));refine aj ?_;refine aj ?_ (v:=.int .i64 m.bt) (y:=λo a w ho z=>de ho gx (bk z.b bx4) rfl (λ_=>by kernel_rfl));refine cy (v:=.int .i64 (eF m.bt 65536:Nat)) func17 (λw1 _ _=>(gJ m.bt 65536 hm.bt d_ w1).mono λ_ _ h=>⟨h.1,by rw[h.2];exact aw8 _ _⟩) ?_;refine aj ?_ (v:=.int .i64 (bits .xor .i64 X[k] (eF m.bt 65536:Nat))) (y:=λo a w ho z=>vf ho gx gx);refine aj ?_ (y:=λo a w ho z=>b_ k k_ ho gx gx XT);refine cc λ_ w5 J b5 _ rest next=>?_
 have c5:=bk b5 W6;have Yj:k<cur.size:=(av9.1 hk).1;have hWx:Eg (bits .xor .i64 X[k] (eF m.bt 65536:Nat)):=Pw hWk ⟨by omega,by omega⟩;generalize bits .xor .i64 X[k] (eF m.bt 65536:Nat)=y at J hWx;refine aP J (λo ho=>cI (v:=.int .i64 y) rfl rfl k_ ho (J.Q 89) (J.Q 88) c5 (by rw[aw9];exact Yj)) λ_ J=>next _ _ ?_
 rw[aw9];have x6:=bC (w:=w5) g (cur.setIfInBounds k (.int .i64 y)) 3;have c6:=aZ (cs:=cur.setIfInBounds k (.int .i64 y)) (t:=3) c5
 iterate 2 refine ab J λ_ J=>?_
 have h4s:=H4.old.size;have X6:Ex (λ_=>False) w (put w5 g (cur.setIfInBounds k (.int .i64 y)) 3):=((an H4.old).trans (an (X:=λ_=>False) b5) λ_ _ e=>e).trans x6 λb hb e=>by omega
 refine aH J ⟨_,rfl,g,cap,X.set k y,rfl,⟨by simp[hX],λi hi=>?_⟩,⟨_,c6,λi x hx=>?_⟩,hg,X6.os,X6.tape,X6.output,X6.size,λb hb=>X6.block b hb λe=>e⟩
 .have Tj:i<(X.set k y).length:=by simp[hX,hi]
  rw[aw4,aw3 Tj,az9,aI8];split
  .exact hWx
  .exact H4.all _ (aH0 _)
 .rw[aX8]at hx;rw[aG_];split at hx
  .rename_i e;subst e;rw[if_pos rfl,if_pos Yj];split at hx
   .cases hx;rfl
   .cases hx
  .rename_i e;rw[if_neg e];exact Vl i x hx
end

theorem C_(c:Int)(n:Nat)(hc:sW c)(w:World):Cl kX 17 #[.int .i64 c,.int .i64 (n:Int)] w λe w'=>∃v,e=.returned v/\(∃r:Nat,v=.int .i64 r/\r<=n)/\w'=w:=by
 by_cases hn:0<n
 .exact(oO c n hc hn w).mono λ_ _ ⟨r,h1,h2,h3⟩=>⟨_,h1,⟨r,rfl,by omega⟩,h3⟩
 .obtain rfl:n=0:=by omega
  refine az (L:=[.int .i64 c,.int .i64 ((0:Nat):Int)]) func17 rfl λcs a J=>?_
  iterate 3 refine ab J λ_ J=>?_
  refine aD true J ?_;refine ab J λ_ J=>?_;exact aH J ⟨_,rfl,⟨0,rfl,by omega⟩,rfl⟩
theorem vO{C:iV}{R:Ending->World->Prop}{t u s:Tmp}(hf:C.P.funcs[f]?=some fn)(TB:fn.results=#[.tmp t,.tmp u,.tmp s])
 (h:∀cs,Rn C (λg w'=>∃(a:Act) (k:List Item) (x y z:Value),g=dj {(base f).atR a k with mode:=.returning} cs/\a.defers=[]/\a.tmps[t]?=some x/\a.tmps[u]?=some y/\a.tmps[s]?=some z/\R (.returned (.tuple #[x,y,z])) w') (ay2 C.P f args .normal) cs w):Cl C f args w R:=by
 refine fB hf λcs L hG=>h cs L λfr cs' w' ⟨a,k,x,y,z,e,h1,h2,h3,h4,h5⟩=>hG _ _ _ ⟨a,k,_,e,h1,?_,h5⟩;have e1:a.tmps[t]?.getD undef=x:=by rw[h2];rfl
 have e2:a.tmps[u]?.getD undef=y:=by rw[h3];rfl
 have e3:a.tmps[s]?.getD undef=z:=by rw[h4];rfl
 simp[results,TB,e1,e2,e3]
theorem GQ{i:Im}(h:i.Ok)(w:World)(hC:jl ef cv w):Cl kX 16 #[.agg cv,.agg i.cells] w λe w'=>∃v,e=.returned v/\(∃r key:ByteArray,v=.tuple #[.string r,.string key]/\r.size<=281474976000000/\key.size<=3000)/\Bw w w':=
 (DU i.ch i.qi i.seed i.ver i.en i.gap i.ex i.body i.sa i.sw i.sc i.sm i.aa i.aw i.aq i.am h.ch h.qi h.en h.gap h.sa h.sc h.aa h.seed h.sm w hC).mono λ_ _ ⟨r,key,h1,h2,h3,h4⟩=>⟨_,h1,⟨r,key,rfl,h2,h3⟩,h4⟩
section
variable{m:Mc}{hb:Nat}
structure Pv (w:World) (m:Mc) (hb hq tb tq g2 g3:Nat) (w':World):Prop where
 old:Bw w w'
 box:w'.heap[g2]?=some (.cells m.cells 65)
 cst:w'.heap[g3]?=some (.cells #[.sk hb 8 hq,.sk tb 64 tq] 26)
theorem Pv.below{g2 g3:Nat}(h:Pv w m hb hq tb tq g2 g3 w')(b:Bw w' Tm):Pv w m hb hq tb tq g2 g3 Tm:=⟨ae h.old h.old.size b,bk b h.box,bk b h.cst⟩
def SA(f:Func):Code:=.seq (rG f 7) (.seq (.seq (rG f 8) (.cond (.tmp 43) (rG f 9) .skip)) (.seq (rD f 10) .ret))
def SB(f:Func):Code:=.seq (.seq (rG f 5) (.cond (.tmp 35) (rG f 6) .skip)) (SA f)
theorem Oj:f51.body=some (.seq (rG f51 0) (.seq (rG f51 1) (.seq (rG f51 2) (.seq (.seq (rG f51 3) (.cond (.tmp 29) (rG f51 4) .skip)) (SB f51))))):=by kernel_rfl
abbrev Sj(w:World)(cs:List Frame)(g:Goroutine)(w':World):Prop:=∃(a:Act) (k:List Item) (x y z:Value),g=dj {(base 51).atR a k with mode:=.returning} cs/\a.defers=[]/\a.tmps[4]?=some x/\a.tmps[5]?=some y/\a.tmps[6]?=some z/\∃v,aB2 (.tuple #[x,y,z])=.returned v/\(∃s a b:ByteArray,v=.tuple #[.string s,.string a,.string b]/\s.size<4611686018427387904/\a.size=32/\b.size=32)/\Bw w w'
theorem Gp(hm:m.Ok w)(hC:jl ef #[.sk hb 8 hq,.sk tb 64 tq] w){g2 g3:Nat}(H:Pv w m hb hq tb tq g2 g3 w'){s1 s2 k1 k2:ByteArray}(h1:s1.size<=281474976000000)(h2:s2.size<=281474976000000)(YV:k1.size<=3000)(WL:k2.size<=3000)(J:aB [(2,.pk g2 0),(3,.pk g3 0),(7,.string s1),(8,.string k1),(9,.string s2),(10,.string k2)] 58 [] a):
 Rn kX (Sj w cs) ((base 51).atR a [.code (SA f51)]) cs w':=by
 have bx:=H.box;have cx:=H.cst;have fin:∀{a:Act} {s:ByteArray},s.size<4611686018427387904->aB [(11,.string s),(3,.pk g3 0),(8,.string k1),(10,.string k2)] 58 [] a->Rn kX (Sj w cs) ((base 51).atR a [.code (.seq (rD f51 10) .ret)]) cs w':=λ{a s} hs J=>by
  refine qe J ?_;refine aj ?_;refine aj ?_ (y:=λo a w ho z=>cF ⟨_,_,rfl⟩ ho gx (bk z.b cx));refine aj ?_;refine cy (v:=.string ⟨(dG ef k1.data.toList).toArray⟩) func12 (λw1 SZ _=>js ef eD mV _ k1 w1 (hC.mono (ae H.old H.old.size SZ)) o_) ?_;refine aj ?_ (y:=λo a w ho z=>cF ⟨_,_,rfl⟩ ho gx (bk z.b cx));refine aj ?_;refine cy (v:=.string ⟨(dG ef k2.data.toList).toArray⟩) func12 (λw1 SZ _=>js ef eD mV _ k2 w1 (hC.mono (ae H.old H.old.size SZ)) o_) ?_
  iterate 3 refine aj ?_
  refine cc λa w1 J b1 _=>?_;exact aS rfl (.inr ⟨_,rfl⟩) (bj ⟨a,_,_,_,_,rfl,J.defers,J.slot 4 _ rfl,J.slot 5 _ rfl,J.slot 6 _ rfl,_,rfl,⟨s,_,_,rfl,hs,dx _ _,dx _ _⟩,ae H.old H.old.size b1⟩)
 iterate 2 refine ab J λ_ J=>?_
 refine ab J (v:=.string (s1++s2)) (hy:=by intro o ho;exact cN ho gx gx o_) λ_ J=>?_;have hs12:(s1++s2).size<=562949952000000:=by rw[ax3];omega
 generalize s1++s2=s at J hs12
 iterate 3 refine ab J λ_ J=>?_
 refine ab J (v:=.bool (decide (m.cut>0))) (hy:=by intro o ho;exact oN ho gx rfl) λ_ J=>?_;by_cases hc:m.cut>0
 .refine aD true J ?_ (hq:=decide_eq_true hc)
  iterate 5 refine ab J λ_ J=>?_
  refine bp J func17 (C_ m.cut s.size hm.cut w') λv w2 hv _ J=>?_;obtain⟨⟨r,rfl,hr⟩,rfl⟩:=hv;refine ab J (hy:=by intro o ho;exact qJ ho gx gx k_ hr) λ_ J=>?_;refine ab J λ_ J=>?_;exact a9 rfl (fin (by rw[aw6];omega) (J.only ⟨rfl,rfl,rfl,rfl,trivial⟩))
 .refine aD false J ?_ (hq:=decide_eq_false hc);exact a9 rfl (fin o_ (J.only ⟨rfl,rfl,rfl,rfl,trivial⟩))
theorem Ly(h:n<=8192):(qZ n).size<=281474976000000:=by rw[ff];omega
theorem Dq(hm:m.Ok w)(hC:jl ef #[.sk hb 8 hq,.sk tb 64 tq] w):Cl kX 51 #[.agg m.cells,.agg #[.sk hb 8 hq,.sk tb 64 tq]] w λe w'=>∃v,e=.returned v/\(∃s a b:ByteArray,v=.tuple #[.string s,.string a,.string b]/\s.size<4611686018427387904/\a.size=32/\b.size=32)/\Bw w w':=by
 refine vO (t:=4) (u:=5) (s:=6) func51 rfl λcs=>?_;refine bv (N:=58) (L:=[.agg m.cells,.agg #[.sk hb 8 hq,.sk tb 64 tq]]) func51 Oj λa J=>?_;refine dw J λw1 _ b1 c1 z1 J=>?_;refine dw J λw2 _ b2 c2 z2 J=>?_;have H2:Pv w m hb hq tb tq w.heap.size w1.heap.size w2:=⟨ae b1 b1.size b2,bk b2 c1,c2⟩;have c1:=H2.box
 iterate 3 refine ab J λ_ J=>?_
 refine ab J (hy:=by intro o ho;exact cF ⟨_,_,rfl⟩ ho gx c2) λ_ J=>?_;refine ab J λ_ J=>?_;refine ab J (hy:=by intro o ho;exact Mu ho gx c1) λ_ J=>?_;refine bp J func16 (GQ hm.A w2 (hC.mono H2.old)) λv w3 hv _ J=>?_;obtain⟨⟨s1,k1,rfl,UE,YV⟩,b3⟩:=hv;have H3:=H2.below b3;have c3:=H3.box;have d3:=H3.cst
 iterate 5 refine ab J λ_ J=>?_
 refine ab J (hy:=by intro o ho;exact cF ⟨_,_,rfl⟩ ho gx d3) λ_ J=>?_;refine ab J λ_ J=>?_;refine ab J (hy:=by intro o ho;exact Mt ho gx c3) λ_ J=>?_;refine bp J func16 (GQ hm.B w3 (hC.mono H3.old)) λv w4 hv _ J=>?_;obtain⟨⟨s2,k2,rfl,Vp,WL⟩,b4⟩:=hv;have H4:=H3.below b4;have c4:=H4.box
 iterate 5 refine ab J λ_ J=>?_
 have five:∀{a:Act} {w5:World} {s1:ByteArray},s1.size<=281474976000000->Pv w m hb hq tb tq w.heap.size w1.heap.size w5->aB [(7,.string s1),(2,.pk w.heap.size 0),(3,.pk w1.heap.size 0),(8,.string k1),(9,.string s2),(10,.string k2)] 58 [] a->Rn kX (Sj w cs) ((base 51).atR a [.code (SB f51)]) cs w5:=λ{a w5 s1} UE H5 J=>by
  have c5:=H5.box
  iterate 2 refine ab J λ_ J=>?_
  refine ab J (v:=.int .i64 (bits .and .i64 m.has 2)) (hy:=by intro o ho;exact dz ho gx gx rfl) λ_ J=>?_;refine ab J (v:=.bool (bits .and .i64 m.has 2==0)) (hy:=by intro o ho;exact dz ho gx gx rfl) λ_ J=>?_;cases XK:(bits .and .i64 m.has 2==0)with
  |true=>
   refine aD true J ?_ (hq:=XK);refine bA J (λo ho=>lC (n:=8192) d_ ho rfl rfl) λw6 _ b6 c6 z6 J=>?_;refine ab J (hy:=by intro o ho;exact j8 ho gx c6) λ_ J=>?_;refine ab J λ_ J=>?_;exact a9 rfl (Gp hm hC (H5.below b6) UE (Ly (aw0 _)) YV WL (J.only ⟨rfl,rfl,rfl,rfl,rfl,rfl,trivial⟩))
  |false=>
   refine aD false J ?_ (hq:=XK);exact a9 rfl (Gp hm hC H5 UE Vp YV WL (J.only ⟨rfl,rfl,rfl,rfl,rfl,rfl,trivial⟩))
 iterate 2 refine ab J λ_ J=>?_
 refine ab J (v:=.int .i64 (bits .and .i64 m.has 1)) (hy:=by intro o ho;exact dz ho gx gx rfl) λ_ J=>?_;refine ab J (v:=.bool (bits .and .i64 m.has 1==0)) (hy:=by intro o ho;exact dz ho gx gx rfl) λ_ J=>?_;cases hq1:(bits .and .i64 m.has 1==0)with
 |true=>
  refine aD true J ?_ (hq:=hq1);refine bA J (λo ho=>lC (n:=8192) d_ ho rfl rfl) λw6 _ b6 c6 z6 J=>?_;refine ab J (hy:=by intro o ho;exact j8 ho gx c6) λ_ J=>?_;refine ab J λ_ J=>?_;exact a9 rfl (five (Ly (aw0 _)) (H4.below b6) (J.only ⟨rfl,rfl,rfl,rfl,rfl,rfl,trivial⟩))
 |false=>
  refine aD false J ?_ (hq:=hq1);exact a9 rfl (five UE H4 (J.only ⟨rfl,rfl,rfl,rfl,rfl,rfl,trivial⟩))
end

def Hu(B hb hq tb tq pb:Nat)(w:World):Prop:=∃lb cb fb fq rb fr Tp wb qw kb qk L W K,dL W/\fY w pb lb cb fb fq rb fr Tp wb qw kb qk hb hq tb tq ef W K L false 0 false 0 (.slice none 0 0) (.slice none 0 0) [] []/\(B<=pb/\B<=lb/\B<=cb/\B<=fb/\B<=rb/\B<=fr/\B<=wb/\B<=kb)
theorem Hu.below{hb:Nat}(h:Hu B hb hq tb tq pb w)(b:Bw w w'):Hu B hb hq tb tq pb w':=
 let ⟨lb,cb,fb,fq,rb,fr,Tp,wb,qw,kb,qk,L,W,K,h1,h2,h3⟩:=h
 ⟨lb,cb,fb,fq,rb,fr,Tp,wb,qw,kb,qk,L,W,K,h1,h2.below b,h3⟩
theorem dZ.below{W:List Int}(h:dZ w g W)(b:Bw w w'):dZ w' g W:=h.keep (an (X:=λ_=>False) b) (λe=>e)
def Ra(B hb hq tb tq:Nat)(m:Mc)(s a b kp:ByteArray):Nat->Value->World->Prop
 |0,v,_=>v=.agg #[.sk hb 8 hq,.sk tb 64 tq]
 |1,v,_=>v=.string s
 |2,v,_=>v=.agg m.cells
 |3,v,_=>v=.string a
 |4,v,_=>v=.string b
 |5,v,w=>∃g cap W,v=.sk g 85 cap/\dL W/\dZ w g W
 |6,v,_=>v=.string kp
 |7,v,_=>v=.string (kp.extract 0 16)
 |8,v,w=>∃pb,v=.tuple #[.pk pb 0,.bool true]/\Hu B hb hq tb tq pb w
 |9,v,w=>∃pb,v=.pk pb 0/\Hu B hb hq tb tq pb w
 |10,v,_=>v=.bool true
 |11,v,w=>∃pb,v=.pk pb 0/\Hu B hb hq tb tq pb w
 |_,v,_=>v=.bool true
theorem Ra.mono{hb:Nat}{m:Mc}{a b:ByteArray}(n:Nat)(v:Value)(w w':World)(h:Ra B hb hq tb tq m s a b kp n v w)(Ud:Bw w w'):Ra B hb hq tb tq m s a b kp n v w':=by
 match n,h with
 |0,h|1,h|2,h|3,h|4,h|6,h|7,h|10,h=>exact h
 |5,h=>
  obtain⟨g,cap,W,e,h1,h2⟩:=h;exact⟨g,cap,W,e,h1,dZ.below h2 Ud⟩
 |8,h=>
  obtain⟨pb,e,h1⟩:=h;exact⟨pb,e,h1.below Ud⟩
 |9,h=>
  obtain⟨pb,e,h1⟩:=h;exact⟨pb,e,h1.below Ud⟩
 |11,h=>
  obtain⟨pb,e,h1⟩:=h;exact⟨pb,e,h1.below Ud⟩
 |n+12,h=>exact h
section
variable{m:Mc}{hb:Nat}
theorem xr(hm:m.Ok w)(hh:dZ w hb H0)(ht:dZ w tb ef):Cl kX 24 #[.agg m.cells,.agg #[.sk hb 8 hq,.sk tb 64 tq]] w λe w'=>∃v,e=.returned v/\(∃pb,v=.tuple #[.pk pb 0,.bool true]/\Hu w.heap.size hb hq tb tq pb w')/\Bw w w':=by
 have hC:jl ef #[.sk hb 8 hq,.sk tb 64 tq] w:=⟨hb,hq,tb,tq,rfl,hh.rng,hh.lt,ht.rng,ht.lt⟩;refine cU (t:=4) (u:=5) func24 rfl λcs=>?_;refine bv (N:=35) (L:=[.agg m.cells,.agg #[.sk hb 8 hq,.sk tb 64 tq]]) func24 rfl λa J=>?_;refine dw J λw1 _ b1 c1 z1 J=>?_;refine dw J λw2 _ b2 c2 z2 J=>?_;have c1:=bk b2 c1;have B2:=ae b1 b1.size b2
 iterate 2 refine ab J λ_ J=>?_
 refine ab J (hy:=by intro o ho;exact uS ho gx c1) λ_ J=>?_;refine ab J (hy:=by intro o ho;exact cF ⟨_,_,rfl⟩ ho gx c2) λ_ J=>?_;refine bp J func51 (Dq (hm.below B2) (hC.mono B2)) λv w3 hv _ J=>?_;obtain⟨⟨s,a,b,rfl,hs,ha,S_⟩,b3⟩:=hv;have c1:=bk b3 c1;have c2:=bk b3 c2;have B3:=ae B2 B2.size b3
 iterate 10 refine ab J λ_ J=>?_
 refine gQ (λkp a' w'=>w'=w3/\kp.size<=140737488351300/\aB [(2,.pk w.heap.size 0),(3,.pk w1.heap.size 0),(6,.string s),(7,.string a),(8,.string b),(9,.string kp)] 35 [] a') (λkp:ByteArray=>16- kp.size) m.kp ⟨rfl,by have:=hm.kp;omega,J.only ⟨rfl,rfl,rfl,rfl,rfl,rfl,trivial⟩⟩ ?_;clear J;intro kp a' w' ⟨Wr,Yj,J⟩ ih;subst Wr
 iterate 3 refine ab J λ_ J=>?_
 by_cases SX:kp.size<16
 .refine aD true J ?_ (hq:=decide_eq_true o_);refine ab J λ_ J=>?_;refine ab J (v:=.string (kp++⟨#[5]⟩)) (hy:=by intro o ho;exact cN ho gx rfl (by show kp.size+1<=_;omega)) λ_ J=>?_;refine ab J λ_ J=>?_;have e1:(kp++⟨#[5]⟩).size=kp.size+1:=by rw[ax3];rfl
  exact gA (ih (kp++⟨#[5]⟩) _ _ ⟨rfl,by omega,J.only ⟨rfl,rfl,rfl,rfl,rfl,rfl,trivial⟩⟩ o_)
 refine aD false J ?_ (hq:=decide_eq_false o_);clear ih;have J:=J.only (G:=[(2,.pk w.heap.size 0),(3,.pk w1.heap.size 0),(6,.string s),(7,.string a),(8,.string b),(9,.string kp)]) ⟨rfl,rfl,rfl,rfl,rfl,rfl,trivial⟩;refine jj 8 _ ?_;refine vY (fx:=[(2,.pk w.heap.size 0),(3,.pk w1.heap.size 0),(6,.string s),(7,.string a),(8,.string b),(9,.string kp)]) J [24,25,26,27,28,29,30,31,32,33,34,4,5] (Ra w.heap.size hb hq tb tq m s a b kp) Ra.mono (λn o a' w4 hn z=>?_) (λa' w4 Tk J hs=>?_)
 .have B4:=ae B3 B3.size z.b
  match n,hn,z with
  |0,_,z=>exact z.now (p:=.load 26 (.tmp 3)) (λe=>cF ⟨_,_,rfl⟩ e (z.f 3) (bk z.b c2)) ⟨rfl,aw8 _ _⟩
  |1,_,z=>exact z.now (p:=.move (.tmp 6)) (λe=>CY e (z.f 6)) ⟨rfl,aw8 _ _⟩
  |2,_,z=>exact z.now (p:=.load 65 (.tmp 2)) (λe=>uS e (z.f 2) (bk z.b c1)) ⟨rfl,aw8 _ _⟩
  |3,_,z=>exact z.now (p:=.move (.tmp 7)) (λe=>CY e (z.f 7)) ⟨rfl,aw8 _ _⟩
  |4,_,z=>exact z.now (p:=.move (.tmp 8)) (λe=>CY e (z.f 8)) ⟨rfl,aw8 _ _⟩
  |5,_,z=>
   obtain⟨_,h1,rfl⟩:=z.k 2 (d:=26);obtain⟨_,h2,rfl⟩:=z.k 3 (d:=27);obtain⟨_,h3,rfl⟩:=z.k 4 (d:=28);exact z.calls func52 (xs:=#[.tmp 26,.tmp 27,.tmp 28]) (vs:=#[.agg m.cells,.string a,.string b]) (by simp[h1,h2,h3]) ((Cj (hm.below B4) ha S_).mono λ_ _ ⟨v,h1,g,cap,W,h2,h3,h4,_,h6⟩=>⟨v,h1,⟨g,cap,W,h2,h3,h4⟩,h6⟩)
  |6,_,z=>exact z.now (p:=.move (.tmp 9)) (λe=>CY e (z.f 9)) ⟨rfl,aw8 _ _⟩
  |7,_,z=>
   obtain⟨_,h1,rfl⟩:=z.k 6 (d:=30);exact z.now (p:=.slice 9 (.tmp 30) none (some (.const (.int .i64 16))) none) (λe=>qJ (n:=16) e h1 rfl k_ o_) ⟨rfl,aw8 _ _⟩
  |8,_,z=>
   obtain⟨_,h1,rfl⟩:=z.k 0 (d:=24);obtain⟨_,h2,rfl⟩:=z.k 1 (d:=25);obtain⟨_,h3,g,cap,W,rfl,hW,hg⟩:=z.k 5 (d:=29);obtain⟨_,h4,rfl⟩:=z.k 7 (d:=31);have h4s:=B4.size;exact z.calls func21 (xs:=#[.tmp 24,.tmp 25,.tmp 29,.tmp 31]) (vs:=#[.agg #[.sk hb 8 hq,.sk tb 64 tq],.string s,.sk g 85 cap,.string (kp.extract 0 16)]) (by simp[h1,h2,h3,h4]) ((DZ hs (by rw[aw6];omega) hW hg (dZ.below hh B4) (dZ.below ht B4)).mono λ_ _ ⟨v,h1,pb,lb,cb,fb,fq,rb,fr,Tp,wb,qw,kb,qk,h2,h3⟩=>⟨v,h1,⟨pb,h2,lb,cb,fb,fq,rb,fr,Tp,wb,qw,kb,qk,_,_,_,hW,h3.both,by have:=h3.at';omega⟩,h3.below⟩)
  |9,_,z=>
   obtain⟨_,h1,pb,rfl,hM⟩:=z.k 8 (d:=32);exact z.now (p:=.extract (.tmp 32) 0) (λe=>jt e h1 rfl) ⟨⟨pb,rfl,hM⟩,aw8 _ _⟩
  |10,_,z=>
   obtain⟨_,h1,pb,rfl,hM⟩:=z.k 8 (d:=32);exact z.now (p:=.extract (.tmp 32) 1) (λe=>jt e h1 rfl) ⟨rfl,aw8 _ _⟩
  |11,_,z=>
   obtain⟨_,h1,pb,rfl,hM⟩:=z.k 9 (d:=33);exact z.now (p:=.assign (.tmp 33)) (λe=>vj e h1) ⟨⟨pb,rfl,hM⟩,aw8 _ _⟩
  |12,_,z=>
   obtain⟨_,h1,rfl⟩:=z.k 10 (d:=34);exact z.now (p:=.assign (.tmp 34)) (λe=>vj e h1) ⟨rfl,aw8 _ _⟩
  |n+13,h,_=>exact absurd h s_
 .obtain⟨_,h1,pb,rfl,hM⟩:=hs 11 4 rfl;obtain⟨_,h2,rfl⟩:=hs 12 5 rfl;exact aS rfl (.inr ⟨_,rfl⟩) (bj ⟨a',_,_,_,rfl,J.defers,h1,h2,_,rfl,⟨pb,rfl,hM⟩,ae B3 B3.size Tk⟩)
end

end Go.Proofs.YtkmoglhgkcnalaaGreatDoor
namespace Go.Proofs.YtkmoglhgkcnalaaGreatDoor.L1
open Go Go.Conc Go.RowKit Go.Proofs.YtkmoglhgkcnalaaGreatDoor
def uK(L:ByteArray)(i:Nat)(v:Int):ByteArray:=⟨(L.data.toList.set i (aE1 v.toNat)).toArray⟩
theorem jP(L:ByteArray)(i:Nat)(v:Int):(uK L i v).size=L.size:=by
 show(L.data.toList.set i (aE1 v.toNat)).toArray.size=L.data.size;simp
def eY(n:Nat)(on:Bool)(sl p q:Int):Int:=if p<0\/n<=p\/q<0\/255<q then 11 else if on=false then 12 else if p/8192=sl then 13 else 0
def iT(L:ByteArray)(on:Bool)(sl p q:Int):ByteArray:=if eY L.size on sl p q=0 then uK L p.toNat q else L
def fW(on:Bool)(p q:Int):Int:=if p<0\/85<=p\/q<0\/65535<q then 11 else if on=false then 12 else if 5<=p then 13 else 0
def lK(W:List Int)(on:Bool)(p q:Int):List Int:=if fW on p q=0 then W.set p.toNat (bits .or .i64 (W.getD p.toNat 0) q)else W
theorem zf(L:ByteArray)(on:Bool)(sl p q:Int):(iT L on sl p q).size=L.size:=by
 unfold iT;split
 .exact jP ..
 .rfl
theorem j7.set(h:j7 w (.sk fb L.size fq) L){v:Int}(hi:i<L.size)(hv:0<=v/\v<256):
 (∀{ev:Operand->Value} {o:Oper} {x y:Operand},o.op=.store 5 x y->ev x=.pk fb i->ev y=.int .u8 v->(execOp ev o).run prog w=.ok .skip (w.setCell ⟨fb,i,none⟩ (.int .u8 v)))/\j7 (w.setCell ⟨fb,i,none⟩ (.int .u8 v)) (.sk fb L.size fq) (uK L i v):=by
 obtain⟨h0,b,c,cells,fr,e,TX,XY,hfr,TN⟩:=h;cases e;have hll:L.data.toList.length=L.size:=by rw[ax1];rfl
 have hci:=TN i o_;refine⟨λSS hx hy=>(dC (v:=.int .u8 v) rfl rfl k_ SS hx hy (show w.cell? ⟨fb,i,none⟩=_ from by simp only[ay_,XY];exact hci) (by simp only[World.frozen?,XY];rw[Bool.and_eq_false_iff];left;simp;omega)).1,by rw[jP];exact h0,fb,fq,_,fr,by rw[jP],by rw[jP];exact TX,ru _ XY,by rw[jP];exact hfr,λj hj=>?_⟩;have Ux:j<L.data.toList.length:=by simpa[uK]using hj
 have hj2:=(av9.1 (TN j Ux)).1;by_cases hij:i=j
 .subst hij;rw[Array.getElem?_setIfInBounds_self_of_lt hj2];simp only[uK,List.getElem_set_self,UInt8.toNat_ofNat']
  congr 2
  omega
 .rw[Array.getElem?_setIfInBounds_ne hij,TN j Ux];simp only[uK,List.getElem_set_ne hij]
theorem Kv{fl:Value}{W K:List Int}{on:Bool}(i:Nat)(h:i<W.length)(v:Int):(jm fl W K on sl).setIfInBounds (1+i) (.int .i64 v)=jm fl (W.set i v) K on sl:=by
 simp only[jm,List.setIfInBounds_toArray];rw[show 1+i=i+1 by omega,List.set_cons_succ,List.set_append_left _ _ (by simp;omega),List.map_set]
theorem RJ{x y:Int}(hx:0<=x/\x<65536)(hy:0<=y/\y<65536):0<=bits .or .i64 x y/\bits .or .i64 x y<65536:=by
 obtain⟨a,rfl⟩:=ay0 hx.1;obtain⟨b,rfl⟩:=ay0 hy.1;have h1:=hx.2;have h2:=hy.2;rw[gE _ _ o_ o_];have:=Nat.or_lt_two_pow (x:=a) (y:=b) (n:=16) o_ o_;exact⟨by omega,by omega⟩
theorem KA{W:List Int}(hW:dL W)(on:Bool)(p q:Int):dL (lK W on p q):=by
 unfold lK;split
 .rename_i h;unfold fW at h;split at h
  .omega
  split at h
  .omega
  refine⟨by simp[hW.1],λi hi=>?_⟩;have hl:=hW.1;have Tj:i<(W.set p.toNat (bits .or .i64 (W.getD p.toNat 0) q)).length:=by simp;omega
  rw[aw4,aw3 Tj,az9,aI8];split
  .exact RJ (hW.2 _ o_) ⟨by omega,by omega⟩
  .have:=hW.2 i hi
   rwa [aw4,aw3 o_,az9]at this
 .exact hW
section
variable{u:TypeId}
theorem Fl(j:Nat)(hj:j<2)(SS:o.op=.fieldAddr 147 x j)(hx:ev x=.pk b 102):(execOp ev o).run prog w=.ok (.value (.pk b (102+j))) w:=by
 have e:execOp ev o=(do pure (.value (←aw1 147 (.pk b 102) j))):=by simp only[execOp,SS,hx]
 have h2:(do pure (.value (←aw1 147 (.pk b 102) j)):Sem Next).run prog w=.ok (.value (.pk b (102+j))) w:=by
  rcases(by omega:j=0\/j=1)with rfl|rfl<;>kernel_rfl
 rw[e,h2]
theorem Fg(hn:n<85)(SS:o.op=.indexAddr 144 x y)(hx:ev x=.pk b 1)(hy:ev y=.int .i64 n):(execOp ev o).run prog w=.ok (.value (.pk b (1+n))) w:=by
 have hu:prog.underlying 144=some (.array 85 3):=by kernel_rfl
 have h1:(sizeOf 3).run prog w=.ok 1 w:=by kernel_rfl
 have Z7:(n:Int)<85:=by omega
 have e0:(if n=0 then(⟨b,1,none⟩:Addr)else⟨b,1+n,none⟩)=⟨b,1+n,none⟩:=by
  split
  .rename_i h;rw[h]
  .rfl
 simp[execOp,SS,hx,hy,go_sem,hu,h1,Z7,Addr.add,e0]
end
theorem ow{p:Prop}(h:p:=by
 first
 |exact ol
 |exact fN ho gx gx
 |exact gk ho gx gx):p:=h
section
variable{C:iV}{b:Frame}{k:List Item}
theorem aE(J:aB F N ds a)(next:∀a',aB ((d,v)::F) N ds a'->Rn C Goal (b.atR a' (.inRegion ops rest::k')) cs w)(h0:fa 6 (b.atR a k)=.inRegion ops (m::rest)::k':=by rfl)
 (h:(ops[m]?).map (λo=>(o.dst,o.op,o.guard))=some (some d,p,gd):=by rfl) (hw:gV ops F gd=some true:=by rfl) (hy:∀o:Oper,o.op=p->(execOp a.eval o).run C.P w=.ok (.value v) w:=by intro o ho;exact ow) (hd:d<N:=by decide) (T5:nd p=true:=by rfl) (ok:kU C.P a.eval p:=by exact nR):Rn C Goal (b.atR a k) cs w:=bK (ye J next h hw hy hd T5 ok) h0
end
section
variable{fl:Value}{W K:List Int}{on:Bool}
theorem Lz(h:i8 w cb fl W K on sl):Cl kX 103 #[.pk cb 0] w λe w'=>e=.returned (.bool (!on))/\w'=w:=by
 obtain⟨hW,hK,hc⟩:=h;refine az (N:=9) (L:=[.pk cb 0]) func103 rfl λcs a J=>?_
 iterate 4 refine aE J λ_ J=>?_
 refine aE J (hy:=by intro o ho;exact Fl 0 d_ ho gx) λ_ J=>?_;refine aE J (hy:=by intro o ho;exact(av iJ ho gx ((ar hc _).trans (QJ hW hK.1))).1) λ_ J=>?_
 iterate 2 refine aE J λ_ J=>?_
 exact aH J ⟨rfl,rfl⟩
theorem MG(h:i8 w cb fl W K on sl):Cl kX 83 #[.pk cb 0] w λe w'=>e=.returned (.tuple #[])/\i8 w' cb fl W K false 0/\Ex (· =cb) w w':=by
 refine dk func83 rfl λcs=>?_;refine bv (N:=4) (L:=[.pk cb 0]) func83 rfl λa J=>?_;refine aE J λ_ J=>?_;refine bz J func99 (uG h) λw1 hw _ J=>?_;exact oA J ⟨rfl,hw.1,hw.2.1⟩
theorem Jk(hl:w.heap[lb]?=some (.cells #[.pk cb 0] 127))(h:i8 w cb fl W K on sl):Cl kX 57 #[.pk lb 0] w λe w'=>e=.returned (.tuple #[])/\i8 w' cb fl W K false 0/\Ex (· =cb) w w':=by
 refine dk func57 rfl λcs=>?_;refine bv (N:=7) (L:=[.pk lb 0]) func57 rfl λa J=>?_
 iterate 4 refine aE J λ_ J=>?_
 refine bz J func83 (MG h) λw1 hw _ J=>?_;exact oA J ⟨rfl,hw⟩
theorem Q1(p q:Int)(h:i8 w cb (.sk fb L.size fq) W K on sl)(hf:j7 w (.sk fb L.size fq) L):Cl kX 81 #[.pk cb 0,.int .i64 p,.int .i64 q] w λe w'=>e=.returned (.int .i64 (eY L.size on sl p q))/\j7 w' (.sk fb L.size fq) (iT L on sl p q)/\Ex (· =fb) w w':=by
 have h':=h;obtain⟨hW,hK,hc⟩:=h;refine az (N:=47) (L:=[.pk cb 0,.int .i64 p,.int .i64 q]) func81 rfl λcs a J=>?_;have bad:p<0\/L.size<=p\/q<0\/255<q->(11:Int)=eY L.size on sl p q/\j7 w (.sk fb L.size fq) (iT L on sl p q):=λhb=>by
  have e:eY L.size on sl p q=11:=by unfold eY;rw[if_pos hb]
  exact⟨e.symm,by unfold iT;rw[e,if_neg d_];exact hf⟩
 iterate 3 refine aE J λ_ J=>?_
 by_cases c1:p<0
 .rw[decide_eq_true c1]at J;refine aE J λ_ J=>?_
  iterate 7 refine bY J λ_ J=>?_
  iterate 2 refine aE J λ_ J=>?_
  iterate 2 refine bY J λ_ J=>?_
  iterate 2 refine aE J λ_ J=>?_
  iterate 2 refine bY J λ_ J=>?_
  iterate 2 refine aE J λ_ J=>?_
  refine aD true J ?_;refine aE J λ_ J=>?_;have hb:=bad (.inl c1);exact aH J ⟨by rw[←hb.1],hb.2,Ex.refl⟩
 rw[decide_eq_false c1]at J
 iterate 7 refine aE J λ_ J=>?_
 refine aE J (hy:=by intro o ho;exact l0 (n:=(L.size:Int)) ho gx gx) λ_ J=>?_;by_cases c2:(L.size:Int)<=p
 .rw[decide_eq_true (show p≥(L.size:Int)from c2)]at J
  iterate 2 refine aE J λ_ J=>?_
  iterate 2 refine bY J λ_ J=>?_
  iterate 2 refine aE J λ_ J=>?_
  iterate 2 refine bY J λ_ J=>?_
  iterate 2 refine aE J λ_ J=>?_
  refine aD true J ?_;refine aE J λ_ J=>?_;have hb:=bad (.inr (.inl c2));exact aH J ⟨by rw[←hb.1],hb.2,Ex.refl⟩
 rw[decide_eq_false (show¬p≥(L.size:Int)from c2)]at J
 iterate 4 refine aE J λ_ J=>?_
 by_cases c3:q<0
 .rw[decide_eq_true c3]at J
  iterate 2 refine aE J λ_ J=>?_
  iterate 2 refine bY J λ_ J=>?_
  iterate 2 refine aE J λ_ J=>?_
  refine aD true J ?_;refine aE J λ_ J=>?_;have hb:=bad (.inr (.inr (.inl c3)));exact aH J ⟨by rw[←hb.1],hb.2,Ex.refl⟩
 rw[decide_eq_false c3]at J
 iterate 4 refine aE J λ_ J=>?_
 by_cases c4:255<q
 .rw[decide_eq_true (show q>255 from c4)]at J
  iterate 2 refine aE J λ_ J=>?_
  refine aD true J ?_;refine aE J λ_ J=>?_;have hb:=bad (.inr (.inr (.inr c4)));exact aH J ⟨by rw[←hb.1],hb.2,Ex.refl⟩
 rw[decide_eq_false (show¬q>255 from c4)]at J
 iterate 2 refine aE J λ_ J=>?_
 refine aD false J ?_;clear bad;obtain⟨i,rfl⟩:=ay0 (show 0<=p by omega);have hi:i<L.size:=by omega
 have hz:=hf.1;have T2:¬(((i:Nat):Int)<0\/(L.size:Int)<=((i:Nat):Int)\/q<0\/255<q):=by omega
 refine aE J λ_ J=>?_;refine fE J func103 (Lz h') λ_ J=>?_;refine aE J λ_ J=>?_;cases on with
 |false=>
  have e:eY L.size false sl (i:Nat) q=12:=by unfold eY;rw[if_neg T2,if_pos rfl]
  refine aD true J ?_;refine aE J λ_ J=>?_;exact aH J ⟨by rw[e],by unfold iT;rw[e,if_neg d_];exact hf,Ex.refl⟩
 |true=>
  refine aD false J ?_;refine aE J λ_ J=>?_;refine aE J (hy:=by intro o ho;exact lV (n:=8192) ho gx rfl d_ o_) λ_ J=>?_
  iterate 3 refine aE J λ_ J=>?_
  refine aE J (hy:=by intro o ho;exact Fl 1 d_ ho gx) λ_ J=>?_;refine aE J (hy:=by intro o ho;exact(av aC ho gx ((ar hc _).trans (QI hW hK.1))).1) λ_ J=>?_;refine aE J (hy:=by intro o ho;exact dU (m:=((i/8192:Nat):Int)) (n:=sl) ho gx gx) λ_ J=>?_;refine aE J λ_ J=>?_;by_cases hs:((i/8192:Nat):Int)=sl
  .have e:eY L.size true sl (i:Nat) q=13:=(by unfold eY;rw[if_neg T2,if_neg d_,if_pos o_]);refine aD true J ?_ (hq:=by rw[hs];exact beq_self_eq_true _);refine aE J λ_ J=>?_;exact aH J ⟨by rw[e],by unfold iT;rw[e,if_neg d_];exact hf,Ex.refl⟩
  .have e:eY L.size true sl (i:Nat) q=0:=(by unfold eY;rw[if_neg T2,if_neg d_,if_neg o_]);refine aD false J ?_ (hq:=by rw[beq_eq_false_iff_ne];exact hs);have e8:aB3.wrap q=q:=by rw[aD_];omega
   iterate 6 refine aE J λ_ J=>?_
   refine aE J (hy:=by intro o ho;exact jW ho gx) λ_ J=>?_;rw[e8]at J;refine aE J (hy:=by intro o ho;exact rL (n:=i) ho gx gx hi) λ_ J=>?_;refine aP J (λo ho=>(hf.set hi (v:=q) ⟨by omega,by omega⟩).1 ho (J.Q 46) (J.Q 45)) λ_ J=>?_;refine aE J λ_ J=>?_;refine aH J ⟨by rw[e],?_,ku _ _ _⟩;unfold iT;rw[e,if_pos rfl];exact(hf.set hi (v:=q) ⟨by omega,by omega⟩).2
theorem ML(p q:Int)(hl:w.heap[lb]?=some (.cells #[.pk cb 0] 127))(h:i8 w cb (.sk fb L.size fq) W K on sl)(hf:j7 w (.sk fb L.size fq) L):Cl kX 53 #[.pk lb 0,.int .i64 p,.int .i64 q] w λe w'=>e=.returned (.int .i64 (eY L.size on sl p q))/\j7 w' (.sk fb L.size fq) (iT L on sl p q)/\Ex (· =fb) w w':=by
 refine az (N:=14) (L:=[.pk lb 0,.int .i64 p,.int .i64 q]) func53 rfl λcs a J=>?_
 iterate 7 refine aE J λ_ J=>?_
 refine bz J func81 (Q1 p q h hf) λw1 hw _ J=>?_;refine aE J λ_ J=>?_;exact aH J ⟨rfl,hw⟩
end

theorem BS{W:List Int}(h:i<W.length):W[i]?=some (W.getD i 0):=by
 rw[aw4,aw3 h];rfl
section
variable{rb fr:Nat}{fl c0 c1 kv kv':Value}{W K:List Int}{on:Bool}
theorem QL(p q:Int)(h:i8 w cb fl W K on sl):Cl kX 82 #[.pk cb 0,.int .i64 p,.int .i64 q] w λe w'=>e=.returned (.int .i64 (fW on p q))/\i8 w' cb fl (lK W on p q) K on sl/\Ex (· =cb) w w':=by
 have h':=h;obtain⟨hW,hK,hc⟩:=h;refine az (N:=36) (L:=[.pk cb 0,.int .i64 p,.int .i64 q]) func82 rfl λcs a J=>?_;have bad:∀c:Int,c≠0->fW on p q=c->c=fW on p q/\i8 w cb fl (lK W on p q) K on sl:=λc W7 e=>⟨e.symm,by unfold lK;rw[e,if_neg W7];exact h'⟩;have UI:p<0\/85<=p\/q<0\/65535<q->fW on p q=11:=λhb=>by unfold fW;rw[if_pos hb]
 iterate 3 refine aE J λ_ J=>?_
 by_cases c1:p<0
 .rw[decide_eq_true c1]at J;refine aE J λ_ J=>?_
  iterate 2 refine bY J λ_ J=>?_
  iterate 2 refine aE J λ_ J=>?_
  iterate 3 refine bY J λ_ J=>?_
  iterate 2 refine aE J λ_ J=>?_
  refine aD true J ?_;refine aE J λ_ J=>?_;have hb:=bad 11 d_ (UI (.inl c1));exact aH J ⟨by rw[←hb.1],hb.2,Ex.refl⟩
 rw[decide_eq_false c1]at J
 iterate 2 refine aE J λ_ J=>?_
 refine aE J (hy:=by intro o ho;exact l0 (n:=85) ho gx rfl) λ_ J=>?_;by_cases c2:85<=p
 .rw[decide_eq_true (show p≥85 from c2)]at J
  iterate 2 refine aE J λ_ J=>?_
  iterate 3 refine bY J λ_ J=>?_
  iterate 2 refine aE J λ_ J=>?_
  refine aD true J ?_;refine aE J λ_ J=>?_;have hb:=bad 11 d_ (UI (.inr (.inl c2)));exact aH J ⟨by rw[←hb.1],hb.2,Ex.refl⟩
 rw[decide_eq_false (show¬p≥85 from c2)]at J
 iterate 3 refine aE J λ_ J=>?_
 refine fE J func104 (BL q w) λ_ J=>?_;by_cases c3:¬(0<=q/\q<65536)
 .rw[decide_eq_false c3]at J
  iterate 3 refine aE J λ_ J=>?_
  refine aD true J ?_;refine aE J λ_ J=>?_;have hb:=bad 11 d_ (UI o_);exact aH J ⟨by rw[←hb.1],hb.2,Ex.refl⟩
 have c3:=aX9.1 c3;rw[decide_eq_true c3]at J
 iterate 3 refine aE J λ_ J=>?_
 refine aD false J ?_;clear UI;obtain⟨i,rfl⟩:=ay0 (show 0<=p by omega);have T2:¬(((i:Nat):Int)<0\/85<=((i:Nat):Int)\/q<0\/65535<q):=by omega
 refine aE J λ_ J=>?_;refine fE J func103 (Lz h') λ_ J=>?_;refine aE J λ_ J=>?_;cases on with
 |false=>
  have hb:=bad 12 d_ (by unfold fW;rw[if_neg T2,if_pos rfl]);refine aD true J ?_;refine aE J λ_ J=>?_;exact aH J ⟨by rw[←hb.1],hb.2,Ex.refl⟩
 |true=>
  refine aD false J ?_;refine aE J λ_ J=>?_;refine aE J (hy:=by intro o ho;exact l0 (n:=5) ho gx rfl) λ_ J=>?_;refine aE J λ_ J=>?_;by_cases c5:5<=(i:Int)
  .have hb:=bad 13 d_ (by unfold fW;rw[if_neg T2,if_neg d_,if_pos c5]);refine aD true J ?_ (hq:=decide_eq_true c5);refine aE J λ_ J=>?_;exact aH J ⟨by rw[←hb.1],hb.2,Ex.refl⟩
  .have e:fW true (i:Nat) q=0:=(by unfold fW;rw[if_neg T2,if_neg d_,if_neg c5]);refine aD false J ?_ (hq:=decide_eq_false c5);have hi:i<85:=(by omega);have hci:(jm fl W K true sl)[1+i]?=some (.int .i64 (W.getD i 0)):=by
    rw[QH i o_,←Option.some.inj ((aw3 o_).symm.trans (BS (W:=W) (i:=i) o_))]
   refine ut 11 J ?_
   iterate 4 refine cQ ?_
   refine aj ?_ (y:=λo a w ho z=>Fg hi ho gx gx);refine aj ?_ (y:=λo a w ho z=>(av aC ho gx ((ar (bk z.b hc) _).trans hci)).1);refine cQ ?_;refine aj ?_ (y:=λo a w ho z=>w_ ho gx gx)
   iterate 2 refine cQ ?_
   refine aj ?_ (y:=λo a w ho z=>Fg hi ho gx gx);refine cc λ_ w1 J b1 _ rest next=>?_
   have c1:=bk b1 hc;refine aP J (λo ho=>cI (v:=.int .i64 (bits .or .i64 (W.getD i 0) q)) rfl rfl k_ ho (J.Q 35) (J.Q 32) c1 (by rw[oo hW hK.1];omega)) λ_ J=>next _ _ ?_
   rw[Kv i o_];refine aE J λ_ J=>?_;refine aH J ⟨by rw[e],?_,(an b1).trans (bC _ _ _) λ_ _ e=>e⟩;unfold lK;rw[e,if_pos rfl];exact⟨by simp[hW],hK,aZ c1⟩
theorem NK(p q:Int)(hl:w.heap[lb]?=some (.cells #[.pk cb 0] 127))(h:i8 w cb fl W K on sl):Cl kX 55 #[.pk lb 0,.int .i64 p,.int .i64 q] w λe w'=>e=.returned (.int .i64 (fW on p q))/\i8 w' cb fl (lK W on p q) K on sl/\Ex (· =cb) w w':=by
 refine az (N:=14) (L:=[.pk lb 0,.int .i64 p,.int .i64 q]) func55 rfl λcs a J=>?_
 iterate 7 refine aE J λ_ J=>?_
 refine bz J func82 (QL p q h) λw1 hw _ J=>?_;refine aE J λ_ J=>?_;exact aH J ⟨rfl,hw⟩
theorem MH(hc:w.heap[rb]?=some (.cells (kR c0 c1 fl kv kv' on sl) 107)):Cl kX 58 #[.pk rb 0] w λe w'=>e=.returned (.tuple #[])/\w'.heap[rb]?=some (.cells (kR c0 c1 fl kv kv' false sl) 107)/\Ex (· =rb) w w':=by
 refine dk func58 rfl λcs=>?_;refine bv (N:=5) (L:=[.pk rb 0]) func58 rfl λa J=>?_
 iterate 3 refine aE J λ_ J=>?_
 refine aP J (λo ho=>cI (v:=.bool false) rfl rfl k_ ho (J.Q 4) rfl hc (by decide:5<7)) λ_ J=>?_;exact oA J ⟨rfl,aZ hc,bC _ _ _⟩
theorem Q2(p q:Int)(hc:w.heap[rb]?=some (.cells (kR c0 c1 (.sk fr L.size Tp) kv kv' on sl) 107))(hf:j7 w (.sk fr L.size Tp) L):Cl kX 54 #[.pk rb 0,.int .i64 p,.int .i64 q] w λe w'=>e=.returned (.int .i64 (eY L.size on sl p q))/\j7 w' (.sk fr L.size Tp) (iT L on sl p q)/\Ex (· =fr) w w':=by
 refine az (N:=49) (L:=[.pk rb 0,.int .i64 p,.int .i64 q]) func54 rfl λcs a J=>?_;have bad:∀c:Int,c≠0->eY L.size on sl p q=c->c=eY L.size on sl p q/\j7 w (.sk fr L.size Tp) (iT L on sl p q):=λc W7 e=>⟨e.symm,by unfold iT;rw[e,if_neg W7];exact hf⟩;have UI:p<0\/L.size<=p\/q<0\/255<q->eY L.size on sl p q=11:=λhb=>by unfold eY;rw[if_pos hb]
 iterate 3 refine aE J λ_ J=>?_
 by_cases c1:p<0
 .rw[decide_eq_true c1]at J;refine aE J λ_ J=>?_
  iterate 7 refine bY J λ_ J=>?_
  iterate 2 refine aE J λ_ J=>?_
  iterate 2 refine bY J λ_ J=>?_
  iterate 2 refine aE J λ_ J=>?_
  iterate 2 refine bY J λ_ J=>?_
  iterate 2 refine aE J λ_ J=>?_
  refine aD true J ?_;refine aE J λ_ J=>?_;have hb:=bad 11 d_ (UI (.inl c1));exact aH J ⟨by rw[←hb.1],hb.2,Ex.refl⟩
 rw[decide_eq_false c1]at J
 iterate 7 refine aE J λ_ J=>?_
 refine aE J (hy:=by intro o ho;exact l0 (n:=(L.size:Int)) ho gx gx) λ_ J=>?_;by_cases c2:(L.size:Int)<=p
 .rw[decide_eq_true (show p≥(L.size:Int)from c2)]at J
  iterate 2 refine aE J λ_ J=>?_
  iterate 2 refine bY J λ_ J=>?_
  iterate 2 refine aE J λ_ J=>?_
  iterate 2 refine bY J λ_ J=>?_
  iterate 2 refine aE J λ_ J=>?_
  refine aD true J ?_;refine aE J λ_ J=>?_;have hb:=bad 11 d_ (UI (.inr (.inl c2)));exact aH J ⟨by rw[←hb.1],hb.2,Ex.refl⟩
 rw[decide_eq_false (show¬p≥(L.size:Int)from c2)]at J
 iterate 4 refine aE J λ_ J=>?_
 by_cases c3:q<0
 .rw[decide_eq_true c3]at J
  iterate 2 refine aE J λ_ J=>?_
  iterate 2 refine bY J λ_ J=>?_
  iterate 2 refine aE J λ_ J=>?_
  refine aD true J ?_;refine aE J λ_ J=>?_;have hb:=bad 11 d_ (UI (.inr (.inr (.inl c3))));exact aH J ⟨by rw[←hb.1],hb.2,Ex.refl⟩
 rw[decide_eq_false c3]at J
 iterate 4 refine aE J λ_ J=>?_
 by_cases c4:255<q
 .rw[decide_eq_true (show q>255 from c4)]at J
  iterate 2 refine aE J λ_ J=>?_
  refine aD true J ?_;refine aE J λ_ J=>?_;have hb:=bad 11 d_ (UI (.inr (.inr (.inr c4))));exact aH J ⟨by rw[←hb.1],hb.2,Ex.refl⟩
 rw[decide_eq_false (show¬q>255 from c4)]at J
 iterate 2 refine aE J λ_ J=>?_
 refine aD false J ?_;clear UI;obtain⟨i,rfl⟩:=ay0 (show 0<=p by omega);have hi:i<L.size:=by omega
 have hz:=hf.1;have T2:¬(((i:Nat):Int)<0\/(L.size:Int)<=((i:Nat):Int)\/q<0\/255<q):=by omega
 iterate 6 refine aE J λ_ J=>?_
 cases on with
 |false=>
  have hb:=bad 12 d_ (by unfold eY;rw[if_neg T2,if_pos rfl]);refine aD true J ?_;refine aE J λ_ J=>?_;exact aH J ⟨by rw[←hb.1],hb.2,Ex.refl⟩
 |true=>
  refine aD false J ?_;refine aE J λ_ J=>?_;refine aE J (hy:=by intro o ho;exact lV (n:=8192) ho gx rfl d_ o_) λ_ J=>?_
  iterate 4 refine aE J λ_ J=>?_
  refine aE J (hy:=by intro o ho;exact dU (m:=((i/8192:Nat):Int)) (n:=sl) ho gx gx) λ_ J=>?_;refine aE J λ_ J=>?_;by_cases hs:((i/8192:Nat):Int)=sl
  .have hb:=bad 13 d_ (by unfold eY;rw[if_neg T2,if_neg d_,if_pos o_]);refine aD true J ?_ (hq:=by rw[hs];exact beq_self_eq_true _);refine aE J λ_ J=>?_;exact aH J ⟨by rw[←hb.1],hb.2,Ex.refl⟩
  .have e:eY L.size true sl (i:Nat) q=0:=(by unfold eY;rw[if_neg T2,if_neg d_,if_neg o_]);refine aD false J ?_ (hq:=by rw[beq_eq_false_iff_ne];exact hs);have e8:aB3.wrap q=q:=by rw[aD_];omega
   iterate 6 refine aE J λ_ J=>?_
   refine aE J (hy:=by intro o ho;exact jW ho gx) λ_ J=>?_;rw[e8]at J;refine aE J (hy:=by intro o ho;exact rL (n:=i) ho gx gx hi) λ_ J=>?_;have Tg:=hf.set hi (v:=q) ⟨by omega,by omega⟩;refine aP J (λo ho=>Tg.1 ho (J.Q 48) (J.Q 47)) λ_ J=>?_;refine aE J λ_ J=>?_;refine aH J ⟨by rw[e],?_,ku _ _ _⟩;unfold iT;rw[e,if_pos rfl];exact Tg.2
theorem QM(p q:Int)(hW:W.length=85)(hc:w.heap[rb]?=some (.cells (kR c0 c1 fl (.sk wb 85 qw) kv' on sl) 107))(ZU:dZ w wb W):Cl kX 56 #[.pk rb 0,.int .i64 p,.int .i64 q] w λe w'=>e=.returned (.int .i64 (fW on p q))/\dZ w' wb (lK W on p q)/\Ex (· =wb) w w':=by
 refine az (N:=46) (L:=[.pk rb 0,.int .i64 p,.int .i64 q]) func56 rfl λcs a J=>?_;have bad:∀c:Int,c≠0->fW on p q=c->c=fW on p q/\dZ w wb (lK W on p q):=λc W7 e=>⟨e.symm,by unfold lK;rw[e,if_neg W7];exact ZU⟩;have UI:p<0\/85<=p\/q<0\/65535<q->fW on p q=11:=λhb=>by unfold fW;rw[if_pos hb]
 iterate 3 refine aE J λ_ J=>?_
 by_cases c1:p<0
 .rw[decide_eq_true c1]at J;refine aE J λ_ J=>?_
  iterate 2 refine bY J λ_ J=>?_
  iterate 2 refine aE J λ_ J=>?_
  iterate 2 refine bY J λ_ J=>?_
  iterate 2 refine aE J λ_ J=>?_
  iterate 2 refine bY J λ_ J=>?_
  iterate 2 refine aE J λ_ J=>?_
  refine aD true J ?_;refine aE J λ_ J=>?_;have hb:=bad 11 d_ (UI (.inl c1));exact aH J ⟨by rw[←hb.1],hb.2,Ex.refl⟩
 rw[decide_eq_false c1]at J
 iterate 2 refine aE J λ_ J=>?_
 refine aE J (hy:=by intro o ho;exact oN (n:=84) ho gx rfl) λ_ J=>?_;by_cases c2:85<=p
 .rw[decide_eq_true (show p>84 by omega)]at J
  iterate 2 refine aE J λ_ J=>?_
  iterate 2 refine bY J λ_ J=>?_
  iterate 2 refine aE J λ_ J=>?_
  iterate 2 refine bY J λ_ J=>?_
  iterate 2 refine aE J λ_ J=>?_
  refine aD true J ?_;refine aE J λ_ J=>?_;have hb:=bad 11 d_ (UI (.inr (.inl c2)));exact aH J ⟨by rw[←hb.1],hb.2,Ex.refl⟩
 rw[decide_eq_false (show¬p>84 by omega)]at J
 iterate 4 refine aE J λ_ J=>?_
 by_cases c3:q<0
 .rw[decide_eq_true c3]at J
  iterate 2 refine aE J λ_ J=>?_
  iterate 2 refine bY J λ_ J=>?_
  iterate 2 refine aE J λ_ J=>?_
  refine aD true J ?_;refine aE J λ_ J=>?_;have hb:=bad 11 d_ (UI (.inr (.inr (.inl c3))));exact aH J ⟨by rw[←hb.1],hb.2,Ex.refl⟩
 rw[decide_eq_false c3]at J
 iterate 4 refine aE J λ_ J=>?_
 by_cases c4:65535<q
 .rw[decide_eq_true (show q>65535 from c4)]at J
  iterate 2 refine aE J λ_ J=>?_
  refine aD true J ?_;refine aE J λ_ J=>?_;have hb:=bad 11 d_ (UI (.inr (.inr (.inr c4))));exact aH J ⟨by rw[←hb.1],hb.2,Ex.refl⟩
 rw[decide_eq_false (show¬q>65535 from c4)]at J
 iterate 2 refine aE J λ_ J=>?_
 refine aD false J ?_;clear UI;obtain⟨i,rfl⟩:=ay0 (show 0<=p by omega);have T2:¬(((i:Nat):Int)<0\/85<=((i:Nat):Int)\/q<0\/65535<q):=by omega
 iterate 6 refine aE J λ_ J=>?_
 cases on with
 |false=>
  have hb:=bad 12 d_ (by unfold fW;rw[if_neg T2,if_pos rfl]);refine aD true J ?_;refine aE J λ_ J=>?_;exact aH J ⟨by rw[←hb.1],hb.2,Ex.refl⟩
 |true=>
  refine aD false J ?_;refine aE J λ_ J=>?_;refine aE J (hy:=by intro o ho;exact l0 (n:=5) ho gx rfl) λ_ J=>?_;refine aE J λ_ J=>?_;by_cases c5:5<=(i:Int)
  .have hb:=bad 13 d_ (by unfold fW;rw[if_neg T2,if_neg d_,if_pos c5]);refine aD true J ?_ (hq:=decide_eq_true c5);refine aE J λ_ J=>?_;exact aH J ⟨by rw[←hb.1],hb.2,Ex.refl⟩
  .have e:fW true (i:Nat) q=0:=(by unfold fW;rw[if_neg T2,if_neg d_,if_neg c5]);refine aD false J ?_ (hq:=decide_eq_false c5);have hi:i<85:=(by omega);obtain⟨cur,hcu,T4⟩:=ZU;have hci:=T4 i _ (BS o_);have Vq:=(av9.1 hci).1;refine ut 15 J ?_
   iterate 3 refine cQ ?_
   refine aj ?_ (v:=.sk wb 85 qw) (y:=λo a w ho z=>de ho gx (bk z.b hc) rfl (λ_=>by kernel_rfl))
   iterate 4 refine cQ ?_
   refine aj ?_ (v:=.sk wb 85 qw) (y:=λo a w ho z=>de ho gx (bk z.b hc) rfl (λ_=>by kernel_rfl));refine cQ ?_;refine aj ?_ (y:=λo a w ho z=>b_ i k_ ho gx gx hi);refine aj ?_ (y:=λo a w ho z=>de ho gx (bk z.b hcu) (by rw[aw9];exact hci) (λ_=>by kernel_rfl));refine cQ ?_;refine aj ?_ (y:=λo a w ho z=>w_ ho gx gx);refine aj ?_ (y:=λo a w ho z=>b_ i k_ ho gx gx hi);refine cc λ_ w1 J b1 _ rest next=>?_
   have c1:=bk b1 hcu;refine aP J (λo ho=>cI (v:=.int .i64 (bits .or .i64 (W.getD i 0) q)) rfl rfl k_ ho (J.Q 45) (J.Q 44) c1 o_) λ_ J=>next _ _ ?_
   rw[aw9];refine aE J λ_ J=>?_;refine aH J ⟨by rw[e],?_,(an b1).trans (bC _ _ _) λ_ _ e=>e⟩;unfold lK;rw[e,if_pos rfl];refine⟨_,aZ c1,λj x hx=>?_⟩;rw[show((i:Nat):Int).toNat=i from rfl,aX8]at hx;rw[aG_];split at hx
   .rename_i e1;subst e1;rw[if_pos rfl,if_pos Vq];split at hx
    .exact congrArg some (congrArg _ (Option.some.inj hx))
    .cases hx
   .rename_i e1;rw[if_neg e1];exact T4 j x hx
end

end Go.Proofs.YtkmoglhgkcnalaaGreatDoor.L1
namespace Go.Proofs.YtkmoglhgkcnalaaGreatDoor
open Go Go.Conc Go.RowKit Go.Proofs.YtkmoglhgkcnalaaGreatDoor.L1
theorem PI{p:Option Addr}{G:List Int}(h:cV w (.slice p G.length q) (aO G))(a:Addr)(hp:p=some a)(hG:G≠[]):a.block<w.heap.size:=by
 obtain⟨p',q',e,hc⟩:=h;injection e with e1;have h0:0<G.length:=List.length_pos_iff.2 hG;obtain⟨b,h1,h2⟩:=hc 0 (.int .i64 G[0]) (by simp[aO,h0]);rw[←e1,hp]at h1;cases h1;unfold ay_ at h2;rw[KY]at h2;split at h2
 .exact(av9.1 ‹_›).1
 .cases h2
structure Si (B hb hq tb tq pb:Nat) (n:Nat) (w:World):Prop where
 it:∃lb cb fb fq rb fr Tp wb qw kb qk L W K on sl rs lv mv ls ms,dL W/\fY w pb lb cb fb fq rb fr Tp wb qw kb qk hb hq tb tq ef W K L on sl on rs lv mv ls ms/\(on=true->rs=sl)/\ms.length=n/\(B<=pb/\B<=lb/\B<=cb/\B<=fb/\B<=rb/\B<=fr/\B<=wb/\B<=kb)/\(∀b,lv.ownBlock=some b->B<=b)/\(∀b,mv.ownBlock=some b->B<=b)

end Go.Proofs.YtkmoglhgkcnalaaGreatDoor
namespace Go.Proofs.YtkmoglhgkcnalaaGreatDoor.L1
open Go Go.Conc Go.RowKit Go.Proofs.YtkmoglhgkcnalaaGreatDoor
section
variable{rb fr hb:Nat}{V V' K:List Int}{L':ByteArray}{on:Bool}{up:Bool}{mv:Value}
theorem fY.fl(h:fY w pb lb cb fb fq rb fr Tp wb qw kb qk hb hq tb tq KS V K L on sl up rs lv mv ls ms)(x:Ex (λb=>b=fb\/b=fr) w w')(f1:j7 w' (.sk fb L.size fq) L')(f2:j7 w' (.sk fr L.size Tp) L')(e:L'.size=L.size):fY w' pb lb cb fb fq rb fr Tp wb qw kb qk hb hq tb tq KS V K L' on sl up rs lv mv ls ms:=by
 obtain⟨_,_,ck,fk,hk,VW⟩:=id h.kpt;obtain⟨_,b1,q1,Yc,r1,e1,_,g1,_⟩:=h.fls;cases e1;obtain⟨_,b2,q2,cells2,r2,e2,_,g2,_⟩:=h.rfs;cases e2;have n2:∀{b:Nat} {c:Array Value} {t:TypeId} {f:Nat×Nat},w.heap[b]?=some (.cells c t f)->t≠5->¬(b=fb\/b=fr):=λh1 t1 e=>by
  rcases e with e|e
  .exact dp h1 g1 t1 e
  .exact dp h1 g2 t1 e
 have ni:∀{b:Nat} {l:List Int},dZ w b l->¬(b=fb\/b=fr):=λhi=>by
  obtain⟨c,h1,_⟩:=hi;exact n2 h1 d_
 refine⟨x.at (n2 h.pr d_) h.pr,x.at (n2 h.lin d_) h.lin,by rw[e];exact h.ch.ex x (n2 h.ch.2.2 d_),by rw[e];exact f1,by rw[e];exact x.at (n2 h.ref d_) h.ref,by rw[e];exact f2,h.wds.keep x (ni h.wds),h.kpt.keep x (λe=>e.elim h.nk.1 h.nk.2.1),h.hsh.keep x (ni h.hsh),h.tab.keep x (ni h.tab),h.lst.keep x (λb cs f hb=>.inl (n2 hb d_)) (λb cs f hb=>n2 hb d_),h.nk⟩
theorem fY.wd(h:fY w pb lb cb fb fq rb fr Tp wb qw kb qk hb hq tb tq KS V K L on sl up rs lv mv ls ms)(nw:wb≠hb/\wb≠tb)(x:Ex (λb=>b=cb\/b=wb) w w')(c:i8 w' cb (.sk fb L.size fq) V' K on sl)(i:dZ w' wb V'):fY w' pb lb cb fb fq rb fr Tp wb qw kb qk hb hq tb tq KS V' K L on sl up rs lv mv ls ms:=by
 obtain⟨_,_,ck,fk,hk,VW⟩:=id h.kpt;obtain⟨_,b1,q1,Yc,r1,e1,_,g1,_⟩:=h.fls;cases e1;obtain⟨_,b2,q2,cells2,r2,e2,_,g2,_⟩:=h.rfs;cases e2;obtain⟨cw,gw,_⟩:=h.wds;have n2:∀{b:Nat} {c:Array Value} {t:TypeId} {f:Nat×Nat},w.heap[b]?=some (.cells c t f)->t≠149->t≠3->¬(b=cb\/b=wb):=λh1 t1 t2 e=>by
  rcases e with e|e
  .exact dp h1 h.ch.2.2 t1 e
  .exact dp h1 gw t2 e
 have ni:∀{b:Nat} {l:List Int},dZ w b l->wb≠b->¬(b=cb\/b=wb):=λhi T2 e=>by
  obtain⟨c,h1,_⟩:=hi;rcases e with e|e
  .exact dp h1 h.ch.2.2 d_ e
  .exact T2 e.symm
 exact⟨x.at (n2 h.pr d_ d_) h.pr,x.at (n2 h.lin d_ d_) h.lin,c,h.fls.keepB x (n2 g1 d_ d_),x.at (n2 h.ref d_ d_) h.ref,h.rfs.keepB x (n2 g2 d_ d_),i,h.kpt.keep x (n2 hk d_ d_),h.hsh.keep x (ni h.hsh nw.1),h.tab.keep x (ni h.tab nw.2),h.lst.keep x (λb cs f hb=>by
  by_cases e:b=wb
  .exact .inr (.inl e)
  .exact .inl λe'=>e'.elim (dp hb h.ch.2.2 d_) e) (λb cs f hb=>n2 hb d_ d_),h.nk⟩
theorem Ls.stay(h:Ls w Z lv mv ls ms)(hx:Ex X w w')(h1:∀b,lv.ownBlock=some b->¬X b)(h2:∀b,mv.ownBlock=some b->¬X b)(h3:∀v b,v∈ls->v.ownBlock=some b->¬X b):Ls w' Z lv mv ls ms:=
 ⟨eH h.ol λc _ hc ho=>hx.at (h1 c hc) ho,eH h.om λc _ hc ho=>hx.at (h2 c hc) ho,h.len,λi v m a1 a2=>(h.all i v m a1 a2).keep λb _ hb ho=>hx.at (h3 v b (List.mem_of_getElem? a1) hb) ho,λv b a1 a2=>⟨(h.apart v b a1 a2).1,(h.apart v b a1 a2).2.1,aw2 (h.apart v b a1 a2).2.2 hx.size⟩,h.mw,h.small⟩
end
structure Pr (S:Nat->Prop) (B hb hq tb tq pb n:Nat) (w:World):Prop where
 it:∃lb cb fb fq rb fr Tp wb qw kb qk L W K on sl rs lv mv ls ms,dL W/\fY w pb lb cb fb fq rb fr Tp wb qw kb qk hb hq tb tq ef W K L on sl on rs lv mv ls ms/\(on=true->rs=sl)/\ms.length<=n/\(S pb/\S lb/\S cb/\S fb/\S rb/\S fr/\S wb/\S kb)/\(∀b,lv.ownBlock=some b->S b)/\(∀b,mv.ownBlock=some b->S b)/\(∀v b,v∈ls->v.ownBlock=some b->S b)
 old:∀b,S b->B<=b/\b<w.heap.size
 ht:hb<B/\tb<B
section
variable{hb:Nat}
theorem Pr.stay(h:Pr S B hb hq tb tq pb n w)(hx:Ex X w w')(hn:∀b,S b->¬X b)(h0:∀b,X b->B<=b):Pr S B hb hq tb tq pb n w':=by
 obtain⟨⟨lb,cb,fb,fq,rb,fr,Tp,wb,qw,kb,qk,L,W,K,on,sl,rs,lv,mv,ls,ms,hW,W8,hr,hm,⟨s1,s2,s3,s4,s5,s6,s7,s8⟩,k1,k2,k3⟩,ho,ht⟩:=h;have nt:∀b,b<B->¬X b:=λb hb e=>by have:=h0 b e;omega
 exact⟨⟨lb,cb,fb,fq,rb,fr,Tp,wb,qw,kb,qk,L,W,K,on,sl,rs,lv,mv,ls,ms,hW,W8.ex hx ⟨hn _ s2,hn _ s3,hn _ s4,hn _ s5,hn _ s6,hn _ s7,hn _ s8,nt _ ht.1,nt _ ht.2⟩ (hx.at (hn _ s1) W8.pr) (W8.lst.stay hx (λb e=>hn b (k1 b e)) (λb e=>hn b (k2 b e)) λv b e1 e2=>hn b (k3 v b e1 e2)),hr,hm,⟨s1,s2,s3,s4,s5,s6,s7,s8⟩,k1,k2,k3⟩,λb e=>⟨(ho b e).1,aw2 (ho b e).2 hx.size⟩,ht⟩
theorem Pr.below(h:Pr S B hb hq tb tq pb n w)(b:Bw w w'):Pr S B hb hq tb tq pb n w':=h.stay (an (X:=λ_=>False) b) (λ_ _ e=>e) λ_ e=>e.elim
theorem Pr.more(h:Pr S B hb hq tb tq pb n w)(hm:n<=m):Pr S B hb hq tb tq pb m w:=by
 obtain⟨⟨lb,cb,fb,fq,rb,fr,Tp,wb,qw,kb,qk,L,W,K,on,sl,rs,lv,mv,ls,ms,a1,a2,a3,a4,a5⟩,ho,ht⟩:=h;exact⟨⟨lb,cb,fb,fq,rb,fr,Tp,wb,qw,kb,qk,L,W,K,on,sl,rs,lv,mv,ls,ms,a1,a2,a3,by omega,a5⟩,ho,ht⟩
def x_(S:Nat->Prop)(B hb hq tb tq pb n:Nat)(w w':World):Prop:=∃S',Pr S' B hb hq tb tq pb n w'/\(∀b,S' b->S b\/w.heap.size<=b)/\Ex S w w'
theorem Hu.pr{B':Nat}(h:Hu B' hb hq tb tq pb w)(hB:B<=B')(ht:hb<B/\tb<B):Pr (λb=>B'<=b/\b<w.heap.size) B hb hq tb tq pb 0 w:=by
 obtain⟨lb,cb,fb,fq,rb,fr,Tp,wb,qw,kb,qk,L,W,K,h1,h2,h3⟩:=h;have a:=h2.blocks;have b:=aA h2.pr;exact⟨⟨lb,cb,fb,fq,rb,fr,Tp,wb,qw,kb,qk,L,W,K,false,0,0,_,_,_,_,h1,h2,(λ_=>rfl),aw0 _,by omega,(λb e=>by cases e),(λb e=>by cases e),(λv b e=>by simp at e)⟩,λb e=>⟨by omega,e.2⟩,ht⟩
end
theorem xc{on:Bool}{p q:Int}(h:on=true->rs=sl):eY n on rs p q=eY n on sl p q:=by
 cases on with
 |false=>rfl
 |true=>rw[h rfl]
theorem FA{on:Bool}{p q:Int}(h:on=true->rs=sl):iT L on rs p q=iT L on sl p q:=by
 unfold iT;rw[xc h]
section
variable{C:iV}{b:Frame}{k:List Item}
theorem C9{id:Nat}(n:Nat)(J:aB F N ds a)(h:Gx C ops w N n ds (Tl C Goal b ops k' cs n (Tl C Goal b ops k' cs (n+1) λa w=>Rn C Goal (b.atR a k') cs w)) 0 F [])(h0:yU 8 (b.atR a k)=.code (.region id ops true)::k':=by rfl)(hz:ops.size=n+2:=by rfl)(TQ:C.P.follows .mixedOrders=true:=by kernel_rfl)(TD:fQ ops ((List.range n).map (dO ops)) ((zZ ((List.range n).map (dO ops)) F).map (·.1)) N=true:=by kernel_rfl):Rn C Goal (b.atR a k) cs w:=
 jj 8 k (by rw[h0];exact C8 n J h hz TQ TD)
end
section
variable{hb:Nat}{k A E:Int}{G:List Int}
theorem Q3(h:Pr S B hb hq tb tq pb n w)(hT:w.rangeAt 0 0 (aI ef))(hG:G.length<=17592186043904)(WB:∀x∈G,x<9223372036854775808)(hv:cV w (.slice lp G.length lq) (aO G))(hp:∀a:Addr,lp=some a->G≠[]->a.block<B)(hk:k≠5/\k≠6/\k≠7):
 Cl kX 25 #[.pk pb 0,.agg (yx k A D E lp G.length lq)] w λe w'=>e=.returned (.bool true)/\x_ S B hb hq tb tq pb n w w':=by
 obtain⟨⟨lb,cb,fb,fq,rb,fr,Tp,wb,qw,kb,qk,L,W,K,on,sl,rs,lv,mv,ls,ms,hW,W8,hr,hm,⟨s1,s2,s3,s4,s5,s6,s7,s8⟩,k1,k2,k3⟩,ho,ht⟩:=h;have mk:∀{w':World} {L W K on sl rs},dL W->fY w' pb lb cb fb fq rb fr Tp wb qw kb qk hb hq tb tq ef W K L on sl on rs lv mv ls ms->(on=true->rs=sl)->Ex S w w'->x_ S B hb hq tb tq pb n w w':=λhW hB hr hx=>⟨S,⟨⟨lb,cb,fb,fq,rb,fr,Tp,wb,qw,kb,qk,_,_,_,_,_,_,lv,mv,ls,ms,hW,hB,hr,hm,⟨s1,s2,s3,s4,s5,s6,s7,s8⟩,k1,k2,k3⟩,λb e=>⟨(ho b e).1,aw2 (ho b e).2 hx.size⟩,ht⟩,λb e=>.inl e,hx⟩;refine az (N:=155) (L:=[.pk pb 0,.agg (yx k A D E lp G.length lq)]) func25 rfl λcs a J=>?_;refine dw J λw1 a b1 c1 z1 J=>?_;have B1:=W8.below b1;have YL:=B1.pr;have X1:Ex S w w1:=an b1;refine aF J λa J=>?_;refine ai J (λo ho=>Bh ho (J.Q 3)) λa J=>?_;refine ai J (λo ho=>(av aC ho (J.Q 15) ((ar c1 0).trans rfl)).1) λa J=>?_;refine ai J (λo ho=>dU (m:=k) (n:=1) ho (J.Q 16) rfl) λa J=>?_;by_cases h1:k=1
 .rw[show(k==1)=true from by rw[h1];rfl]at J;refine aF J λa J=>?_;refine aD true J ?_
  iterate 2 refine aE J λ_ J=>?_
  refine aE J (v:=.slice lp G.length lq) (hy:=by intro o ho;exact de ho gx c1 rfl (λ_=>by kernel_rfl)) λ_ J=>?_;have c0:=(ho _ s3).1;refine bp J func23 ((QN Jl eD mV hW B1 o_ (λj v hv=>aU b1 (hT j v hv)) hG WB (hv.below b1) λa e T2=>by
   have h1:=hp a e T2;have h2:=(ho _ s5).1;have h3:=(ho _ s8).1;omega).mono λe w' ⟨e1,e2⟩=>(⟨.bool true,e1,rfl,e2⟩:∃v,e=.returned v/\(v=.bool true/\_))) λv w2 XE _ J=>?_
  obtain⟨rfl,K',Yf,U4,rs',h2,Vi,x2⟩:=XE;refine aE J λ_ J=>?_;exact aH J ⟨rfl,mk hW h2 Vi (X1.trans x2 λb _ e=>by rcases e with e|e|e<;>rw[e]<;>assumption)⟩
 rw[show(k==1)=false from by rw[beq_eq_false_iff_ne];exact h1]at J;refine aF J λa J=>?_;refine aD false J ?_;refine ai J (λo ho=>dU (m:=k) (n:=2) ho (J.Q 16) rfl) λa J=>?_;by_cases h2:k=2
 .rw[show(k==2)=true from by rw[h2];rfl]at J;refine aF J λa J=>?_;refine aD true J ?_;refine C9 8 (J.only (G:=[(0,.pk pb 0),(3,.pk w.heap.size 0)]) ⟨rfl,rfl,trivial⟩) ?_
  iterate 3 refine cQ ?_
  refine aj ?_ (v:=.pk lb 0) (y:=λo a w ho z=>de ho gx (bk z.b YL) rfl (λ_=>by kernel_rfl));refine cQ ?_;refine aj ?_ (v:=.int .i64 A) (y:=λo a w ho z=>de ho gx (bk z.b c1) rfl (λ_=>by kernel_rfl));refine cQ ?_;refine aj ?_ (v:=.int .i64 D) (y:=λo a w ho z=>de ho gx (bk z.b c1) rfl (λ_=>by kernel_rfl));refine cc λ_ w2 J b2 _ rest hgo=>?_;have B2:=B1.below b2;refine bz J func53 (ML A D B2.lin B2.ch B2.fls) λw3 ⟨f3,x3⟩ _ J=>hgo _ _ λrest hgo=>?_;refine aE J λ_ J=>hgo _ _ ?_;obtain⟨_,b1',q1',Yc,r1,e1,_,g1,_⟩:=B2.fls;cases e1;have YK:=x3.at (dp B2.pr g1 d_) B2.pr;have YI:=x3.at (dp B2.ref g1 d_) B2.ref;have hfl3:=B2.rfs.keepB x3 (Ne.symm B2.nk.2.2);have c3:=x3.at (dp (bk b2 c1) g1 d_) (bk b2 c1);refine C9 8 (J.only (G:=[(0,.pk pb 0),(3,.pk w.heap.size 0),(5,.int .i64 (eY L.size on sl A D))]) ⟨rfl,rfl,rfl,trivial⟩) ?_
  iterate 3 refine cQ ?_
  refine aj ?_ (v:=.pk rb 0) (y:=λo a w ho z=>de ho gx (bk z.b YK) rfl (λ_=>by kernel_rfl));refine cQ ?_;refine aj ?_ (v:=.int .i64 A) (y:=λo a w ho z=>de ho gx (bk z.b c3) rfl (λ_=>by kernel_rfl));refine cQ ?_;refine aj ?_ (v:=.int .i64 D) (y:=λo a w ho z=>de ho gx (bk z.b c3) rfl (λ_=>by kernel_rfl));refine cc λ_ w4 J b4 _ rest hgo=>?_;have x4:Ex (λ_=>False) w3 w4:=an b4;refine bz J func54 (Q2 A D (bk b4 YI) (hfl3.keepB x4 (λe=>e))) λw5 ⟨f5,x5⟩ _ J=>hgo _ _ λrest hgo=>?_;refine aE J λ_ J=>hgo _ _ ?_;rw[xc hr]at J;rw[FA hr]at f5
  iterate 2 refine aE J λ_ J=>?_
  refine aE J (hy:=by intro o ho;exact uU ho rfl gx gx) λ_ J=>?_;rw[beq_self_eq_true]at J;refine aE J λ_ J=>?_;have X5:Ex (λb=>b=fb\/b=fr) w2 w5:=((Ex.wide x3 λ_ _ e=>.inl e).trans x4 λ_ _ e=>e.elim).trans x5 λ_ _ e=>.inr e;refine aH J ⟨rfl,mk hW (B2.fl X5 ((f3.keepB x4 λe=>e).keepB x5 λe=>B2.nk.2.2 e) f5 (zf ..)) hr ((X1.trans (an (X:=λ_=>False) b2) λ_ _ e=>e.elim).trans X5 λb _ e=>by rcases e with e|e<;>rw[e]<;>assumption)⟩
 rw[show(k==2)=false from by rw[beq_eq_false_iff_ne];exact h2]at J;refine aF J λa J=>?_;refine aD false J ?_;refine ai J (λo ho=>dU (m:=k) (n:=3) ho (J.Q 16) rfl) λa J=>?_;by_cases h3:k=3
 .rw[show(k==3)=true from by rw[h3];rfl]at J;refine aF J λa J=>?_;refine aD true J ?_;refine C9 8 (J.only (G:=[(0,.pk pb 0),(3,.pk w.heap.size 0)]) ⟨rfl,rfl,trivial⟩) ?_
  iterate 3 refine cQ ?_
  refine aj ?_ (v:=.pk lb 0) (y:=λo a w ho z=>de ho gx (bk z.b YL) rfl (λ_=>by kernel_rfl));refine cQ ?_;refine aj ?_ (v:=.int .i64 A) (y:=λo a w ho z=>de ho gx (bk z.b c1) rfl (λ_=>by kernel_rfl));refine cQ ?_;refine aj ?_ (v:=.int .i64 D) (y:=λo a w ho z=>de ho gx (bk z.b c1) rfl (λ_=>by kernel_rfl));refine cc λ_ w2 J b2 _ rest hgo=>?_;have B2:=B1.below b2;refine bz J func55 (NK A D B2.lin B2.ch) λw3 ⟨f3,x3⟩ _ J=>hgo _ _ λrest hgo=>?_;refine aE J λ_ J=>hgo _ _ ?_;have g1:=B2.ch.2.2;obtain⟨cw,gw,_⟩:=id B2.wds;have YK:=x3.at (dp B2.pr g1 d_) B2.pr;have YI:=x3.at (dp B2.ref g1 d_) B2.ref;have hwd3:=B2.wds.keep x3 (dp gw g1 d_);have c3:=x3.at (dp (bk b2 c1) g1 d_) (bk b2 c1);refine C9 8 (J.only (G:=[(0,.pk pb 0),(3,.pk w.heap.size 0),(7,.int .i64 (fW on A D))]) ⟨rfl,rfl,rfl,trivial⟩) ?_
  iterate 3 refine cQ ?_
  refine aj ?_ (v:=.pk rb 0) (y:=λo a w ho z=>de ho gx (bk z.b YK) rfl (λ_=>by kernel_rfl));refine cQ ?_;refine aj ?_ (v:=.int .i64 A) (y:=λo a w ho z=>de ho gx (bk z.b c3) rfl (λ_=>by kernel_rfl));refine cQ ?_;refine aj ?_ (v:=.int .i64 D) (y:=λo a w ho z=>de ho gx (bk z.b c3) rfl (λ_=>by kernel_rfl));refine cc λ_ w4 J b4 _ rest hgo=>?_;have x4:Ex (λ_=>False) w3 w4:=an b4;refine bz J func56 (QM A D hW.1 (bk b4 YI) (hwd3.keep x4 (λe=>e))) λw5 ⟨f5,x5⟩ _ J=>hgo _ _ λrest hgo=>?_;refine aE J λ_ J=>hgo _ _ ?_
  iterate 2 refine aE J λ_ J=>?_
  refine aE J (hy:=by intro o ho;exact uU ho rfl gx gx) λ_ J=>?_;rw[beq_self_eq_true]at J;refine aE J λ_ J=>?_;have X5:Ex (λb=>b=cb\/b=wb) w2 w5:=((Ex.wide x3 λ_ _ e=>.inl e).trans x4 λ_ _ e=>e.elim).trans x5 λ_ _ e=>.inr e;have hwb:=(ho _ s7).1;refine aH J ⟨rfl,mk (KA hW on A D) (B2.wd ⟨by omega,by omega⟩ X5 ((f3.ex x4 λe=>e).ex x5 λe=>dp gw g1 d_ e.symm) f5) hr ((X1.trans (an (X:=λ_=>False) b2) λ_ _ e=>e.elim).trans X5 λb _ e=>by rcases e with e|e<;>rw[e]<;>assumption)⟩
 rw[show(k==3)=false from by rw[beq_eq_false_iff_ne];exact h3]at J;refine aF J λa J=>?_;refine aD false J ?_;refine ai J (λo ho=>dU (m:=k) (n:=4) ho (J.Q 16) rfl) λa J=>?_;by_cases h4:k=4
 .rw[show(k==4)=true from by rw[h4];rfl]at J;refine aF J λa J=>?_;refine aD true J ?_
  iterate 4 refine aE J λ_ J=>?_
  refine bz J func57 (Jk B1.lin B1.ch) λw2 ⟨f2,x2⟩ _ J=>?_;have g1:=B1.ch.2.2;have hpr2:=x2.at (dp YL g1 d_) YL;have hrf2:=x2.at (dp B1.ref g1 d_) B1.ref
  iterate 4 refine aE J λ_ J=>?_
  refine bz J func58 (MH hrf2) λw3 ⟨r3,x3⟩ _ J=>?_;obtain⟨_,_,ck,fk,VW,_⟩:=id B1.kpt;have X3:Ex (λb=>b=cb\/b=rb\/b=kb) w1 w3:=(Ex.wide x2 λ_ _ e=>.inl e).trans x3 λ_ _ e=>.inr (.inl e);refine aE J λ_ J=>?_;refine aH J ⟨rfl,mk hW (B1.boot X3 (f2.ex x3 λe=>dp g1 B1.ref d_ e) r3 ((B1.kpt.keep x2 λe=>dp VW g1 d_ e).keep x3 λe=>dp VW B1.ref d_ e)) (λe=>by cases e) (X1.trans X3 λb _ e=>by rcases e with e|e|e<;>rw[e]<;>assumption)⟩
 rw[show(k==4)=false from by rw[beq_eq_false_iff_ne];exact h4]at J;refine aF J λa J=>?_;refine aD false J ?_;refine ai J (λo ho=>dU (m:=k) (n:=5) ho (J.Q 16) rfl) λa J=>?_;rw[show(k==5)=false from by rw[beq_eq_false_iff_ne];exact hk.1]at J;refine aF J λa J=>?_;refine aD false J ?_;refine ai J (λo ho=>dU (m:=k) (n:=6) ho (J.Q 16) rfl) λa J=>?_;rw[show(k==6)=false from by rw[beq_eq_false_iff_ne];exact hk.2.1]at J;refine aF J λa J=>?_;refine aD false J ?_;refine ai J (λo ho=>dU (m:=k) (n:=7) ho (J.Q 16) rfl) λa J=>?_;rw[show(k==7)=false from by rw[beq_eq_false_iff_ne];exact hk.2.2]at J;refine aF J λa J=>?_;refine aD false J ?_;refine aE J λ_ J=>?_;exact aH J ⟨rfl,mk hW B1 hr X1⟩
end

section
variable{u:TypeId}
theorem Fh{len cap:Nat}(SS:o.op=.indexAddr 68 x y)(hx:ev x=.slice (some ad) len cap)(hy:ev y=.int .i64 n)(hn:n<len):(execOp ev o).run prog w=.ok (.value (.pointer (some (ad.add (n*5))))) w:=by
 have ht:prog.underlying 68=some (.slice 70):=by kernel_rfl
 have h1:(sizeOf 70).run prog w=.ok 5 w:=by kernel_rfl
 simp[execOp,SS,hx,hy,go_sem,ht,h1,hn]
theorem Mz(SS:o.op=.fieldAddr 70 x 3)(hx:ev x=.pointer (some ad)):(execOp ev o).run prog w=.ok (.value (.pointer (some (ad.add 3)))) w:=by
 have e:execOp ev o=(do pure (.value (←aw1 70 (.pointer (some ad)) 3))):=by simp only[execOp,SS,hx]
 have h2:(do pure (.value (←aw1 70 (.pointer (some ad)) 3)):Sem Next).run prog w=.ok (.value (.pointer (some (ad.add 3)))) w:=by kernel_rfl
 rw[e,h2]
theorem Mq{vs:List Value}(hl:vs.length=5)(SS:o.op=.load 70 x)(hx:ev x=.pointer (some ad))(h:∀j u,vs[j]?=some u->w.cell? (ad.add j)=some u):(execOp ev o).run prog w=.ok (.value (.agg vs.toArray)) w:=by
 have Wl:=run_loadCells_list (P:=prog) w ad vs h;have h2:(isAgg 70).run prog w=.ok true w:=by kernel_rfl
 rw[hl]at Wl;simp[execOp,SS,hx,Instr.loadAt,Instr.sureAddr,loadVar,h2,Wl]
theorem ID{m:Int}(SS:o.op=.binOp .rem 3 x y u)(hx:ev x=.int .i64 m)(hy:ev y=.int .i64 2):(execOp ev o).run prog w=.ok (.value (.int .i64 (m.tmod 2))) w:=by
 simp[execOp,SS,hx,hy,go_sem]
theorem IG{m:Int}(SS:o.op=.binOp .neq 3 x y u)(hx:ev x=.int .i64 m)(hy:ev y=.int .i64 0):(execOp ev o).run prog w=.ok (.value (.bool (m !=0))) w:=by
 simp[execOp,SS,hx,hy,go_sem]
end
structure Eh where
 k:Int
 A:Int
 D:Int
 E:Int
 lp:Option Addr
 G:List Int
 lq:Nat
def Eh.vs(s:Eh):List Value:=[.int .i64 s.k,.int .i64 s.A,.int .i64 s.D,.int .i64 s.E,.slice s.lp s.G.length s.lq]
structure Eh.Ok (s:Eh) (w:World):Prop where
 len:s.G.length<=17592186043904
 all:∀x∈s.G,x<9223372036854775808
 sl:cV w (.slice s.lp s.G.length s.lq) (aO s.G)
def Hg(w:World)(p:Option Addr)(L:List Eh):Prop:=∀(i:Nat) (s:Eh),L[i]?=some s->s.Ok w/\∃ad:Addr,p=some ad/\∀(j:Nat) (u:Value),s.vs[j]?=some u->w.cell? ((ad.add (i*5)).add j)=some u
section
variable{hb:Nat}
theorem sT{rb fr:Nat}{W K:List Int}{on:Bool}{mv:Value}(h:P9 w pb lb cb fb fq rb fr Tp wb qw kb qk hb hq tb tq ef W K L on sl on rs lv mv ls m w')(hW:dL W)(hr:on=true->rs=sl)(hm:m<=n+8)(s:S pb/\S lb/\S cb/\S fb/\S rb/\S fr/\S wb/\S kb)(k1:∀b,lv.ownBlock=some b->S b)(k2:∀b,mv.ownBlock=some b->S b)(k3:∀v b,v∈ls->v.ownBlock=some b->S b)(ho:∀b,S b->B<=b/\b<w.heap.size)(ht:hb<B/\tb<B):x_ S B hb hq tb tq pb (n+8) w w':=by
 obtain⟨VI,VH,W3,W9,h1,h2,a1,a2,a3,hx⟩:=h;have hz:=hx.size;have hB:=ho _ s.1;obtain⟨s1,s2,s3,s4,s5,s6,s7,s8⟩:=s;have l1:∀b,VI.ownBlock=some b->b<w'.heap.size:=λb e=>mG h1.lst.ol e;have l2:∀b,VH.ownBlock=some b->b<w'.heap.size:=λb e=>mG h1.lst.om e;have l3:∀v b,v∈W3->v.ownBlock=some b->b<w'.heap.size:=λv b e1 e2=>(h1.lst.apart v b e1 e2).2.2;refine⟨λb=>S b\/(w.heap.size<=b/\b<w'.heap.size),⟨⟨lb,cb,fb,fq,rb,fr,Tp,wb,qw,kb,qk,L,W,K,on,sl,rs,VI,VH,W3,W9,hW,h1,hr,by omega,⟨.inl s1,.inl s2,.inl s3,.inl s4,.inl s5,.inl s6,.inl s7,.inl s8⟩,λb e=>(a1 b e).imp (k1 b) λh=>⟨h,l1 b e⟩,λb e=>(a2 b e).imp (k2 b) λh=>⟨h,l2 b e⟩,λv b e1 e2=>(a3 v b e1 e2).imp (λh=>k3 v b h e2) λh=>⟨h,l3 v b e1 e2⟩⟩,λb e=>?_,ht⟩,λb e=>e.imp id λh=>h.1,Ex.wide hx λb _ e=>?_⟩
 .rcases e with e|e
  .have:=ho b e;omega
  .omega
 .rcases e with e|e|e
  .rw[e];exact s1
  .exact k1 b e
  .exact k2 b e
theorem Pr.play{s:Eh}(h:Pr S B hb hq tb tq pb n w)(hn:n<=90000000)(hT:w.rangeAt 0 0 (aI ef))(hs:s.Ok w)(hp:∀a:Addr,s.lp=some a->s.G≠[]->a.block<B):
 Cl kX 25 #[.pk pb 0,.agg (yx s.k s.A s.D s.E s.lp s.G.length s.lq)] w λe w'=>e=.returned (.bool true)/\x_ S B hb hq tb tq pb (n+8) w w':=by
 have bel:∀{w':World},Bw w w'->x_ S B hb hq tb tq pb (n+8) w w':=λb=>⟨S,(h.below b).more o_,λ_ e=>.inl e,an b⟩;by_cases h5:s.k=5
 .obtain⟨⟨lb,cb,fb,fq,rb,fr,Tp,wb,qw,kb,qk,L,W,K,on,sl,rs,lv,mv,ls,ms,hW,W8,_⟩,ho,ht⟩:=h;rw[h5];exact(Lm W8).mono λe w' ⟨e1,e2⟩=>⟨e1,bel e2⟩
 by_cases h6:s.k=6
 .obtain⟨⟨lb,cb,fb,fq,rb,fr,Tp,wb,qw,kb,qk,L,W,K,on,sl,rs,lv,mv,ls,ms,hW,W8,hr,hm,s0,k1,k2,k3⟩,ho,ht⟩:=h;rw[h6];exact(Ll hW.1 W8 o_).mono λe w' ⟨e1,e2⟩=>⟨e1,sT e2 hW hr o_ s0 k1 k2 k3 ho ht⟩
 by_cases h7:s.k=7
 .obtain⟨⟨lb,cb,fb,fq,rb,fr,Tp,wb,qw,kb,qk,L,W,K,on,sl,rs,lv,mv,ls,ms,hW,W8,_⟩,ho,ht⟩:=h;rw[h7];exact(Lj W8).mono λe w' ⟨e1,e2⟩=>⟨e1,bel e2⟩
 exact(Q3 h hT hs.len hs.all hs.sl hp ⟨h5,h6,h7⟩).mono λe w' ⟨e1,S',p,a,b⟩=>⟨e1,S',p.more o_,a,b⟩
theorem Pr.looked(h:Pr S B hb hq tb tq pb n w)(hn:n<=90000000):Cl kX 22 #[.pk pb 0] w λe w'=>e=.returned (.bool true)/\x_ S B hb hq tb tq pb (n+8) w w':=by
 obtain⟨⟨lb,cb,fb,fq,rb,fr,Tp,wb,qw,kb,qk,L,W,K,on,sl,rs,lv,mv,ls,ms,hW,W8,hr,hm,s0,k1,k2,k3⟩,ho,ht⟩:=h;exact(zL hW.1 W8 o_).mono λe w' ⟨e1,e2⟩=>⟨e1,sT e2 hW hr o_ s0 k1 k2 k3 ho ht⟩
theorem Pr.kept(h:Pr S B hb hq tb tq pb n w)(hn:n<=90000000):Cl kX 26 #[.pk pb 0] w λe w'=>e=.returned (.bool true)/\Bw w w':=by
 obtain⟨⟨lb,cb,fb,fq,rb,fr,Tp,wb,qw,kb,qk,L,W,K,on,sl,rs,lv,mv,ls,ms,hW,W8,hr,hm,_⟩,ho,ht⟩:=h;exact ub W8.pr W8.lst o_
end
structure AQ (B hb tb xb yb n:Nat) (w:World):Prop where
 it:∃S T,Pr S B hb 8 tb 64 xb n w/\Pr T B hb 8 tb 64 yb n w/\∀b,S b->¬T b
section
variable{hb xb yb:Nat}
theorem AQ.swap(h:AQ B hb tb xb yb n w):AQ B hb tb yb xb n w:=let ⟨S,T,a,b,c⟩:=h.it;⟨T,S,b,a,λx t s=>c x s t⟩
theorem AQ.below(h:AQ B hb tb xb yb n w)(b:Bw w w'):AQ B hb tb xb yb n w':=let ⟨S,T,x,y,c⟩:=h.it;⟨S,T,x.below b,y.below b,c⟩
theorem AQ.step(h:AQ B hb tb xb yb n w)(hc:∀S,Pr S B hb 8 tb 64 xb n w->Cl kX f args w λe w'=>e=.returned (.bool true)/\x_ S B hb 8 tb 64 xb (n+8) w w'):Cl kX f args w λe w'=>e=.returned (.bool true)/\AQ B hb tb xb yb (n+8) w'/\Below B w w':=by
 obtain⟨S,T,x,y,d⟩:=h.it;refine(hc S x).mono λe w' ⟨e1,S',p,a,hx⟩=>⟨e1,⟨S',T,p,(y.stay hx (λb hT hS=>d b hS hT) λb hS=>(x.old b hS).1).more o_,λb hS hT=>?_⟩,hx.os,hx.tape,hx.output,hx.size,λb hb=>hx.block b ?_ λhS=>?_⟩
 .rcases a b hS with e|e
  .exact d b e hT
  .have:=(y.old b hT).2;omega
 .obtain⟨lb,cb,fb,fq,rb,fr,Tp,wb,qw,kb,qk,L,W,K,on,sl,rs,lv,mv,ls,ms,_,_,_,_,s0,_⟩:=x.it;have:=x.old _ s0.1;omega
 .have:=x.old b hS;omega
theorem AQ.any(h:AQ B hb tb xb yb n w)(hz:zb=xb\/zb=yb)(hc:∀S,Pr S B hb 8 tb 64 zb n w->Cl kX f args w λe w'=>e=.returned (.bool true)/\x_ S B hb 8 tb 64 zb (n+8) w w'):Cl kX f args w λe w'=>e=.returned (.bool true)/\AQ B hb tb xb yb (n+8) w'/\Below B w w':=by
 rcases hz with rfl|rfl
 .exact h.step hc
 .exact(h.swap.step hc).mono λe w' ⟨a,b,c⟩=>⟨a,b.swap,c⟩
end

end Go.Proofs.YtkmoglhgkcnalaaGreatDoor.L1
namespace Go.Proofs.YtkmoglhgkcnalaaGreatDoor
open Go Go.Conc Go.RowKit Go.Proofs.YtkmoglhgkcnalaaGreatDoor.L1
section
variable{m n:Mc}{p:Option Addr}{L:List Eh}
theorem KW(hm:m.Ok w)(hn:n.Ok w)(hT:w.rangeAt 0 0 (aI ef))(hS:Hg w p L)(hL:L.length<=1048576)(cs:List Frame):
 Rn kX (λg w'=>∃(a:Act) (k:List Item) (v:Value),g=dj {(base 7).atR a k with mode:=.returning} cs/\a.defers=[]/\a.tmps[6]?=some v/\(v=.bool true/\Bw w w')) (ay2 prog 7 #[.agg m.cells,.agg n.cells,.slice p L.length q] .normal) cs w:=by
 refine bv (N:=94) (L:=[.agg m.cells,.agg n.cells,.slice p L.length q]) func7 rfl λa J=>?_;refine dw J λw0 _ b0 c0 z0 J=>?_;refine dw J λw1 _ b1' c1 z1 J=>?_;have b1:=ae b0 b0.size b1';have c0:=bk b1' c0;refine ab J λ_ J=>?_;refine bp (R:=λv w'=>∃hb kb,v=.agg #[.sk hb 8 8,.sk kb 64 64]/\w'.heap[hb]?=some (.cells (aV H0).toArray 3)/\w'.heap[kb]?=some (.cells (aV ef).toArray 3)/\Bw w1 w') J func8 ((u_ w1).mono λ_ _ ⟨hb,kb,h1,_,_,h2,h3,h4⟩=>⟨_,h1,hb,kb,rfl,h2,h3,h4⟩) λv w2 hv _ J=>?_;obtain⟨hb,tb,rfl,hh2,ht2,b2⟩:=hv;have hh2:dZ w2 hb H0:=⟨_,hh2,λi x hx=>by simpa[aV]using hx⟩;have ht2:dZ w2 tb ef:=⟨_,ht2,λi x hx=>by simpa[aV]using hx⟩;have B2:=ae b1 b1.size b2;have c0:=bk b2 c0;have c1:=bk b2 c1;refine dA J λg3 w3 _ h3 b3 c3 z3 J=>?_;refine cZ J (hy:=by intro o ho;exact eP (vs:=#[.sk hb 8 8,.sk tb 64 64]) ho gx gx c3 k_ rfl (by simp[ax4])) λw4 _ hp J=>?_;have b4:Bw w2 w4:=b3.trans (hp.below h3);have c4:=hp.here;have B4:=ae B2 B2.size b4;have hh4:=dZ.below hh2 b4;have ht4:=dZ.below ht2 b4;have c0:=bk b4 c0;have c1:=bk b4 c1;have VJ:=B4.size;refine ab J (hy:=by intro o ho;exact uS ho gx c0) λ_ J=>?_;refine ab J (hy:=by intro o ho;exact cF ⟨_,_,rfl⟩ ho gx c4) λ_ J=>?_;refine bp J func24 (xr (hm.below B4) hh4 ht4) λv w5 hv _ J=>?_;obtain⟨⟨xb,rfl,hM⟩,b5⟩:=hv;have B5:=ae B4 B4.size b5;have Yh:=b5.size;have c1:=bk b5 c1;have c4:=bk b5 c4
 iterate 5 refine ab J λ_ J=>?_
 refine ab J (hy:=by intro o ho;exact uS ho gx c1) λ_ J=>?_;refine ab J (hy:=by intro o ho;exact cF ⟨_,_,rfl⟩ ho gx c4) λ_ J=>?_;refine bp J func24 (xr (hn.below B5) (dZ.below hh4 b5) (dZ.below ht4 b5)) λv w6 hv _ J=>?_;obtain⟨⟨yb,rfl,hN⟩,b6⟩:=hv;have B6:=ae B5 B5.size b6;have hs6:=b6.size;have ht:hb<w4.heap.size/\tb<w4.heap.size:=⟨hh4.lt,ht4.lt⟩;have T6:AQ w4.heap.size hb tb xb yb (8*0) w6:=⟨_,_,(L1.Hu.pr hM (aw0 _) ht).below b6,L1.Hu.pr hN Yh ht,λb h1 h2=>by omega⟩
 iterate 5 refine ab J λ_ J=>?_
 obtain⟨S0,T0,YB,hy0,_⟩:=T6.it;obtain⟨lx,_,_,_,_,_,_,_,_,_,_,_,_,_,_,_,_,_,_,_,_,_,hBx,_⟩:=YB.it;obtain⟨ly,_,_,_,_,_,_,_,_,_,_,_,_,_,_,_,_,_,_,_,_,_,hBy,_⟩:=hy0.it;have hpx:=hBx.pr;have hpy:=hBy.pr
 iterate 5 refine ab J λ_ J=>?_
 refine ab J (v:=.bool false) (hy:=by intro o ho;exact fJ ho gx gx) λ_ J=>?_
 iterate 4 refine ab J λ_ J=>?_
 refine ab J (v:=.pk lx 0) (hy:=by intro o ho;exact de ho gx hpx rfl (λ_=>by kernel_rfl)) λ_ J=>?_;refine ab J (v:=.bool false) (hy:=by intro o ho;exact Fp ho gx rfl) λ_ J=>?_;refine ab J (v:=.bool false) (hy:=by intro o ho;exact fJ ho gx gx) λ_ J=>?_
 iterate 4 refine ab J λ_ J=>?_
 refine ab J (v:=.pk ly 0) (hy:=by intro o ho;exact de ho gx hpy rfl (λ_=>by kernel_rfl)) λ_ J=>?_;refine ab J (v:=.bool false) (hy:=by intro o ho;exact Fp ho gx rfl) λ_ J=>?_;refine ab J (v:=.bool false) (hy:=by intro o ho;exact fJ ho gx gx) λ_ J=>?_;refine aD false J ?_;have tab:∀{w':World},Bw w w'->w'.rangeAt 0 0 (aI ef):=λhb j v hv=>aU hb (hT j v hv);refine ab J λ_ J=>?_;refine gQ (λi a' w'=>i<=L.length/\AQ w4.heap.size hb tb xb yb (8*i) w'/\Bw w w'/\aB [(2,.slice p L.length q),(8,.pk xb 0),(10,.pk yb 0),(12,.int .i64 ((i:Nat):Int))] 94 [] a') (λi:Nat=>L.length- i) 0 ⟨ay7 _,T6,B6,J.only ⟨rfl,rfl,rfl,rfl,trivial⟩⟩ ?_;clear J;intro i a' w' ⟨hi,hW,bW,J⟩ ih
 iterate 3 refine ab J λ_ J=>?_
 refine ab J (v:=.bool (decide ((i:Int)<(L.length:Int)))) (hy:=by intro o ho;exact(ii (m:=(i:Int)) (n:=(L.length:Int)) ho gx gx).1) λ_ J=>?_;by_cases SX:¬i<L.length
 .refine aD false J ?_ (hq:=decide_eq_false o_);clear ih;refine ab J λ_ J=>?_;refine bz J func22 (hW.any (.inl rfl) λS h=>h.looked o_) λw7 ⟨T7,b7⟩ _ J=>?_;have B7:=bW.trans (b7.mono VJ)
  iterate 2 refine ab J λ_ J=>?_
  refine bz J func22 (T7.any (.inr rfl) λS h=>h.looked o_) λw8 ⟨T8,b8⟩ _ J=>?_;have B8:=B7.trans (b8.mono VJ)
  iterate 4 refine ab J λ_ J=>?_
  refine ab J (v:=.bool true) (hy:=by intro o ho;exact fI ho gx gx) λ_ J=>?_;refine ab J λ_ J=>?_;exact aH J ⟨rfl,B8⟩
 have SX:=aX9.1 SX;refine aD true J ?_ (hq:=decide_eq_true o_);obtain⟨s,hs⟩:∃s,L[i]?=some s:=⟨L[i],aw3 SX⟩;obtain⟨hsO,ad,rfl,T4⟩:=hS i s hs;have cell:∀{w':World},Bw w w'->∀(j:Nat) (u:Value),s.vs[j]?=some u->w'.cell? ((ad.add (i*5)).add j)=some u:=λhb j u hu=>aU hb (T4 j u hu)
 iterate 4 refine ab J λ_ J=>?_
 refine ab J (hy:=by intro o ho;exact Fh (n:=i) ho gx gx SX) λ_ J=>?_;refine ab J (hy:=by intro o ho;exact Mz ho gx) λ_ J=>?_;refine ab J (v:=.int .i64 s.E) (hy:=by intro o ho;exact(av aC ho gx (cell bW 3 _ rfl)).1) λ_ J=>?_;refine ab J (v:=.int .i64 (s.E.tmod 2)) (hy:=by intro o ho;exact ID ho gx rfl) λ_ J=>?_;refine ab J (v:=.bool (s.E.tmod 2 !=0)) (hy:=by intro o ho;exact IG ho gx rfl) λ_ J=>?_;have go:∀z:Nat,(z=xb\/z=yb)->Cl kX 25 #[.pk z 0,.agg (yx s.k s.A s.D s.E s.lp s.G.length s.lq)] w' λe Tm=>e=.returned (.bool true)/\AQ w4.heap.size hb tb xb yb (8*i+8) Tm/\Below w4.heap.size w' Tm:=λz hz=>hW.any hz λS h=>h.play o_ (tab bW) ⟨hsO.len,hsO.all,hsO.sl.below bW⟩ λa e T2=>aw2 (PI hsO.sl a e T2) VJ;rcases Decidable.em (s.E.tmod 2=0)with he|he;refine aD false J ?_ (hq:=by rw[he];rfl)
 rotate_left
 refine aD true J ?_ (hq:=by rw[bne_iff_ne];exact he)
 iterate 2 refine ab J λ_ J=>?_
 have go:=go yb (.inr rfl)
 rotate_left
 have go:=go xb (.inl rfl)
 all_goals
  iterate 3 refine ab J λ_ J=>?_
  refine ab J (hy:=by intro o ho;exact Fh (n:=i) ho gx gx SX) λ_ J=>?_;refine ab J (v:=.agg (yx s.k s.A s.D s.E s.lp s.G.length s.lq)) (hy:=by intro o ho;exact Mq (vs:=s.vs) rfl ho gx (cell bW)) λ_ J=>?_;refine bz J func25 go λw7 ⟨T7,b7⟩ _ J=>?_;have B7:=bW.trans (b7.mono VJ);obtain⟨S7,U7,hx7,hy7,_⟩:=T7.it
  iterate 2 refine ab J λ_ J=>?_
  refine bz J func26 (hx7.kept o_) λw8 b8 _ J=>?_;have B8:=ae B7 B7.size b8
  iterate 2 refine ab J λ_ J=>?_
  refine bz J func26 ((hy7.below b8).kept o_) λw9 b9 _ J=>?_;have B9:=ae B8 B8.size b9
  iterate 6 refine ab J λ_ J=>?_
  refine ab J (v:=.bool false) (hy:=by intro o ho;exact fJ ho gx gx) λ_ J=>?_
  iterate 3 refine ab J λ_ J=>?_
  refine ab J (v:=.bool false) (hy:=by intro o ho;exact fJ ho gx gx) λ_ J=>?_;refine aD false J ?_;refine ab J λ_ J=>?_;refine ab J (v:=.int .i64 ((i+1:Nat):Int)) (hy:=by intro o ho;exact aN (n:=1) ho gx rfl o_) λ_ J=>?_;refine ab J λ_ J=>?_;exact gA (ih (i+1) _ _ ⟨SX,(T7.below b8).below b9,B9,J.only ⟨rfl,rfl,rfl,rfl,trivial⟩⟩ o_)
end

end Go.Proofs.YtkmoglhgkcnalaaGreatDoor
namespace Go.Proofs.YtkmoglhgkcnalaaGreatDoor
open Go Go.ChangeShapes Go.WideShapes Go.ChangeAt Go.Proofs.YtkmoglhgkcnalaaGreatDoor.L1
theorem j9{z:Int}(h:(Lit.int .i64 z).wf=true):sW z:=by
 have h1:ax8.min= -9223372036854775808:=rfl;have h2:ax8.max=9223372036854775807:=rfl;simp[Lit.wf,h1,h2]at h;unfold sW;omega
section
variable{H:Type}{enc:TypeId×Value->H}{W:World}{base:Nat}{spare:Nat->Bool}{held:Bool}
theorem cw:prog.cellsOf 23=4:=by kernel_rfl
theorem SC:prog.cellsOf 41=16:=by kernel_rfl
theorem SO:prog.cellsOf 65=41:=by kernel_rfl
theorem ci:prog.cellsOf 3=1:=by kernel_rfl
theorem DJ:prog.cellsOf 9=1:=by kernel_rfl
theorem R_:prog.cellsOf 24=1:=by kernel_rfl
theorem tC{c0 c1 c2 c3:Value}{x:DataW H×List MemPlace}(hf:az4 enc prog W base spare held n 23 [c0,c1,c2,c3]=some x):
 ∃(a b c:Int) (m:ByteArray),[c0,c1,c2,c3]=[.int .i64 a,.int .i64 b,.int .i64 c,.string m]/\x=(.agg [.lit (.int .i64 a),.lit (.int .i64 b),.lit (.int .i64 c),.lit (.string m.data.toList)],[])/\(Lit.int .i64 a).wf=true/\(Lit.int .i64 b).wf=true/\(Lit.int .i64 c).wf=true:=by
 obtain⟨xs,n,rfl,hx,_,hl,hp⟩:=aO9 underlying23 hf
 match xs,hl with
 |[y0,y1,y2,y3],_=>
  have e0:az4 enc prog W base spare held n 3 (([c0,c1,c2,c3].drop 0).take (prog.cellsOf 3))=some y0:=hp 0 _ rfl;have e1:az4 enc prog W base spare held n 3 (([c0,c1,c2,c3].drop 1).take (prog.cellsOf 3))=some y1:=hp 1 _ rfl;have e2:az4 enc prog W base spare held n 3 (([c0,c1,c2,c3].drop 2).take (prog.cellsOf 3))=some y2:=hp 2 _ rfl;have e3:az4 enc prog W base spare held n 9 (([c0,c1,c2,c3].drop 3).take (prog.cellsOf 9))=some y3:=hp 3 _ rfl;rw[ci]at e0 e1 e2;rw[DJ]at e3;obtain⟨x,q0,r0,w0⟩:=aB0 underlying3 e0;obtain⟨y,q1,r1,w1⟩:=aB0 underlying3 e1;obtain⟨z,q2,r2,w2⟩:=aB0 underlying3 e2;obtain⟨m,q3,r3,w3⟩:=aP_ underlying9 e3;simp only[aY4,aV3,List.cons.injEq,and_true]at q0 q1 q2 q3;subst q0 q1 q2 q3 r0 r1 r2 r3;simp only[aI5,aS9,aF3,aS2,aG7]at hx;exact⟨x,y,z,m,rfl,hx,w0,w1,w2⟩
def Rt(H:Type)(i:Im):DataW H:=.agg [.lit (.int .i64 i.ch),.lit (.int .i64 i.qi),.lit (.string i.seed.data.toList),.lit (.int .i64 i.ver),.lit (.int .i64 i.en),.lit (.int .i64 i.gap),.lit (.int .i64 i.ex),.lit (.string i.body.data.toList),.agg [.lit (.int .i64 i.sa),.lit (.int .i64 i.sw),.lit (.int .i64 i.sc),.lit (.string i.sm.data.toList)],.agg [.lit (.int .i64 i.aa),.lit (.int .i64 i.aw),.lit (.int .i64 i.aq),.lit (.string i.am.data.toList)]]
theorem xD{fuel:Nat}{c0 c1 c2 c3 c4 c5 c6 c7 c8 c9 Xr WE Xq Xp Xo Xm:Value}{x:DataW H×List MemPlace}(hf:az4 enc prog W base spare held fuel 41 [c0,c1,c2,c3,c4,c5,c6,c7,c8,c9,Xr,WE,Xq,Xp,Xo,Xm]=some x):
 ∃i:Im,[c0,c1,c2,c3,c4,c5,c6,c7,c8,c9,Xr,WE,Xq,Xp,Xo,Xm]=[.int .i64 i.ch,.int .i64 i.qi,.string i.seed,.int .i64 i.ver,.int .i64 i.en,.int .i64 i.gap,.int .i64 i.ex,.string i.body,.int .i64 i.sa,.int .i64 i.sw,.int .i64 i.sc,.string i.sm,.int .i64 i.aa,.int .i64 i.aw,.int .i64 i.aq,.string i.am]/\x=(Rt H i,[])/\(Lit.int .i64 i.ch).wf=true/\(Lit.int .i64 i.qi).wf=true/\(Lit.int .i64 i.en).wf=true/\(Lit.int .i64 i.gap).wf=true/\(Lit.int .i64 i.sa).wf=true/\(Lit.int .i64 i.sc).wf=true/\(Lit.int .i64 i.aa).wf=true:=by
 obtain⟨xs,n,rfl,hx,_,hl,hp⟩:=aO9 underlying41 hf
 match xs,hl with
 |[y0,y1,y2,y3,y4,y5,y6,y7,y8,y9],_=>
  have e0:az4 enc prog W base spare held n 3 (([c0,c1,c2,c3,c4,c5,c6,c7,c8,c9,Xr,WE,Xq,Xp,Xo,Xm].drop 0).take (prog.cellsOf 3))=some y0:=hp 0 _ rfl;rw[ci]at e0;have e1:az4 enc prog W base spare held n 3 (([c0,c1,c2,c3,c4,c5,c6,c7,c8,c9,Xr,WE,Xq,Xp,Xo,Xm].drop 1).take (prog.cellsOf 3))=some y1:=hp 1 _ rfl;rw[ci]at e1;have e2:az4 enc prog W base spare held n 9 (([c0,c1,c2,c3,c4,c5,c6,c7,c8,c9,Xr,WE,Xq,Xp,Xo,Xm].drop 2).take (prog.cellsOf 9))=some y2:=hp 2 _ rfl;rw[DJ]at e2;have e3:az4 enc prog W base spare held n 3 (([c0,c1,c2,c3,c4,c5,c6,c7,c8,c9,Xr,WE,Xq,Xp,Xo,Xm].drop 3).take (prog.cellsOf 3))=some y3:=hp 3 _ rfl;rw[ci]at e3;have e4:az4 enc prog W base spare held n 3 (([c0,c1,c2,c3,c4,c5,c6,c7,c8,c9,Xr,WE,Xq,Xp,Xo,Xm].drop 4).take (prog.cellsOf 3))=some y4:=hp 4 _ rfl;rw[ci]at e4;have e5:az4 enc prog W base spare held n 3 (([c0,c1,c2,c3,c4,c5,c6,c7,c8,c9,Xr,WE,Xq,Xp,Xo,Xm].drop 5).take (prog.cellsOf 3))=some y5:=hp 5 _ rfl;rw[ci]at e5;have e6:az4 enc prog W base spare held n 3 (([c0,c1,c2,c3,c4,c5,c6,c7,c8,c9,Xr,WE,Xq,Xp,Xo,Xm].drop 6).take (prog.cellsOf 3))=some y6:=hp 6 _ rfl;rw[ci]at e6;have e7:az4 enc prog W base spare held n 9 (([c0,c1,c2,c3,c4,c5,c6,c7,c8,c9,Xr,WE,Xq,Xp,Xo,Xm].drop 7).take (prog.cellsOf 9))=some y7:=hp 7 _ rfl;rw[DJ]at e7;have e8:az4 enc prog W base spare held n 23 (([c0,c1,c2,c3,c4,c5,c6,c7,c8,c9,Xr,WE,Xq,Xp,Xo,Xm].drop 8).take (prog.cellsOf 23))=some y8:=hp 8 _ rfl;rw[cw]at e8;have e9:az4 enc prog W base spare held n 23 (([c0,c1,c2,c3,c4,c5,c6,c7,c8,c9,Xr,WE,Xq,Xp,Xo,Xm].drop 12).take (prog.cellsOf 23))=some y9:=hp 9 _ rfl;rw[cw]at e9;obtain⟨ch,q0,r0,w0⟩:=aB0 underlying3 e0;obtain⟨qi,q1,r1,w1⟩:=aB0 underlying3 e1;obtain⟨seed,q2,r2,w2⟩:=aP_ underlying9 e2;obtain⟨ver,q3,r3,w3⟩:=aB0 underlying3 e3;obtain⟨en,q4,r4,w4⟩:=aB0 underlying3 e4;obtain⟨gap,q5,r5,w5⟩:=aB0 underlying3 e5;obtain⟨ex,q6,r6,w6⟩:=aB0 underlying3 e6;obtain⟨body,q7,r7,w7⟩:=aP_ underlying9 e7;obtain⟨sa,sw,sc,sm,q8,r8,u8,v8,w8⟩:=tC e8;obtain⟨aa,aw,aq,am,q9,r9,u9,v9,w9⟩:=tC e9;simp only[aY4,aV3,List.cons.injEq,and_true]at q0 q1 q2 q3 q4 q5 q6 q7 q8 q9;obtain⟨s1,s2,s3,s4⟩:=q8;obtain⟨t1,t2,t3,t4⟩:=q9;subst q0 q1 q2 q3 q4 q5 q6 q7 s1 s2 s3 s4 t1 t2 t3 t4 r0 r1 r2 r3 r4 r5 r6 r7 r8 r9;simp only[aI5,aS9,aF3,aS2,aG7]at hx;exact⟨⟨ch,qi,seed,ver,en,gap,ex,body,sa,sw,sc,sm,aa,aw,aq,am⟩,rfl,hx,w0,w1,w4,w5,u8,w8,u9⟩
theorem vB{fuel:Nat}{cs:List Value}{x:DataW H×List MemPlace}(h:az4 enc prog W base (λ_=>true) held fuel 24 cs=some x):
 ∃(p:Option Addr) (B:List Int) (q:Nat),cs=[.slice p B.length q]/\cV W (.slice p B.length q) (aO B)/\(∀z∈B,(Lit.int .i64 z).wf=true)/\∀N,(∀n∈b00 prog 24 x.1,n<=N)->B.length*8<=N:=by
 rcases open_ints underlying24 underlying3 ci h with⟨e,_⟩|⟨a,len,cap,zs,e,_,hl,_,hz,hx,hc,hwf⟩
 .subst e;exact⟨none,[],0,rfl,⟨none,0,rfl,λi u h=>by simp[aO]at h⟩,λz h=>(by simp at h),λN _=>by simp⟩
 .subst e;rw[if_pos rfl]at hz;have hlen:(zs.take len).length=len:=by rw[List.length_take];omega
  refine⟨some a,zs.take len,cap,by rw[hlen],⟨some a,cap,by simp[aO],λi u hi=>⟨a,rfl,?_⟩⟩,λz h=>hwf z (List.mem_of_mem_take h),λN h=>?_⟩
  .have Tj:i<len:=(by have:=(aw5.1 hi).1;simp[aO]at this;omega);rw[hc i o_,←hi];simp[aO,Tj,List.getD,show i<zs.length by omega]
  .have hb:prog.bytesOf 3=8:=(by kernel_rfl);rw[hx]at h;have:=h ((min len zs.length+(zs.length- len))*8) (by simp[b00,lits,underlying24,hb]);simp;omega
theorem tV{r:Go.Reach}{b0:Nat}{d:DataW H}{ps:List MemPlace}(UD:aS3 prog W r b0 65 v)(hd:b32 enc prog W base (λ_=>true) held 65 v d ps):
 ∃(m:Mc) (du dy:DataW H),v=.agg m.cells/\d=.agg [Rt H m.A,Rt H m.B,.lit (.int .i64 m.has),.lit (.int .i64 m.st),.lit (.int .i64 m.le),du,dy,.lit (.int .i64 m.wd),.lit (.int .i64 m.bt),.lit (.int .i64 m.cut),.lit (.string m.kp.data.toList)]/\((m.A.seed.size<=140737488351232/\m.A.sm.size<=140737488351232/\m.B.seed.size<=140737488351232/\m.B.sm.size<=140737488351232/\m.kp.size<=140737488351232)->m.Ok W):=by
 obtain⟨cs,rfl,Tf⟩:=okWide_struct underlying65 UD;rw[SO]at Tf;obtain⟨l⟩:=cs
 match l,Tf with
 |XB::XA::Xz::Xy::Xx::Xw::Xv::Xu::Xt::Xs::Ve::Vd::Vb::Va::V9::V8::V7::V6::V5::V4::V3::V2::V1::U_::UZ::UY::UX::UW::UV::UU::UT::US::UR::UQ::UP::UO::UN::UM::UL::UK::UJ::[],_=>
  obtain⟨fuel,hf⟩:=hd;obtain⟨xs,n,rfl,hx,_,hl,hp⟩:=aO9 underlying65 hf
  match xs,hl with
  |[y0,y1,y2,y3,y4,y5,y6,y7,y8,y9,y10],_=>
   have e0:az4 enc prog W base (λ_=>true) held n 41 (([XB,XA,Xz,Xy,Xx,Xw,Xv,Xu,Xt,Xs,Ve,Vd,Vb,Va,V9,V8,V7,V6,V5,V4,V3,V2,V1,U_,UZ,UY,UX,UW,UV,UU,UT,US,UR,UQ,UP,UO,UN,UM,UL,UK,UJ].drop 0).take (prog.cellsOf 41))=some y0:=hp 0 _ rfl;rw[SC]at e0;have e1:az4 enc prog W base (λ_=>true) held n 41 (([XB,XA,Xz,Xy,Xx,Xw,Xv,Xu,Xt,Xs,Ve,Vd,Vb,Va,V9,V8,V7,V6,V5,V4,V3,V2,V1,U_,UZ,UY,UX,UW,UV,UU,UT,US,UR,UQ,UP,UO,UN,UM,UL,UK,UJ].drop 16).take (prog.cellsOf 41))=some y1:=hp 1 _ rfl;rw[SC]at e1;have e2:az4 enc prog W base (λ_=>true) held n 3 (([XB,XA,Xz,Xy,Xx,Xw,Xv,Xu,Xt,Xs,Ve,Vd,Vb,Va,V9,V8,V7,V6,V5,V4,V3,V2,V1,U_,UZ,UY,UX,UW,UV,UU,UT,US,UR,UQ,UP,UO,UN,UM,UL,UK,UJ].drop 32).take (prog.cellsOf 3))=some y2:=hp 2 _ rfl;rw[ci]at e2;have e3:az4 enc prog W base (λ_=>true) held n 3 (([XB,XA,Xz,Xy,Xx,Xw,Xv,Xu,Xt,Xs,Ve,Vd,Vb,Va,V9,V8,V7,V6,V5,V4,V3,V2,V1,U_,UZ,UY,UX,UW,UV,UU,UT,US,UR,UQ,UP,UO,UN,UM,UL,UK,UJ].drop 33).take (prog.cellsOf 3))=some y3:=hp 3 _ rfl;rw[ci]at e3;have e4:az4 enc prog W base (λ_=>true) held n 3 (([XB,XA,Xz,Xy,Xx,Xw,Xv,Xu,Xt,Xs,Ve,Vd,Vb,Va,V9,V8,V7,V6,V5,V4,V3,V2,V1,U_,UZ,UY,UX,UW,UV,UU,UT,US,UR,UQ,UP,UO,UN,UM,UL,UK,UJ].drop 34).take (prog.cellsOf 3))=some y4:=hp 4 _ rfl;rw[ci]at e4;have e5:az4 enc prog W base (λ_=>true) held n 24 (([XB,XA,Xz,Xy,Xx,Xw,Xv,Xu,Xt,Xs,Ve,Vd,Vb,Va,V9,V8,V7,V6,V5,V4,V3,V2,V1,U_,UZ,UY,UX,UW,UV,UU,UT,US,UR,UQ,UP,UO,UN,UM,UL,UK,UJ].drop 35).take (prog.cellsOf 24))=some y5:=hp 5 _ rfl;rw[R_]at e5;have e6:az4 enc prog W base (λ_=>true) held n 24 (([XB,XA,Xz,Xy,Xx,Xw,Xv,Xu,Xt,Xs,Ve,Vd,Vb,Va,V9,V8,V7,V6,V5,V4,V3,V2,V1,U_,UZ,UY,UX,UW,UV,UU,UT,US,UR,UQ,UP,UO,UN,UM,UL,UK,UJ].drop 36).take (prog.cellsOf 24))=some y6:=hp 6 _ rfl;rw[R_]at e6;have e7:az4 enc prog W base (λ_=>true) held n 3 (([XB,XA,Xz,Xy,Xx,Xw,Xv,Xu,Xt,Xs,Ve,Vd,Vb,Va,V9,V8,V7,V6,V5,V4,V3,V2,V1,U_,UZ,UY,UX,UW,UV,UU,UT,US,UR,UQ,UP,UO,UN,UM,UL,UK,UJ].drop 37).take (prog.cellsOf 3))=some y7:=hp 7 _ rfl;rw[ci]at e7;have e8:az4 enc prog W base (λ_=>true) held n 3 (([XB,XA,Xz,Xy,Xx,Xw,Xv,Xu,Xt,Xs,Ve,Vd,Vb,Va,V9,V8,V7,V6,V5,V4,V3,V2,V1,U_,UZ,UY,UX,UW,UV,UU,UT,US,UR,UQ,UP,UO,UN,UM,UL,UK,UJ].drop 38).take (prog.cellsOf 3))=some y8:=hp 8 _ rfl;rw[ci]at e8;have e9:az4 enc prog W base (λ_=>true) held n 3 (([XB,XA,Xz,Xy,Xx,Xw,Xv,Xu,Xt,Xs,Ve,Vd,Vb,Va,V9,V8,V7,V6,V5,V4,V3,V2,V1,U_,UZ,UY,UX,UW,UV,UU,UT,US,UR,UQ,UP,UO,UN,UM,UL,UK,UJ].drop 39).take (prog.cellsOf 3))=some y9:=hp 9 _ rfl;rw[ci]at e9;have e10:az4 enc prog W base (λ_=>true) held n 9 (([XB,XA,Xz,Xy,Xx,Xw,Xv,Xu,Xt,Xs,Ve,Vd,Vb,Va,V9,V8,V7,V6,V5,V4,V3,V2,V1,U_,UZ,UY,UX,UW,UV,UU,UT,US,UR,UQ,UP,UO,UN,UM,UL,UK,UJ].drop 40).take (prog.cellsOf 9))=some y10:=hp 10 _ rfl;rw[DJ]at e10;obtain⟨A,q0,r0,a1,a2,a3,a4,a5,a6,a7⟩:=xD e0;obtain⟨B,q1,r1,b1,b2,b3,b4,b5,b6,b7⟩:=xD e1;obtain⟨has,q2,r2,w2⟩:=aB0 underlying3 e2;obtain⟨st,q3,r3,w3⟩:=aB0 underlying3 e3;obtain⟨le,q4,r4,w4⟩:=aB0 underlying3 e4;obtain⟨pu,U,qu,q5,s5,u5,_⟩:=vB e5;obtain⟨py,Y,qy,q6,s6,u6,_⟩:=vB e6;obtain⟨wd,q7,r7,w7⟩:=aB0 underlying3 e7;obtain⟨bt,q8,r8,w8⟩:=aB0 underlying3 e8;obtain⟨cut,q9,r9,w9⟩:=aB0 underlying3 e9;obtain⟨kp,q10,r10,W_⟩:=aP_ underlying9 e10;simp only[aY4,aV3,List.cons.injEq,and_true]at q0 q1 q2 q3 q4 q5 q6 q7 q8 q9 q10;obtain⟨g0,g1,g2,g3,g4,g5,g6,g7,g8,g9,g10,g11,Yb,g13,g14,g15⟩:=q0;obtain⟨h0,h1,h2,h3,h4,h5,h6,h7,h8,h9,h10,h11,h12,h13,h14,h15⟩:=q1;subst g0 g1 g2 g3 g4 g5 g6 g7 g8 g9 g10 g11 Yb g13 g14 g15 h0 h1 h2 h3 h4 h5 h6 h7 h8 h9 h10 h11 h12 h13 h14 h15 q2 q3 q4 q5 q6 q7 q8 q9 q10;obtain⟨du,pl5⟩:=y5;obtain⟨dy,pl6⟩:=y6;subst r0 r1 r2 r3 r4 r7 r8 r9 r10;simp only[Prod.mk.injEq,aI5,aS9]at hx;refine⟨⟨A,B,has,st,le,pu,U,qu,py,Y,qy,wd,bt,cut,kp⟩,du,dy,rfl,hx.1,λhz=>⟨⟨j9 a1,j9 a2,j9 a3,j9 a4,j9 a5,j9 a6,j9 a7,hz.1,hz.2.1⟩,⟨j9 b1,j9 b2,j9 b3,j9 b4,j9 b5,j9 b6,j9 b7,hz.2.2.1,hz.2.2.2.1⟩,j9 w2,j9 w3,j9 w4,s5,λx hx=>j9 (u5 x hx),s6,λx hx=>j9 (u6 x hx),j9 w7,j9 w8,j9 w9,hz.2.2.2.2⟩⟩
end

end Go.Proofs.YtkmoglhgkcnalaaGreatDoor
namespace Go.Proofs.YtkmoglhgkcnalaaGreatDoor
open Go Go.Conc Go.RowKit Go.ChangeShapes Go.WideShapes Go.Proofs.YtkmoglhgkcnalaaGreatDoor.L1
theorem GP{H:Type}(d:DataW H):1<=Rows.uptoBulk d:=by
 cases d with
 |lit l=>cases l<;>simp[Rows.uptoBulk]
 |_=>simp[Rows.uptoBulk]
theorem xV{H:Type}{d:DataW H}{l:List (DataW H)}(h:d∈l):Rows.uptoBulk d<=Rows.uptoBulkAll l:=by
 induction l with
 |nil=>cases h
 |cons x r ih=>
  simp only[Rows.uptoBulkAll];rcases aC7.1 h with e|e
  .rw[e];omega
  .have:=ih e;omega
theorem xW{H:Type}(l:List (DataW H)):l.length<=Rows.uptoBulkAll l:=by
 induction l with
 |nil=>simp[Rows.uptoBulkAll]
 |cons x r ih=>
  have:=GP x;simp only[Rows.uptoBulkAll,List.length_cons];omega
section
variable{H:Type}{enc:TypeId×Value->H}{W:World}{base:Nat}{held:Bool}
theorem SN:prog.cellsOf 70=5:=by kernel_rfl
theorem JW{fuel:Nat}{x:DataW H×List MemPlace}{p:Option Addr}(h:az4 enc prog W base (λ_=>true) held fuel 24 [.slice p n q]=some x):n<=Rows.uptoBulk x.1:=by
 rcases open_ints underlying24 underlying3 ci h with⟨e,_⟩|⟨a,len,cap,zs,e,_,hl,_,hz,hx,_⟩
 .cases e;exact ay7 _
 .cases e;rw[if_pos rfl]at hz;have:=xW (lits (H:=H) .i64 (zs.take n));have hl3:(lits (H:=H) .i64 (zs.take n)).length=n:=by simp[lits];omega
  rw[hx];simp only[Rows.uptoBulk];omega
theorem FI{fuel:Nat}{cs:List Value}{x:DataW H×List MemPlace}(hl:cs.length=5)(h:az4 enc prog W base (λ_=>true) held fuel 70 cs=some x)(hx:Rows.uptoBulk x.1<=1048576):∃s:Eh,cs=s.vs/\s.Ok W:=by
 match cs,hl with
 |[c0,c1,c2,c3,c4],_=>
  obtain⟨xs,n,rfl,TH,_,hl,hp⟩:=aO9 underlying70 h
  match xs,hl with
  |[y0,y1,y2,y3,y4],_=>
   have e0:az4 enc prog W base (λ_=>true) held n 3 (([c0,c1,c2,c3,c4].drop 0).take (prog.cellsOf 3))=some y0:=hp 0 _ rfl;have e1:az4 enc prog W base (λ_=>true) held n 3 (([c0,c1,c2,c3,c4].drop 1).take (prog.cellsOf 3))=some y1:=hp 1 _ rfl;have e2:az4 enc prog W base (λ_=>true) held n 3 (([c0,c1,c2,c3,c4].drop 2).take (prog.cellsOf 3))=some y2:=hp 2 _ rfl;have e3:az4 enc prog W base (λ_=>true) held n 3 (([c0,c1,c2,c3,c4].drop 3).take (prog.cellsOf 3))=some y3:=hp 3 _ rfl;have e4:az4 enc prog W base (λ_=>true) held n 24 (([c0,c1,c2,c3,c4].drop 4).take (prog.cellsOf 24))=some y4:=hp 4 _ rfl;rw[ci]at e0 e1 e2 e3;rw[R_]at e4;obtain⟨k,q0,_⟩:=aB0 underlying3 e0;obtain⟨A,q1,_⟩:=aB0 underlying3 e1;obtain⟨D,q2,_⟩:=aB0 underlying3 e2;obtain⟨E,q3,_⟩:=aB0 underlying3 e3;obtain⟨p,G,q,q4,s4,u4,_⟩:=vB e4;rw[q4]at e4;have hg:=JW e4;simp only[aY4,aV3,List.cons.injEq,and_true]at q0 q1 q2 q3 q4;have hb:Rows.uptoBulk y4.1<=Rows.uptoBulk x.1:=by
    rw[TH];have:=xV (l:=[y0,y1,y2,y3,y4].map (·.1)) (d:=y4.1) s_;simp only[Rows.uptoBulk];omega
   exact⟨⟨k,A,D,E,p,G,q⟩,by rw[q0,q1,q2,q3,q4];rfl,by show G.length<=_;omega,λz hz=>(j9 (u4 z hz)).2,s4⟩
theorem xj{r:Go.Reach}{b0:Nat}{d:DataW H}{ps:List MemPlace}(UD:aS3 prog W r b0 68 v)(hd:b32 enc prog W base (λ_=>true) held 68 v d ps)(hx:Rows.uptoBulk d<=1048576):
 ∃(p:Option Addr) (L:List Eh) (q:Nat),v=.slice p L.length q/\Hg W p L/\L.length<=1048576:=by
 obtain⟨pa,len,cap,rfl⟩:=okWide_slice underlying68 UD;obtain⟨fuel,hf⟩:=hd;rcases Go.Deep.open_slice underlying68 hf with⟨e,_⟩|⟨a,len',cap',m,n,D,Pl,e,hba,hl,hm,hmm,hxx,hc⟩
 .simp[aU5]at e;obtain⟨rfl,rfl,rfl⟩:=e;exact⟨none,[],0,rfl,λi s h=>(by simp at h),by simp⟩
 .simp[aU5]at e;obtain⟨rfl,rfl,rfl⟩:=e;rw[if_pos rfl]at hmm;injection hxx with Yk _;have hlen:=xW ((ax_ len).map D);rw[Yk]at hx;simp only[Rows.uptoBulk]at hx;simp at hlen;rw[SN]at hc;have:Inhabited Eh:=⟨⟨0,0,0,0,none,[],0⟩⟩;obtain⟨f,hf'⟩:=Go.Deep.choose_lt (α:=Eh) (n:=len) (p:=λi s=>s.Ok W/\∀(j:Nat) (u:Value),s.vs[j]?=some u->W.cell? ((a.add (i*5)).add j)=some u) λi hi=>by
   obtain⟨cs',c1,c2⟩:=hc i o_;obtain⟨_,c3,c4⟩:=World.cells?_some c1;have hbi:=xV (l:=(ax_ len).map D) (d:=D i) (by simp;exact⟨i,hi,rfl⟩);obtain⟨s,e,ok⟩:=FI (x:=(D i,Pl i)) o_ c2 (by show Rows.uptoBulk (D i)<=_;omega);exact⟨s,ok,λj u hu=>by
    rw[←e]at hu;have hj:=(aw5.1 hu).1;rw[c4 j o_];exact hu⟩
  have VK:((ax_ len).map f).length=len:=by simp
  refine⟨some a,(ax_ len).map f,cap,by rw[VK],λi s hs=>?_,by rw[VK];omega⟩;have hi:i<len:=by have:=(aw5.1 hs).1;omega
  have e:f i=s:=by simpa[hi]using hs
  exact⟨e▸(hf' i hi).1,a,rfl,e▸(hf' i hi).2⟩
end

end Go.Proofs.YtkmoglhgkcnalaaGreatDoor
