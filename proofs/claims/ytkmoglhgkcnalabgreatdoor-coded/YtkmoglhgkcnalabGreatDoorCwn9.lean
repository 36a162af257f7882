/- A part of what the last text of the claim imports: texts laid together, and made small, by a program. -/
import Derived.WalkKit
import Derived.WalkSpells
import Derived.WalkLawsBesides
import Derived.Deep.QuietTactic
import Derived.BigQuiet
import Derived.Shelf.Strings.BuilderF
import Derived.Laws.CopyRow
import Derived.Laws.AppendOwn
import Derived.Test.YtkmoglhgkcnalabGreatDoorCwn8
set_option maxHeartbeats 16000000
set_option maxRecDepth 100000
open Array renaming length_toList->LO,toList_map->Oj,getElem?_toList->Vv,toArray_toList->YP
open Bool renaming false_and->VN,true_and->Wt,true_or->Xf,or_true->Zm
open ByteArray renaming size_append->a34,size_extract->a52
open Go.Act renaming put->Rf
open Go.Addr renaming add_mid->CH
open Go.Builtin renaming copy_->W4
open Go.Ending renaming returned->Vg
open Go.Frame renaming enter->a49,finish_atR->BR
open Go.Instr renaming loadAt->a47,fieldAt->a53,build->C9,alloc->Ee,sliceAt->JR,sliceBounds->Kg,sliceBound->LY,makeSlice->Po,slice->Vh,index->WC
open Go.IntKind renaming wrap_i64->a5_,i64->A8,u64->LX
open Go.Lib renaming IsBuilderF->Wd,byteCells->YX,BuilderAtF->ZW,strCells->a64
open Go.Operand renaming tmp->Ft
open Go.Value renaming oneCell'->LN
open Go.World renaming cell?->AB
open Int renaming natCast_pow->LK,natCast_ediv->Vw,emod_lt_of_pos->Z7,emod_nonneg->ZI
open List renaming getD_eq_getElem?_getD->a50,lookup->a51,range->Ak,getElem?_eq_getElem->AS,replicate->C2,size_toArray->Gh,getElem?_map->IS,take_of_length_le->LP,length_map->VF,mem_map->VJ,getElem?_drop->Wm,getElem?_take->WV,drop_eq_nil_of_le->Xm,map_set->Yw,take_succ_cons->YU,drop_succ_cons->YV,length_drop->Zt,drop_append->Zu
open Nat renaming le_refl->a36,zero_add->a46,and_lt_two_pow->VP,lt_of_le_of_lt->VQ,or_lt_two_pow->Wz,div_le_self->XJ,add_assoc->Y9,and_le_left->ZH
open Ne renaming symm->LZ
open Option renaming bind_some->Hk
namespace Go.Proofs.YtkmoglhgkcnalabGreatDoor
open Go
variable{n b i N l m k j b3 b4 b7 b9 Wg wd:Nat}{w w' w0 wL wM wE:World}{fr:Frame}{v:Value}{cs:List Frame}{args cv:Array Value}{V RO D V0:Nat->Prop}{q main listen ql:Bool}{g:Goroutine}{a:Act}{K:List Item}{P PL PM:Program}{x:Operand}{ops:Array Oper}{KS:List Int}{t u:TypeId}{o:Oper}{f:FuncId}{es:Array Event}{Goal:Goroutine->World->Prop}{fn:Func}{rest:List Nat}{ds:List Deferred}{X:bS}{F:List (Nat×Value)}{e:Event}{listed:Array Bool}{c:Int}{s msg key sig:ByteArray}{ρ:Nat->Nat}{ev:Operand->Value}{Post:Value->World->Prop}
namespace L1
open Go.Conc Go.RowKit
theorem AL(KS:List Int)(s:ByteArray)(h:Int)(us:List Bool)(hs:List ByteArray):∃n c,ja KS s h us hs n c:=by
 by_cases m:(mO s.data.toList).2=0
 ·obtain⟨v,e,b,a,l,k,f,_⟩:=IH s m;by_cases o:v<h
  ·exact⟨0,7, .inr ⟨v,e,b,a,l,k,f, .inl ⟨o,rfl,rfl⟩⟩⟩
  ·cases g:dh us hs (qK KS [⟨k.toArray⟩])with
   |false=>exact⟨0,8, .inr ⟨v,e,b,a,l,k,f, .inr (.inl ⟨o_,g,rfl,rfl⟩)⟩⟩
   |true=>
    obtain⟨d,i⟩:=tv KS ⟨k.toArray⟩ (s.extract 0 b) (s.extract a (a+l));by_cases j:d=0
    ·exact⟨e,0, .inr ⟨v,e,b,a,l,k,f, .inr (.inr ⟨o_,g,d,i, .inr ⟨j,rfl,rfl⟩⟩)⟩⟩
    ·exact⟨0,d, .inr ⟨v,e,b,a,l,k,f, .inr (.inr ⟨o_,g,d,i, .inl ⟨j,rfl,rfl⟩⟩)⟩⟩
 ·exact⟨0,_, .inl ⟨m,rfl,rfl⟩⟩
theorem Nf(h:sV KS key msg sig c):0<=c/\c<=10:=by rcases h with⟨_,rfl⟩|⟨_,_,rfl⟩|⟨_,_,_,rfl⟩|⟨_,_,_,rfl⟩<;>decide
theorem UB(L:List UInt8):0<=(mO L).2/\(mO L).2<=10:=by
 unfold mO sP
 repeat' split
 all_goals simp
theorem TA{b:Int}{us:List Bool}{hs:List ByteArray}{n:Int}(h:ja KS s b us hs n c):0<=c/\c<=10:=by
 rcases h with⟨_,_,rfl⟩|⟨v,g,f,a,l,k,_,⟨_,_,rfl⟩|⟨_,_,_,rfl⟩|⟨_,_,d,e,⟨_,_,rfl⟩|⟨_,_,rfl⟩⟩⟩
 ·exact UB _
 ·decide
 ·decide
 ·exact Nf e
 ·decide
theorem LM(KS:List Int)(g:KS.length=64)(s:ByteArray)(st le:Int)(a b:Value)(us:List Bool)(hs:List ByteArray)(f:us.length<4611686018427387904)(d:s.size<=281474976000000):∃n c,ja KS s le us hs n c/\∀w:World,sW w a (us.map .bool)->sW w b (hs.map .string)->w.rangeAt 0 0 (aH KS)->0<w.heap.size->
 Calls lT 75 #[.s s, .agg (ik st le a b)] w λe w'=>e= .returned (.tuple #[.i n, .i c])/\Bw w w':=by obtain⟨n,c,h⟩:=AL KS s le us hs;exact⟨n,c,h,λw l k j i=>(Gt KS g s st le a b us hs w l k f d j i).mono λe w' ⟨q,r,p,o,m⟩=>⟨by obtain⟨rfl,rfl⟩:=yB o h;exact p,m⟩⟩
theorem DD{L:List Value}(h:w.heap[b]?=some (.cells L.toArray t))(c:L.length=n):sW w (.sk b n n) L:=⟨_,n,by rw[c],λi u a=>⟨_,rfl,by rw[CH,a46,aK h];simpa using a⟩⟩
theorem mn{e d:Nat}{fl:Value}{W:List Int}{on:Bool}{sl:Int}{c:Array Value}(h:dB w e fl W on sl)(f:w.heap[d]?=some (.cells c 75)){cs:Array Value}{fr:Nat×Nat}(a:w.heap[b]?=some (.cells cs t fr))(i:t≠82)(g:t≠75):¬XR e d b:=by
 rintro(rfl|rfl)
 ·obtain⟨_,K,_,_,h⟩:=h;rw[h]at a;injection a with a;injection a with _ a;exact i a.symm
 ·rw[f]at a;injection a with a;injection a with _ a;exact g a.symm
theorem eD{X:Nat->Prop}{L:List Value}(a:Ex X w w')(c:¬X 0)(hs:0<w.heap.size)(h:w.rangeAt 0 0 L):w'.rangeAt 0 0 L:=λj v b=>by have:=h j v b;unfold AB at this⊢;rwa [a.block 0 hs c]
structure Sv (w0:World) (cb rb ob zb bu bh:Nat) (fl:Value) (W:List Int) (L:ByteArray) (st le:Int) (us:List Bool) (hs:List ByteArray) (KS:List Int) (room:Int) (w:World):Prop where
 ch:dB w cb fl W false 0
 run:w.heap[rb]?=some (.cells (ox cb room false) 75)
 fls:j9 w fl L
 out:w.heap[ob]?=some (.cells (cH 0 false 0 0 0) 36)
 fus:w.heap[zb]?=some (.cells (ik st le (.sk bu 4 4) (.sk bh 4 4)) 48)
 us:w.heap[bu]?=some (.cells (us.map Value.bool).toArray 4)
 hs:w.heap[bh]?=some (.cells (hs.map Value.string).toArray 9)
 tab:w.rangeAt 0 0 (aH KS)
 ex:Ex (XR cb rb) w0 w
section
variable{cb rb ob zb bu bh:Nat}{fl:Value}{W:List Int}{L:ByteArray}{st le:Int}{us:List Bool}{hs:List ByteArray}{room room':Int}
theorem Sv.pos(h:Sv w0 cb rb ob zb bu bh fl W L st le us hs KS room w):0<w.heap.size:=VQ (Nat.zero_le _) h.ch.lt
theorem Sv.ex'(h:Sv w0 cb rb ob zb bu bh fl W L st le us hs KS room w)(d:¬XR cb rb 0)(a:Ex (XR cb rb) w w')(c:dB w' cb fl W false 0)(b:w'.heap[rb]?=some (.cells (ox cb room' false) 75)):Sv w0 cb rb ob zb bu bh fl W L st le us hs KS room' w':=
 ⟨c,b,h.fls.keep a (ug h.ch h.run),a.at (mn h.ch h.run h.out d_ d_) h.out,a.at (mn h.ch h.run h.fus d_ d_) h.fus,a.at (mn h.ch h.run h.us d_ d_) h.us,a.at (mn h.ch h.run h.hs d_ d_) h.hs,eD a d h.pos h.tab,h.ex.trans a λ_ _ e=>e⟩
theorem Sv.below(h:Sv w0 cb rb ob zb bu bh fl W L st le us hs KS room w)(b:¬XR cb rb 0)(a:Bw w w'):Sv w0 cb rb ob zb bu bh fl W L st le us hs KS room w':=
 h.ex' b (Ex.of_below a) (h.ch.ex (Ex.of_below (X:=λ_=>False) a) λe=>e) (bk a h.run)
end
section
variable{y z:Operand}
theorem xV(a:o.op= .slice 77 x none none none)(c:ev x= .pk b 1):(execOp ev o).run lT w= .ok (.value (.slice (some ⟨b,1,none⟩) 85 85)) w:=by
 have e:execOp ev o=(do pure (.value (←JR 77 (.pk b 1) none none none))):=by simp only[execOp,a,c];rfl
 have d:(do pure (.value (←JR 77 (.pk b 1) none none none)):Sem Next).run lT w= .ok (.value (.slice (some ⟨b,1,none⟩) 85 85)) w:=k_
 rw[e,d]
theorem Ij(a:o.op= .alloc 48):(execOp ev o).run lT w= .ok (.value (.pk w.heap.size 0)) (w.alloc (.cells (ik 0 0 (.slice none 0 0) (.slice none 0 0)) 48)):=by
 have e:execOp ev o=(do pure (.value (←Ee 48 true (.tuple #[])))):=by simp only[execOp,a]
 have b:(do pure (.value (←Ee 48 true (.tuple #[]))):Sem Next).run lT w= .ok (.value (.pk w.heap.size 0)) (w.alloc (.cells (ik 0 0 (.slice none 0 0) (.slice none 0 0)) 48)):=k_
 rw[e,b]
theorem IE:(lT.info? 48).map (·.size)=some 4:=k_
theorem vO{st le:Int}{f g:Option Addr}{i d j e:Nat}{old:Array Value}{c:TypeId}(a:o.op= .store 48 x y)(l:ev x= .pk b 0)(k:ev y= .agg (ik st le (.slice f i d) (.slice g j e)))(h:w.heap[b]?=some (.cells old c))(m:old.size=4):
 (execOp ev o).run lT w= .ok .skip (gy w b (ik st le (.slice f i d) (.slice g j e)) c):=by rw[←iq h];exact db a l k h IE m (by simp[ik,LN])
theorem mK(a:o.op= .pick x y z)(c:ev x= .bool true)(b:ev y=v):(execOp ev o).run lT w= .ok (.value v) w:=by simp[execOp,a,c,b,asBool]
theorem i0(a:o.op= .pick x y z)(c:ev x= .bool false)(b:ev z=v):(execOp ev o).run lT w= .ok (.value v) w:=by simp[execOp,a,c,b,asBool]
theorem Ny(d:t=118)(a:o.op= .build t #[(0,x),(1,y)])(c:ev x= .i 16)(b:ev y= .i 32):(execOp ev o).run lT w= .ok (.value (.agg #[.i 16, .i 32])) w:=by
 subst d;have e:execOp ev o=(do pure (.value (←C9 118 #[(0, .i 16),(1, .i 32)]))):=by simp[execOp,a,c,b]
 have f:(do pure (.value (←C9 118 #[(0, .i 16),(1, .i 32)])):Sem Next).run lT w= .ok (.value (.agg #[.i 16, .i 32])) w:=k_
 rw[e,f]
theorem QI(f:k<2)(a:o.op= .index 118 x y)(c:ev x= .agg #[.i 16, .i 32])(b:ev y= .i k):(execOp ev o).run lT w= .ok (.value (.i ((16+16*k:Nat):Int))) w:=by
 have e:execOp ev o=(do pure (.value (←WC 118 (.agg #[.i 16, .i 32]) (.i k)))):=by simp only[execOp,a,c,b]
 have d:(do pure (.value (←WC 118 (.agg #[.i 16, .i 32]) (.i k))):Sem Next).run lT w= .ok (.value (.i ((16+16*k:Nat):Int))) w:=by rcases(o_:k=0\/k=1)with rfl|rfl<;>kernel_rfl
 rw[e,d]
theorem KD{m n:Int}(a:o.op= .call {callee:= .builtin .max,args:=#[.tmp k, .tmp j],argTypes:=#[t,t]})(c:ev (.tmp k)= .i m)(b:ev (.tmp j)= .i n):(execOp ev o).run lT w= .ok (.value (.i (max m n))) w:=by
 have h:(if n>m then n else m)=max m n:=by split<;>omega
 have e:(Builtin.max2 (.i m) (.i n):Sem Value)=pure (.i (max m n)):=by rw[←h];rfl
 simp[execOp,a,resolve,c,b,invoke,builtin,Builtin.max_,e]
end
def gt(KS W:List Int)(L:ByteArray)(j:Bool)(s n c:Int):Prop:=∃st le cr us hs,Sy W st le cr us hs/\
 ((cr≠0/\j=false/\s=0/\n=0/\c=1)\/(cr=0/\st≠255/\st≠3855/\j=false/\s=0/\n=0/\c=2)\/
  (cr=0/\(st=255\/st=3855)/\∃n0 c0,ja KS (L.extract 0 8192) le us hs n0 c0/\((c0=0/\j=true/\s=0/\n=n0/\c=0)\/
    (c0≠0/\∃n1 c1,ja KS (L.extract 8192 16384) le us hs n1 c1/\((c1=0/\j=true/\s=1/\n=n1/\c=0)\/(c1≠0/\j=false/\s=0/\n=0/\c=max c0 c1))))))
def QW(f:Func):Code:= .seq (rG f 9) (.seq (.cond (.tmp 39) .skip (.exit 0)) (.seq (.block 1 (.seq (rG f 10) (.seq (rD f 11) (.seq (rG f 12) (.seq (.seq (rG f 13) (.cond (.tmp 59) (.seq (rG f 14) .ret) .skip)) (rG f 15)))))) (rG f 16)))
def Iy(f:Func):Code:= .seq (rG f 17) .ret
def HA(f:Func):Code:= .seq (rG f 7) (.seq (.seq (rG f 8) (.block 0 (.loop (QW f)))) (Iy f))
section
variable{cb rb ob zb bu bh:Nat}{fl:Value}{W:List Int}{L:ByteArray}{st le:Int}{us:List Bool}{hs:List ByteArray}
theorem Hm(x:KS.length=64)(J:us.length=4)(O:hs.length=4)(h:¬XR cb rb 0)(N:w0.heap.size<=ob)(P:cb<w0.heap.size)(M:rb<w0.heap.size)(B:k<2){gr room:Int}(Y:2<room)(s:room<9223372036854775808)(g:Sv w0 cb rb ob zb bu bh fl W L st le us hs KS room w)
 (d:aW [(0, .pt rb),(2, .pt ob),(3, .pt zb),(5, .i gr),(37, .agg #[.i 16, .i 32]),(38, .i k)] 71 [] a)
 (I:∀n a' w' K,ja KS (L.extract (k*8192) (k*8192+8192)) le us hs n 0->aW [(2, .pt ob)] 71 [] a'->w'.heap[ob]?=some (.cells (cH 0 true k n 0) 36)->dB w' cb fl W true k->w'.heap[rb]?=some (.cells (ox cb (room- 1- 1) false) 75)->j9 w' fl L->Ex (XR cb rb) w0 w'->Rn lT Goal ((base 59).atR a' (.code .ret::K)) cs w')
 (H:∀n c a' w',ja KS (L.extract (k*8192) (k*8192+8192)) le us hs n c->c≠0->aW [(0, .pt rb),(2, .pt ob),(3, .pt zb),(5, .i (max gr c)),(37, .agg #[.i 16, .i 32]),(38, .i ((k+1:Nat):Int))] 71 [] a'->Sv w0 cb rb ob zb bu bh fl W L st le us hs KS (room- 1) w'->Rn lT Goal ((base 59).atR a' [.code (QW Tryz.f59), .inLoop (QW Tryz.f59), .inBlock 0, .code (Iy Tryz.f59)]) cs w'):
 Rn lT Goal ((base 59).atR a [.code (QW Tryz.f59), .inLoop (QW Tryz.f59), .inBlock 0, .code (Iy Tryz.f59)]) cs w:=by
 refine Rn.uc d λa d=> ?_;refine Rn.p rfl (Rn.p rfl (Rn.cond _ (d.G 39) ?_));rw[decide_eq_true (o_:(k:Int)<2)];refine Rn.uc d λa d=> ?_;refine Rn.vv d (λo i=>QI B i (d.G 37) (d.G 38)) λa d=> ?_
 iterate 2 refine Rn.uc d λa d=> ?_
 have Q:=g.fls.1;obtain⟨n,c,v,t⟩:=LM KS x (L.extract (k*8192) (k*8192+8192)) st le (.sk bu 4 4) (.sk bh 4 4) us hs o_ (by rw[a52];omega);have C:=TA v;have d:aW [(0, .pt rb),(2, .pt ob),(3, .pt zb),(5, .i gr),(37, .agg #[.i 16, .i 32]),(38, .i k),(6, .i k),(7, .i ((16+16*k:Nat):Int))] 71 [] a:=d.only ⟨rfl,rfl,rfl,rfl,rfl,rfl,rfl,rfl,trivial⟩;have A:=g.run;have m:=g.fus;refine Rn.p rfl (Rn.p rfl ?_);refine Rn.tabL d [(43, .pt rb),(44, .pt rb),(45, .pt rb),(46, .pt cb),(47, .i k),(48, .s (L.extract (k*8192) (k*8192+8192))),(49, .agg (ik st le (.sk bu 4 4) (.sk bh 4 4))),(50, .tuple #[.i n, .i c]),(42, .tuple #[.i n, .i c]),(51, .i n),(52, .i c),(8, .i n),(9, .i c)] [43,47,42,8,9] [(8, .i n),(9, .i c)]
  ⟨λz=>dv (xT z.qq zx),
   λz=>dv (DK 0 d_ z.qq zx),
   λz=>dv (aP DZ z.qq zx (zc z.b)).1,
   λz=>z.c2 (z.k 46) (z.k 47) ((Gx k B (g.below h z.b).ch (g.below h z.b).fls).mono λe w' ⟨S,y⟩=>⟨S,y▸bR⟩),
   λz=>dv (zA z.qq zx (bk z.b m)),
   λz=>z.c2 (z.k 48) (z.k 49) (t _ (DD (g.below h z.b).us (by simpa using J)) (DD (g.below h z.b).hs (by simpa using O)) (g.below h z.b).tab (g.below h z.b).pos),
   tq,
   tq,
   trivial⟩ λa X T d=> ?_
 have l:=g.below h T;have e2:((16+16*k:Nat):Int)=16+16*(k:Int):=o_
 iterate 4 refine Rn.uc d λa d=> ?_
 refine Rn.cw d Lf.func73 (pZ _ o_ s l.ch l.run) λV ⟨y,G,D,U⟩ a d=> ?_;have f:=l.ex' h D y G
 iterate 2 refine Rn.uc d λa d=> ?_
 refine Rn.p rfl (Rn.cond _ (d.G 59) ?_);by_cases u:c=0
 ·subst u
  iterate 3 refine Rn.uc d λa d=> ?_
  refine Rn.cw d Lf.func77 (IB k n o_ o_ f.ch f.run) λE ⟨R,F,q⟩ a d=> ?_;have r:=q.at (mn f.ch f.run f.out d_ d_) f.out;refine Rn.nn d (λo i=>gf i (d.G 2) (d.G 63) r rfl) λa d=> ?_;have p:=dQ (w:=E) ob (cH 0 true k n 0) 36;refine Rn.p rfl ?_;refine I n _ _ _ v (d.only ⟨rfl,trivial⟩) (co r) (R.ex p o_) (p.at o_ F) (((f.fls.keep q (ug f.ch f.run)).keep p λb cs Z j e=> ?_)) ((f.ex.trans q λ_ _ e=>e).trans p λb j e=>o_);rw[e,r]at j;injection j with j;injection j with _ j;cases j
 ·rw[show(c==0)=false from by simpa using u]
  iterate 2 refine Rn.uc d λa d=> ?_
  refine Rn.vv d (λo i=>KD i (d.G 64) (d.G 65)) λa d=> ?_;refine Rn.uc d λa d=> ?_;refine Rn.vv d (λo i=>cS (n:=1) i (d.G 38) rfl o_) λa d=> ?_;refine Rn.uc d λa d=> ?_;exact Rn.p rfl (Rn.p rfl (H n c _ _ v u (d.only ⟨rfl,rfl,rfl,rfl,rfl,rfl,trivial⟩) f))
theorem Nm(y:KS.length=64)(N:us.length=4)(O:hs.length=4)(P:¬XR cb rb 0)(t:w0.heap.size<=ob)(u:cb<w0.heap.size)(r:rb<w0.heap.size){room:Int}(B:6<room)(G:room<9223372036854775808)(f:Sv w0 cb rb ob zb bu bh fl W L st le us hs KS room w)
 (d:aW [(0, .pt rb),(2, .pt ob),(3, .pt zb)] 71 [] a)
 (E:∀(j:Bool) (s n c:Int) a' w' K,(∃q g,ja KS (L.extract 0 8192) le us hs q g/\((g=0/\j=true/\s=0/\n=q/\c=0)\/
  (g≠0/\∃A h,ja KS (L.extract 8192 16384) le us hs A h/\((h=0/\j=true/\s=1/\n=A/\c=0)\/(h≠0/\j=false/\s=0/\n=0/\c=max g h)))))->aW [(2, .pt ob)] 71 [] a'->w'.heap[ob]?=some (.cells (cH 0 j s n c) 36)->dB w' cb fl W j s->(∃i,w'.heap[rb]?=some (.cells (ox cb i false) 75))->j9 w' fl L->Ex (XR cb rb) w0 w'->Rn lT Goal ((base 59).atR a' (.code .ret::K)) cs w'):
 Rn lT Goal ((base 59).atR a [.code (HA Tryz.f59)]) cs w:=by
 refine Rn.uc d λa d=> ?_;refine Rn.vv d (λo l=>Ny rfl l rfl rfl) λa d=> ?_;refine Rn.uc d λa d=> ?_;refine Rn.p rfl (Rn.p rfl (Rn.p rfl ?_));refine Hm (k:=0) y N O P t u r o_ o_ G f (d.only ⟨rfl,rfl,rfl,rfl,rfl,rfl,trivial⟩) (λn a w K M d l J B H F=>E true 0 n 0 a w K ⟨n,0,M, .inl ⟨rfl,rfl,rfl,rfl,rfl⟩⟩ d l J ⟨_,B⟩ H F) λq g a w p v d f=> ?_;refine Hm (k:=1) y N O P t u r o_ o_ o_ f d (λn a w K M d l J B H F=>E true 1 n 0 a w K ⟨q,g,p, .inr ⟨v,n,0,M, .inl ⟨rfl,rfl,rfl,rfl,rfl⟩⟩⟩ d l J ⟨_,B⟩ H F) λA h a w x I d f=> ?_;have V:=TA p;have U:=TA x;refine Rn.uc d λa d=> ?_;refine Rn.p rfl (Rn.p rfl (Rn.cond _ (d.G 39) ?_));rw[decide_eq_false o_]
 iterate 2 refine Rn.uc d λa d=> ?_
 refine Rn.cw d Lf.func74 (tE 4 (max (max 0 g) h) o_ o_ f.ch f.run) λQ ⟨S,R,C⟩ a d=> ?_;have D:=C.at (mn f.ch f.run f.out d_ d_) f.out;refine Rn.nn d (λo l=>gf l (d.G 2) (d.G 70) D rfl) λa d=> ?_;have z:=dQ (w:=Q) ob (cH 0 false 0 0 (max (max 0 g) h)) 36;refine Rn.p rfl ?_;refine E false 0 0 (max (max 0 g) h) _ _ _ ⟨q,g,p, .inr ⟨v,A,h,x, .inr ⟨I,rfl,rfl,rfl,o_⟩⟩⟩ (d.only ⟨rfl,trivial⟩) (co D) (S.ex z o_) ⟨_,z.at o_ R⟩ (((f.fls.keep C (ug f.ch f.run)).keep z λb cs T m e=> ?_)) ((f.ex.trans C λ_ _ e=>e).trans z λb m e=>o_);rw[e,D]at m;injection m with m;injection m with _ m;cases m
end
section
variable{y z:Operand}
theorem DO(hv:v.cells=#[v])(a:o.op= .box t x)(b:ev x=v):(execOp ev o).run lT w= .ok (.value (.pk w.heap.size 0)) (w.alloc (.cells #[v] t)):=by
 have:=(mo lT (w:=w) (ev:=ev) a).1
 rwa [b,hv]at this
theorem zR:Bq lT 97:=λw=>⟨k_,k_⟩
theorem NB{a:Nat}{room:Int}(b:o.op= .build 75 #[(0,x),(1,y)])(d:ev x= .pk a 0)(c:ev y= .i room):(execOp ev o).run lT w= .ok (.value (.agg (ox a room false))) w:=by
 have e:execOp ev o=(do pure (.value (←C9 75 #[(0, .pt a),(1, .i room)]))):=by simp[execOp,b,d,c]
 have f:(do pure (.value (←C9 75 #[(0, .pt a),(1, .i room)])):Sem Next).run lT w= .ok (.value (.agg (ox a room false))) w:=k_
 rw[e,f]
theorem O7(a:o.op= .alloc 75):(execOp ev o).run lT w= .ok (.value (.pk w.heap.size 0)) (w.alloc (.cells #[.pointer none, .i 0, .bool false] 75)):=by
 have e:execOp ev o=(do pure (.value (←Ee 75 true (.tuple #[])))):=by simp only[execOp,a]
 have b:(do pure (.value (←Ee 75 true (.tuple #[]))):Sem Next).run lT w= .ok (.value (.pk w.heap.size 0)) (w.alloc (.cells #[.pointer none, .i 0, .bool false] 75)):=k_
 rw[e,b]
theorem Oq:(lT.info? 75).map (·.size)=some 3:=k_
theorem Qy{d:Nat}{room:Int}{old:Array Value}{c:TypeId}(a:o.op= .store 75 x y)(f:ev x= .pk b 0)(e:ev y= .agg (ox d room false))(h:w.heap[b]?=some (.cells old c))(g:old.size=3):
 (execOp ev o).run lT w= .ok .skip (gy w b (ox d room false) c):=by rw[←iq h];exact db a f e h Oq g (by simp[ox,LN])
theorem zy{r s e:Int}{j:Bool}{f:TypeId}(a:o.op= .load 36 x)(g:ev x= .pk b 0)(d:w.heap[b]?=some (.cells (cH r j s e c) f)):(execOp ev o).run lT w= .ok (.value (.agg (cH r j s e c))) w:=by
 have h:(isAgg 36).run lT w= .ok true w:=k_
 have d:=aK d;simp[execOp,a,g,a47,loadVar,h,loadCells,loadCellsFrom,Addr.add,d,cH,go_sem]
end
theorem GA:Tryz.f59.body=some (.seq (rG Tryz.f59 0) (.seq (rG Tryz.f59 1) (.seq (rG Tryz.f59 2) (.seq (.seq (rG Tryz.f59 3) (.cond (.tmp 24) (.seq (rG Tryz.f59 4) .ret) .skip)) (.seq (.seq (rG Tryz.f59 5) (.cond (.tmp 34) (.seq (rG Tryz.f59 6) .ret) .skip)) (HA Tryz.f59)))))):=k_
section
variable{cb rb:Nat}{fl:Value}{W:List Int}{L:ByteArray}{room:Int}
theorem J8{on:Bool}{sl:Int}(h:dB w cb fl W on sl):w.rangeAt cb 1 (W.map (Value.int .i64)):=λj v a=>by
 obtain⟨e,K,f,_,d⟩:=h;rw[IS]at a;cases c:W[j]? with
 |none=>rw[c]at a;cases a
 |some x=>
  rw[c]at a;cases a;obtain⟨b,rfl⟩:=List.getElem?_eq_some_iff.1 c;rw[aK d];exact OL j b
theorem BI(hrd:rJ)(hKl:KS.length=64)(h:dB w cb fl W false 0)(hW:gD W)(hb:w.heap[rb]?=some (.cells (ox cb room false) 75))(hr:10<room)(hr2:room<9223372036854775808)(hf:j9 w fl L)(h0:¬XR cb rb 0)(hK:w.rangeAt 0 0 (aH KS)):
 Calls (aI true Tryz.prog) 59 #[.pk rb 0] w λe w'=>∃j s n c,e= .returned (.agg (cH 0 j s n c))/\gt KS W L j s n c/\dB w' cb fl W j s/\(∃room',w'.heap[rb]?=some (.cells (ox cb room' false) 75))/\j9 w' fl L/\Ex (XR cb rb) w w':=by
 refine eU (t:=2) (ty:=36) (n:=5) Lf.func59 rfl (by rw[bY];exact Tryz.underlying36) rfl kw λcs=> ?_;rw[aV (N:=71) [.pk rb 0] Lf.func59 GA rfl];have hF:=aN [.pk rb 0] 71 s_;refine Rn.al hF (λo ho=>iB ho) λw1 a b1 c1 z1 hF=> ?_;have hl:=h.lt;have hl2:=bH hb;have hne:=J9 h hb;have h1:=h.ex (Ex.of_below (X:=λ_=>False) b1) (λe=>e);have f1:=hf.keep (Ex.of_below (X:=λ_=>False) b1) (λ_ _ _ _ e=>e);have hK1:=eD (Ex.of_below (X:=λ_=>False) b1) (λe=>e) o_ hK;have hb1:=bk b1 hb;refine Rn.uc hF λa hF=> ?_;refine Rn.cw hF Lf.func73 (pZ 1 o_ hr2 h1 hb1) λw2 ⟨h2,hb2,x2,z2⟩ a hF=> ?_;have c2:=x2.at (by rintro(e|e)<;>omega) c1;have f2:=f1.keep x2 (ug h1 hb1);have hK2:=eD x2 h0 o_ hK1;have X2:Ex (XR cb rb) w w2:=(Ex.of_below b1).trans x2 λb _ e=>e
 iterate 6 refine Rn.uc hF λa hF=> ?_
 refine Rn.vv hF (λo ho=>xV ho (hF.get (d:=18) rfl)) λa hF=> ?_;refine Rn.cl hF Lf.func36 (hrd W w2 cb 1 85 (a36 _) hW (J8 h2) h2.lt) λv w3 hv a hF=> ?_;obtain⟨st,le,c,pu,lu,qu,ph,lh,qh,us,hs,rfl,hP,b3,hz⟩:=hv;have h3:=h2.ex (Ex.of_below (X:=λ_=>False) b3) (λe=>e);have f3:=f2.keep (Ex.of_below (X:=λ_=>False) b3) (λ_ _ _ _ e=>e);have hl3:=h2.lt;have hK3:=eD (Ex.of_below (X:=λ_=>False) b3) (λe=>e) o_ hK2;have hb3:=bk b3 hb2;have c3:=bk b3 c2;have z3:=b3.size
 iterate 3 refine Rn.uc hF λa hF=> ?_
 refine Rn.al hF (λo ho=>Ij ho) λw4 a b4 c4 z4 hF=> ?_;have h4:=h3.ex (Ex.of_below (X:=λ_=>False) b4) (λe=>e);have f4:=f3.keep (Ex.of_below (X:=λ_=>False) b4) (λ_ _ _ _ e=>e);have hK4:=eD (Ex.of_below (X:=λ_=>False) b4) (λe=>e) o_ hK3;have hb4:=bk b4 hb3;have o4:=bk b4 c3;refine Rn.nn hF (λo ho=>vO ho (hF.get (d:=3) rfl) (hF.get (d:=21) rfl) c4 rfl) λa hF=> ?_;have x5:=dQ (w:=w4) w3.heap.size (ik st le (.slice pu lu qu) (.slice ph lh qh)) 48;have c5:=co (w:=w4) (cs:=ik st le (.slice pu lu qu) (.slice ph lh qh)) (t:=48) c4;have X5:Ex (XR cb rb) w (gy w4 w3.heap.size (ik st le (.slice pu lu qu) (.slice ph lh qh)) 48):=((X2.trans (Ex.of_below (X:=λ_=>False) b3) λ_ _ e=>e.elim).trans (Ex.of_below (X:=λ_=>False) b4) λ_ _ e=>e.elim).trans x5 λb hb e=>o_
 have h5:=h4.ex x5 o_;have hb5:=x5.at o_ hb4;have o5:=x5.at o_ o4;have f5:=f4.keep x5 λb cs fr hb e=>by rw[e,c4]at hb;injection hb with hb;injection hb with _ hb;cases hb
 have hK5:=eD x5 o_ o_ hK4;have hz5:c=0->∃bu bh,pu=some ⟨bu,0,none⟩/\lu=4/\qu=4/\ph=some ⟨bh,0,none⟩/\lh=4/\qh=4/\(gy w4 w3.heap.size (ik st le (.slice pu lu qu) (.slice ph lh qh)) 48).heap[bu]?=some (.cells (us.map Value.bool).toArray 4)/\(gy w4 w3.heap.size (ik st le (.slice pu lu qu) (.slice ph lh qh)) 48).heap[bh]?=some (.cells (hs.map Value.string).toArray 9):=λe=>by obtain⟨bu,bh,e1,e2,e3,e4,e5,e6,e7,e8⟩:=hz e;have l7:=bH e7;have l8:=bH e8;exact⟨bu,bh,e1,e2,e3,e4,e5,e6,x5.at o_ (bk b4 e7),x5.at o_ (bk b4 e8)⟩
 have s5:w.heap.size<=(gy w4 w3.heap.size (ik st le (.slice pu lu qu) (.slice ph lh qh)) 48).heap.size:=X5.size;clear hz;revert c5 X5 h5 hb5 o5 f5 hK5 hz5 s5;generalize gy w4 w3.heap.size (ik st le (.slice pu lu qu) (.slice ph lh qh)) 48=w5;intro c5 X5 h5 hb5 o5 f5 hK5 hz5 s5;clear x5 hK4 hb4 o4 h4 f4 h3 f3 hK3 hb3 c3 h2 f2 hK2 hb2 c2
 iterate 3 refine Rn.uc hF λa hF=> ?_
 refine Rn.p rfl (Rn.cond _ (hF.get (d:=24) rfl) ?_);have fin:∀(c':Int) {a:Act} {w6 w7:World} {K:List Item},gt KS W L false 0 0 c'->dB w6 cb fl W false 0->w6.heap[rb]?=some (.cells (ox cb (room- 1- 1) false) 75)->Ex (XR cb rb) w5 w6->w7=gy w6 w.heap.size (cH 0 false 0 0 c') 36->aW [(2, .pt w.heap.size)] 71 [] a->Rn (aI true Tryz.prog) (λg w'=>∃(a:Act) (k:List Item) (bk:Nat) (cells:Array Value) (tt:TypeId),g=gB {(base 59).atR a k with mode:= .returning} cs/\a.defers=[]/\a.tmps[2]?=some (.pk bk 0)/\w'.heap[bk]?=some (.cells cells tt)/\cells.size=5/\∃j s n c,Vg (.agg cells)= .returned (.agg (cH 0 j s n c))/\gt KS W L j s n c/\dB w' cb fl W j s/\(∃room',w'.heap[rb]?=some (.cells (ox cb room' false) 75))/\j9 w' fl L/\Ex (XR cb rb) w w') ((base 59).atR a (.code .ret::K)) cs w7:=λc' a w6 w7 K hst h6 r6 x6 e7 hF=>by subst e7;have o6:=x6.at (mn h5 hb5 o5 d_ d_) o5;have x7:=dQ (w:=w6) w.heap.size (cH 0 false 0 0 c') 36;refine Rn.ends rfl (.inr ⟨_,rfl⟩) (Rn.now ⟨_,_,w.heap.size,_,_,rfl,hF.defers,hF.slot 2 _ rfl,co o6,rfl,false,0,0,c',rfl,hst,h6.ex x7 o_,⟨_,x7.at o_ r6⟩,((f5.keep x6 (ug h5 hb5)).keep x7 λb cs fr hb e=> ?_),(X5.trans x6 λ_ _ e=>e).trans x7 λb hb e=>o_⟩);rw[e,o6]at hb;injection hb with hb;injection hb with _ hb;cases hb
 by_cases hc:c=0
 ·subst hc;obtain⟨bu,bh,rfl,rfl,rfl,rfl,rfl,rfl,hu5,hh5⟩:=hz5 rfl;have hS:Sv w cb rb w.heap.size w3.heap.size bu bh fl W L st le us hs KS (room- 1) w5:=⟨h5,hb5,f5,o5,c5,hu5,hh5,hK5,X5⟩;have hlen:us.length=4/\hs.length=4:=by
   rcases hP with⟨_,_,_,_,rfl,rfl⟩|⟨_,e⟩
   ·exact⟨by simp[lg],by simp[qk]⟩
   ·cases e
  have go:(st=255\/st=3855)->∀{a:Act},aW [(0, .pt rb),(2, .pt w.heap.size),(3, .pt w3.heap.size)] 71 [] a->Rn (aI true Tryz.prog) (λg w'=>∃(a:Act) (k:List Item) (bk:Nat) (cells:Array Value) (tt:TypeId),g=gB {(base 59).atR a k with mode:= .returning} cs/\a.defers=[]/\a.tmps[2]?=some (.pk bk 0)/\w'.heap[bk]?=some (.cells cells tt)/\cells.size=5/\∃j s n c,Vg (.agg cells)= .returned (.agg (cH 0 j s n c))/\gt KS W L j s n c/\dB w' cb fl W j s/\(∃room',w'.heap[rb]?=some (.cells (ox cb room' false) 75))/\j9 w' fl L/\Ex (XR cb rb) w w') ((base 59).atR a [.code (HA Tryz.f59)]) cs w5:=λhst a hF=>by refine Nm hKl hlen.1 hlen.2 h0 (a36 _) hl hl2 o_ o_ hS hF λj s n c a' w' K hQ hF ho hch hrn hfl hx=> ?_;exact Rn.ends rfl (.inr ⟨_,rfl⟩) (Rn.now ⟨_,_,w.heap.size,_,_,rfl,hF.defers,hF.slot 2 _ rfl,ho,rfl,j,s,n,c,rfl,⟨st,le,0,us,hs,hP, .inr (.inr ⟨rfl,hst,hQ⟩)⟩,hch,hrn,hfl,hx⟩)
  iterate 4 refine Rn.uc hF λa hF=> ?_
  by_cases e1:st=255
  ·rw[show(st !=255)=false from by simpa using e1]at hF
   iterate 3 refine Rn.us hF λa hF=> ?_
   refine Rn.vv hF (λo ho=>i0 ho (hF.get (d:=30) rfl) rfl) λa hF=> ?_;refine Rn.p rfl (Rn.cond _ (hF.get (d:=34) rfl) ?_);exact Rn.p rfl (go (.inl e1) (hF.only ⟨rfl,rfl,rfl,trivial⟩))
  ·rw[show(st !=255)=true from by simpa using e1]at hF
   iterate 3 refine Rn.uc hF λa hF=> ?_
   refine Rn.vv hF (λo ho=>mK ho (hF.get (d:=30) rfl) (hF.get (d:=33) rfl)) λa hF=> ?_;refine Rn.p rfl (Rn.cond _ (hF.get (d:=34) rfl) ?_);by_cases e2:st=3855
   ·rw[show(st !=3855)=false from by simpa using e2];exact Rn.p rfl (go (.inr e2) (hF.only ⟨rfl,rfl,rfl,trivial⟩))
   ·rw[show(st !=3855)=true from by simpa using e2];refine Rn.uc hF λa hF=> ?_;refine Rn.cw hF Lf.func74 (tE 3 2 o_ o_ h5 hb5) λw6 ⟨h6,r6,x6⟩ a hF=> ?_;refine Rn.nn hF (λo ho=>gf ho (hF.get (d:=2) rfl) (hF.get (d:=36) rfl) (x6.at (mn h5 hb5 o5 d_ d_) o5) rfl) λa hF=> ?_;exact Rn.p rfl (fin 2 ⟨st,le,0,us,hs,hP, .inr (.inl ⟨rfl,e1,e2,rfl,rfl,rfl,rfl⟩)⟩ h6 r6 x6 rfl (hF.only ⟨rfl,trivial⟩))
 ·rw[show(c !=0)=true from by simpa using hc];refine Rn.uc hF λa hF=> ?_;refine Rn.cw hF Lf.func74 (tE 2 1 o_ o_ h5 hb5) λw6 ⟨h6,r6,x6⟩ a hF=> ?_;refine Rn.nn hF (λo ho=>gf ho (hF.get (d:=2) rfl) (hF.get (d:=26) rfl) (x6.at (mn h5 hb5 o5 d_ d_) o5) rfl) λa hF=> ?_;exact Rn.p rfl (fin 1 ⟨st,le,c,us,hs,hP, .inl ⟨hc,rfl,rfl,rfl,rfl⟩⟩ h6 r6 x6 rfl (hF.only ⟨rfl,trivial⟩))
end
theorem Pj:Tryz.f43.body=some (.seq (rG Tryz.f43 0) (.seq (rG Tryz.f43 1) (.seq (rG Tryz.f43 2) .ret))):=k_
theorem Pm:Tryz.f58.body=some (.seq (rG Tryz.f58 0) (.cond (.tmp 4) (.seq (rG Tryz.f58 1) (rG Tryz.f58 2)) .skip)):=k_
section
variable{cb rb:Nat}{fl:Value}{W:List Int}{L:ByteArray}{room:Int}
structure ia (KS W:List Int) (L:ByteArray) (fl:Value) (cb:Nat) (j:Bool) (s n c:Int) (w':World):Prop where
 step:gt KS W L j s n c
 ch:dB w' cb fl W j s
 fls:j9 w' fl L
theorem OJ(E:rJ)(I:KS.length=64)(h:dB w cb fl W false 0)(hW:gD W)(l:w.heap[rb]?=some (.cells (ox cb room false) 75))(Z:10<room)(F:room<9223372036854775808)(hf:j9 w fl L)(h0:¬XR cb rb 0)(hK:w.rangeAt 0 0 (aH KS)):
 Calls lT 43 #[.pk rb 0] w λe w'=>∃v,e= .returned v/\∃j s n c,v= .agg (cH 0 j s n c)/\ia KS W L fl cb j s n c w'/\Ex (XR cb rb) w w':=by
 refine eU (t:=2) (ty:=36) (n:=5) Lf.func43 rfl (by rw[bY];exact Tryz.underlying36) rfl kw λcs=> ?_;rw[aV (N:=6) [.pk rb 0] Lf.func43 Pj rfl];have f:=aN [.pk rb 0] 6 s_;have hl:=h.lt;have a0:=bH l;refine Rn.al f (λo k=>DO rfl k (f.G 0)) λy a T r z1 f=> ?_;refine Rn.al f (λo k=>iB k) λq a S c2 z2 f=> ?_;have p:Bw w q:=aB T T.size S;have h2:=h.ex (Ex.of_below (X:=λ_=>False) p) (λe=>e);have f2:=hf.keep (Ex.of_below (X:=λ_=>False) p) (λ_ _ _ _ e=>e);have J:=eD (Ex.of_below (X:=λ_=>False) p) (λe=>e) o_ hK;have H:=bk p l;have r:=bk S r;refine Rn.vv (w':=q) f (v:= .func (.func 58) #[] #[.pk w.heap.size 0]) (λo k=> ?_) λa f=> ?_
 ·have:=(fB (ev:=a.eval) (w:=q) lT (a:=#[.tmp 1]) k).1
  rwa [show(#[Ft 1]:Array Operand).map a.eval=#[.pk w.heap.size 0]from by simp[f.G 1]]at this
 refine Rn.dfr (d:=3) f rfl rfl rfl rfl rfl rfl rfl rfl λa f=> ?_;refine Rn.vv f (λo k=>(aP (v:= .pk rb 0) zR k (f.G 1) ((aK r 0).trans rfl)).1) λa f=> ?_;refine Rn.cl f Lf.func59 (R:=λv w'=>∃j s n c,v= .agg (cH 0 j s n c)/\gt KS W L j s n c/\dB w' cb fl W j s/\(∃i,w'.heap[rb]?=some (.cells (ox cb i false) 75))/\j9 w' fl L/\Ex (XR cb rb) q w') ((BI E I h2 hW H Z F f2 h0 J).mono λe w' ⟨j,s,n,c,e1,e2⟩=>⟨_,e1,j,s,n,c,rfl,e2⟩) λv x Y a f=> ?_;obtain⟨j,s,n,c,rfl,D,h3,⟨i,U⟩,f3,u⟩:=Y;have C:=u.at (by rintro(e|e)<;>omega) c2;have V:=u.at (by rintro(e|e)<;>omega) r;refine Rn.nn f (λo k=>gf k (f.G 2) (f.G 5) C rfl) λa f=> ?_;have m:=dQ (w:=x) y.heap.size (cH 0 j s n c) 36;have K:=h3.ex m o_;have P:=m.at o_ U;have A:=m.at o_ V;have B:=co (w:=x) (cs:=cH 0 j s n c) (t:=36) C;have M:=f3.keep m λb cs fr l e=>by rw[e,C]at l;injection l with l;injection l with _ l;cases l
 have O:=((Ex.of_below (X:=XR cb rb) p).trans u λ_ _ e=>e).trans m λb l e=>o_
 revert K P A B M O;generalize gy x y.heap.size (cH 0 j s n c) 36=w4;intro K P A B M O;refine Rn.p rfl (Rn.ends rfl (.inr ⟨_,rfl⟩) ?_);refine Rn.dcall (g:=58) s_ f.defers Lf.func58 k_ d_ ?_;have z:=f.slot 2 _ rfl;generalize G:({{(base 43).atR a _ with mode:= .returning}with defers:=[]}:Frame)=a1;show Rn _ _ (a49 _ _ ([.pk w.heap.size 0]:List Value).toArray .deferred) _ _;rw[Lu (N:=11) [.pk w.heap.size 0] Lf.func58 Pm rfl];have Q:=aN [.pk w.heap.size 0] 11 s_;refine Rn.vv Q (λo k=>(aP (v:= .pk rb 0) zR k (Q.G 0) ((aK A 0).trans rfl)).1) λa f=> ?_
 iterate 3 refine Rn.uc f λa f=> ?_
 refine Rn.p rfl (Rn.cond _ (f.G 4) ?_);refine Rn.p rfl (Rn.ends rfl (.inl rfl) ?_);refine Rn.dback (v:= .tuple #[]) (fn:=Tryz.f58) rfl f.defers Lf.func58 k_ ?_;subst G;exact Rn.now ⟨⟨_,[]⟩,_,y.heap.size,_,_,rfl,rfl,z,B,rfl,_,rfl,j,s,n,c,rfl,⟨D,K,M⟩,O⟩
end
theorem T5{p:Option Addr}{c:Nat}(a:o.op= .call {callee:= .builtin .len,args:=#[.tmp k],argTypes:=#[22]})(b:ev (.tmp k)= .slice p l c):eX ev o w (.i l):=oe (ty:=22) (e:=3) k_ a b
theorem Pp:Tryz.f30.body=some (.seq (rG Tryz.f30 0) (.seq (rG Tryz.f30 1) (.seq (.seq (rG Tryz.f30 2) (.block 0 (.loop (.seq (rG Tryz.f30 3) (.seq (.cond (.tmp 16) .skip (.exit 0)) (.seq (.block 1 (.seq (rG Tryz.f30 4) (.seq (rG Tryz.f30 5) (.seq (rG Tryz.f30 6) (.seq (rG Tryz.f30 7) (.cond (.tmp 26) (.seq (rG Tryz.f30 8) (.seq (rG Tryz.f30 9) .ret)) .skip)))))) (rG Tryz.f30 10))))))) (.seq (rG Tryz.f30 11) (.seq (rG Tryz.f30 12) (.seq (rG Tryz.f30 13) (.seq (rG Tryz.f30 14) .ret))))))):=k_
theorem P7:Tryz.f16.body=some (.seq (rG Tryz.f16 0) (.seq (rG Tryz.f16 1) .ret)):=k_
section
variable{cb:Nat}{fl:Value}{W:List Int}{L:ByteArray}{on:Bool}{sl:Int}
theorem iE{w:World}{c:Array Value}(h:w.heap[b]?=some (.cells c t))(f:t≠5)(d:Nat)(cs:Array Value)(fr:Nat×Nat)(a:w.heap[d]?=some (.cells cs 5 fr)):¬d=b:=λe=>by rw[e,h]at a;injection a with a;injection a with _ a;exact f a
theorem Gz(J:rJ)(K:KS.length=64)(h:dB w cb fl W on sl)(hW:gD W)(hf:j9 w fl L)(h0:cb≠0)(hK:w.rangeAt 0 0 (aH KS)):
 Calls lT 30 #[.pk cb 0, .slice none 0 0] w λe w'=>∃v,e= .returned v/\∃j s n c,v= .agg (cH 1 j s n c)/\ia KS W L fl cb j s n c w'/\Ex (· =cb) w w':=by
 refine eU (t:=4) (ty:=36) (n:=5) Lf.func30 rfl (by rw[bY];exact Tryz.underlying36) rfl kw λcs=> ?_;rw[aV (N:=40) [.pk cb 0, .slice none 0 0] Lf.func30 Pp rfl];have d:=aN [.pk cb 0, .slice none 0 0] 40 s_;have hl:=h.lt;refine Rn.al d (λo f=>iB f) λw1 a E c1 z1 d=> ?_;have h1:=h.ex (Ex.of_below (X:=λ_=>False) E) (λe=>e);have f1:=hf.keep (Ex.of_below (X:=λ_=>False) E) (λ_ _ _ _ e=>e);have P:=eD (Ex.of_below (X:=λ_=>False) E) (λe=>e) o_ hK;refine Rn.uc d λa d=> ?_;refine Rn.cw d Lf.func42 (tz h1) λB ⟨h2,z,z2⟩ a d=> ?_;have c2:=z.at o_ c1;have f2:=f1.keep z λb cs i g=>iE h1.2.choose_spec.2.2 d_ b cs i g;have O:=eD z o_ o_ P;refine Rn.uc d λa d=> ?_;refine Rn.vv d (λo f=>T5 f (d.G 13)) λa d=> ?_
 iterate 2 refine Rn.uc d λa d=> ?_
 refine Rn.p rfl (Rn.p rfl (Rn.cond _ (d.G 16) ?_));refine Rn.uc d λa d=> ?_;refine Rn.vv d (λo f=>NB (room:=9223372036854775807) f (d.G 32) rfl) λa d=> ?_;refine Rn.al d (λo f=>O7 f) λq a u c3 z3 d=> ?_;refine Rn.nn d (λo f=>Qy f (d.G 9) (d.G 33) c3 rfl) λa d=> ?_;have p:=dQ (w:=q) B.heap.size (ox cb 9223372036854775807 false) 75;have h3:=h2.ex (Ex.of_below (X:=λ_=>False) u) (λe=>e);have f3:=f2.keep (Ex.of_below (X:=λ_=>False) u) (λ_ _ _ _ e=>e);have M:=eD (Ex.of_below (X:=λ_=>False) u) (λe=>e) o_ O;have R:=h3.ex p o_;have T:=f3.keep p λb cs i g=>iE c3 d_ b cs i g;have k:=eD p o_ o_ M;have I:=co (w:=q) (cs:=ox cb 9223372036854775807 false) (t:=75) c3;have Z:=p.at o_ (bk u c2);have X4:Ex (· =cb) w (gy q B.heap.size (ox cb 9223372036854775807 false) 75):=(((Ex.of_below E).trans z λ_ _ e=>e).trans (Ex.of_below (X:=λ_=>False) u) λ_ _ e=>e.elim).trans p λb g e=>o_
 have s4:=jD (w:=q) (b:=B.heap.size) (cs:=ox cb 9223372036854775807 false) (t:=75);revert R T k I Z X4 s4;generalize gy q B.heap.size (ox cb 9223372036854775807 false) 75=w4;intro R T k I Z X4 s4;refine Rn.cl d Lf.func43 (OJ J K R hW I o_ o_ T (by rintro(e|e)<;>omega) k) λv l hv a d=> ?_;obtain⟨j,s,n,c,rfl,C,G⟩:=hv;have c5:=G.at (by rintro(e|e)<;>omega) Z;have a0:=C.ch.lt;have z5:=G.size;have X5:Ex (· =cb) w l:=X4.trans G λb g e=>by rcases e with e|e<;>omega
 refine Rn.al d (λo f=>iB f) λA a D Y z6 d=> ?_;refine Rn.nn d (λo f=>gf f (d.G 10) (d.G 34) Y rfl) λa d=> ?_;have y:=dQ (w:=A) l.heap.size (cH 0 j s n c) 36;have V:=y.at o_ (bk D c5);have r:=co (w:=A) (cs:=cH 0 j s n c) (t:=36) Y;have Q:=(C.ch.ex (Ex.of_below (X:=λ_=>False) D) (λe=>e)).ex y o_;have S:=(C.fls.keep (Ex.of_below (X:=λ_=>False) D) (λ_ _ _ _ e=>e)).keep y λb cs i g=>iE Y d_ b cs i g;have X7:Ex (· =cb) w (gy A l.heap.size (cH 0 j s n c) 36):=(X5.trans (Ex.of_below (X:=λ_=>False) D) λ_ _ e=>e.elim).trans y λb g e=>o_
 revert V r Q S X7;generalize gy A l.heap.size (cH 0 j s n c) 36=H;intro V r Q S X7;refine Rn.uc d λa d=> ?_;refine Rn.vv d (λo f=>T5 f (d.G 35)) λa d=> ?_;refine Rn.vv d (λo f=>cS (m:=0) (n:=1) f (d.G 36) rfl o_) λa d=> ?_;refine Rn.uc d λa d=> ?_;refine Rn.nn d (λo f=>fD (v:= .i 1) rfl rfl k_ f (d.G 38) (d.G 37) r (d_:0<5)) λa d=> ?_;rw[show(cH 0 j s n c).setIfInBounds 0 (.i 1)=cH 1 j s n c from rfl];have x:=dQ (w:=H) l.heap.size (cH 1 j s n c) 36;have U:=x.at o_ V;have o8:=co (w:=H) (cs:=cH 1 j s n c) (t:=36) r;refine Rn.vv d (λo f=>zy f (d.G 10) o8) λa d=> ?_;refine Rn.nn d (λo f=>gf f (d.G 4) (d.G 39) U rfl) λa d=> ?_;have F:=dQ (w:=gy H l.heap.size (cH 1 j s n c) 36) w.heap.size (cH 1 j s n c) 36;exact Rn.runs 6 _ (Rn.ends rfl (.inr ⟨_,rfl⟩) (Rn.now ⟨_,_,w.heap.size,_,_,rfl,d.defers,d.slot 4 _ rfl,co U,rfl,_,rfl,j,s,n,c,rfl,⟨C.step,(Q.ex x o_).ex F o_,(S.keep x λb cs i g=>iE r d_ b cs i g).keep F λb cs i g=>iE U d_ b cs i g⟩,(X7.trans x λb g e=>o_).trans F λb g e=>o_⟩))
theorem xa{g:Nat}(k:rJ)(q:KS.length=64)(h:dB w cb fl W on sl)(E:gD W)(D:j9 w fl L)(H:cb≠0)(F:w.rangeAt 0 0 (aH KS))(m:w.heap[g]?=some (.cells #[.pk cb 0] 61)):
 Calls lT 16 #[.pk g 0, .slice none 0 0] w λe w'=>∃v,e= .returned v/\∃j s n c,v= .agg (cH 1 j s n c)/\ia KS W L fl cb j s n c w'/\Ex (· =cb) w w':=by
 refine eU (t:=4) (ty:=36) (n:=5) Lf.func16 rfl (by rw[bY];exact Tryz.underlying36) rfl kw λA=> ?_;rw[aV (N:=11) [.pk g 0, .slice none 0 0] Lf.func16 P7 rfl];have d:=aN [.pk g 0, .slice none 0 0] 11 s_;have P:=h.lt;refine Rn.al d (λo l=>iB l) λO a f K M d=> ?_;have G:=h.ex (Ex.of_below (X:=λ_=>False) f) (λe=>e);have J:=D.keep (Ex.of_below (X:=λ_=>False) f) (λ_ _ _ _ e=>e);have r:=eD (Ex.of_below (X:=λ_=>False) f) (λe=>e) o_ F;have y:=bk f m
 iterate 5 refine Rn.uc d λa d=> ?_
 refine Rn.cl d Lf.func30 (Gz k q G E J H r) λv B C a d=> ?_;obtain⟨j,s,n,c,rfl,p,x⟩:=C;have u:=x.at o_ K;refine Rn.nn d (λo l=>gf l (d.G 4) (d.G 10) u rfl) λa d=> ?_;have i:=dQ (w:=B) w.heap.size (cH 1 j s n c) 36;exact Rn.runs 6 _ (Rn.ends rfl (.inr ⟨_,rfl⟩) (Rn.now ⟨_,_,w.heap.size,_,_,rfl,d.defers,d.slot 4 _ rfl,co u,rfl,_,rfl,j,s,n,c,rfl,⟨p.step,p.ch.ex i o_,p.fls.keep i λb A I z=>iE u d_ b A I z⟩,((Ex.of_below f).trans x λ_ _ e=>e).trans i λb z e=>o_⟩))
end
end L1
section
open Go.RowKit
theorem L8{a c:Nat}(e:a<65536)(d:b<65536):FJ a b c<65536:=by have h:a&&&b<2^16:=VP _ d;have g:a&&&c<2^16:=VQ ZH e;have f:b&&&c<2^16:=VQ ZH d;exact Wz (Wz h g) f
theorem L6{a c:Nat}(h:a<65536)(e:b<65536)(d:c<65536):
 bits .or .i64 (bits .or .i64 (bits .and .i64 (a:Int) (b:Int)) (bits .and .i64 (a:Int) (c:Int))) (bits .and .i64 (b:Int) (c:Int))=((FJ a b c:Nat):Int):=by have g:a&&&b<2^16:=VP _ e;have f:a&&&c<2^16:=VP _ d;have j:b&&&c<2^16:=VP _ d;have i:(a&&&b)|||(a&&&c)<2^16:=Wz g f;rw[SC _ _ o_ o_,SC _ _ o_ o_,SC _ _ o_ o_,pj _ _ o_ o_,pj _ _ o_ o_];rfl
theorem Mv{g off:Nat}{W:List Int}(h:w.rangeAt g off (W.map (Value.int .i64)))(n:Nat)(a:n<W.length):w.cell? ⟨g,off+n,none⟩=some (.i (W.getD n 0)):=by refine h n _ ?_;rw[IS,a50,AS a];rfl
end
namespace L1
open Go.Conc Go.RowKit
section
variable{y z:Operand}
theorem me{g off a cap:Nat}(n:Nat)(e:lT.underlying t=some (.slice 3))(b:o.op= .indexAddr t x y)(d:ev x= .slice (some ⟨g,off,none⟩) a cap)(c:ev y= .i n)(f:n<a):eX ev o w (.pk g (off+n)):=by
 have:=(eA (w:=w) e (λw=>k_) b d c f).1
 rwa [CH]at this
theorem BZ{g off:Nat}{W:List Int}(n:Nat)(h:w.rangeAt g off (W.map (Value.int .i64)))(c:n<W.length)(a:o.op= .load 3 x)(b:ev x= .pk g (off+n)):eX ev o w (.i (W.getD n 0)):=(aP cp a b (Mv h n c)).1
theorem Mt{m n:Int}(a:o.op= .binOp .or 3 x y u)(c:ev x= .i m)(b:ev y= .i n):(execOp ev o).run lT w= .ok (.value (.i (bits .or .i64 m n))) w:=by simp[execOp,a,c,b,go_sem]
theorem tS{m n:Int}(a:o.op= .binOp .and 67 x y u)(c:ev x= .int .u64 m)(b:ev y= .int .u64 n):(execOp ev o).run lT w= .ok (.value (.int .u64 (bits .and .u64 m n))) w:=by simp[execOp,a,c,b,go_sem]
theorem qT{m n:Int}(a:o.op= .binOp .add 67 x y u)(c:ev x= .int .u64 m)(b:ev y= .int .u64 n):(execOp ev o).run lT w= .ok (.value (.int .u64 (LX.wrap (m+n)))) w:=by simp[execOp,a,c,b,go_sem]
theorem qS{m:Int}(d:k<=32)(a:o.op= .binOp .shr 67 x y u)(c:ev x= .int .u64 m)(b:ev y= .int .u64 k):(execOp ev o).run lT w= .ok (.value (.int .u64 (m/2^k))) w:=by simp[execOp,a,c,b,go_sem]
theorem Kj{m:Int}(a:o.op= .convert 67 3 x)(b:ev x= .int .u64 m):(execOp ev o).run lT w= .ok (.value (.i (A8.wrap m))) w:=by
 have d:lT.underlying 67=some (.int .u64):=k_
 have c:lT.underlying 3=some (.int .i64):=k_
 simp[execOp,a,b,go_sem,d,c]
theorem Kt{m:Int}(a:o.op= .convert 3 55 x)(b:ev x= .i m):(execOp ev o).run lT w= .ok (.value (.int .u64 (LX.wrap m))) w:=by
 have d:lT.underlying 55=some (.int .u64):=k_
 have c:lT.underlying 3=some (.int .i64):=k_
 simp[execOp,a,b,go_sem,d,c]
end
theorem Pd:Tryz.f46.body=some (.seq (rG Tryz.f46 0) (.seq (rG Tryz.f46 1) .ret)):=k_
theorem sq(x:Int)(c:0<=x/\x<65536)(w:World):Calls lT 46 #[.i x] w λe w'=>e= .returned (.bool true)/\w'=w:=by
 refine aT (t:=2) Lf.func46 rfl λf=> ?_;rw[aV (N:=9) [.i x] Lf.func46 Pd rfl];have b:=aN [.i x] 9 s_
 iterate 4 refine Rn.uc b λa b=> ?_
 rw[show decide (x≥0)=true from decide_eq_true c.1]at b
 iterate 2 refine Rn.uc b λa b=> ?_
 refine Rn.vv b (λo d=>mK d (b.G 5) (b.G 7)) λa b=> ?_;rw[show decide (x<=65535)=true from decide_eq_true o_]at b;refine Rn.uc b λa b=> ?_;exact Rn.fi b ⟨rfl,rfl⟩
def V8(f:Func):Code:= .seq (rG f 4) (.seq (.cond (.tmp 11) .skip (.exit 0)) (.seq (.block 1 (.seq (rG f 5) (.seq (rG f 6) (.cond (.tmp 16) (.seq (rG f 7) .ret) .skip)))) (rG f 8)))
def ME(f:Func):Code:= .seq (rG f 9) .ret
theorem UP:Tryz.f47.body=some (.seq (rG Tryz.f47 0) (.seq (.seq (rG Tryz.f47 1) (.cond (.tmp 7) (.seq (rG Tryz.f47 2) .ret) .skip)) (.seq (.seq (rG Tryz.f47 3) (.block 0 (.loop (V8 Tryz.f47)))) (ME Tryz.f47)))):=k_
theorem GE{W:List Int}(d:gD W){g off cap:Nat}(j:w.rangeAt g off (W.map (Value.int .i64)))(e:∀a,aW [(2, .bool true)] 18 [] a->Rn lT Goal ((base 47).atR a [.code .ret]) cs w):
 ∀(m i:Nat) (a:Act),85- i=m->i<=85->aW [(8, .slice (some ⟨g,off,none⟩) 85 cap),(9, .i 85),(10, .i i)] 18 [] a->Rn lT Goal ((base 47).atR a [.code (V8 Tryz.f47), .inLoop (V8 Tryz.f47), .inBlock 0, .code (ME Tryz.f47)]) cs w:=by
 intro m;induction m with
 |zero=>
  intro i a k l b;refine Rn.uc b λa b=> ?_;refine Rn.p rfl (Rn.p rfl (Rn.cond _ (b.G 11) ?_));rw[decide_eq_false o_];refine Rn.uc b λa b=> ?_;exact Rn.p rfl (e _ (b.only ⟨rfl,trivial⟩))
 |succ m f=>
  intro i a k l b;refine Rn.uc b λa b=> ?_;refine Rn.p rfl (Rn.p rfl (Rn.cond _ (b.G 11) ?_));rw[decide_eq_true o_];refine Rn.vv b (λo c=>me i k_ c (b.G 8) (b.G 10) o_) λa b=> ?_;refine Rn.vv b (λo c=>BZ i j (by rw[d.1];omega) c (b.G 12)) λa b=> ?_
  iterate 2 refine Rn.uc b λa b=> ?_
  refine Rn.cw b Lf.func46 (sq _ (d.2 i o_) w) λp h a b=> ?_;rw[h];refine Rn.uc b λa b=> ?_;refine Rn.p rfl (Rn.cond _ (b.G 16) ?_);refine Rn.vv b (λo c=>cS (n:=1) c (b.G 10) rfl o_) λa b=> ?_;refine Rn.uc b λa b=> ?_;exact Rn.p rfl (Rn.p rfl (f (i+1) _ o_ o_ (b.only ⟨rfl,rfl,rfl,trivial⟩)))
theorem AX{W:List Int}(f:gD W)(g off cap:Nat)(w:World)(d:w.rangeAt g off (W.map (Value.int .i64))):Calls lT 47 #[.slice (some ⟨g,off,none⟩) 85 cap] w λe w'=>e= .returned (.bool true)/\w'=w:=by
 refine aT (t:=2) Lf.func47 rfl λh=> ?_;rw[aV (N:=18) [.slice (some ⟨g,off,none⟩) 85 cap] Lf.func47 UP rfl];have b:=aN [.slice (some ⟨g,off,none⟩) 85 cap] 18 s_
 iterate 2 refine Rn.uc b λa b=> ?_
 refine Rn.vv b (λo c=>T5 c (b.G 5)) λa b=> ?_;refine Rn.uc b λa b=> ?_;refine Rn.p rfl (Rn.cond _ (b.G 7) ?_);refine Rn.uc b λa b=> ?_;refine Rn.vv b (λo c=>T5 c (b.G 8)) λa b=> ?_;refine Rn.uc b λa b=> ?_;refine Rn.p rfl (Rn.p rfl (Rn.p rfl (GE f d (λa b=>Rn.fi b ⟨rfl,rfl⟩) 85 0 _ rfl o_ (b.only ⟨rfl,rfl,rfl,trivial⟩))))
theorem LV:Tryz.f79.body=some (.seq (rG Tryz.f79 0) (.seq (rG Tryz.f79 1) (.seq (rG Tryz.f79 2) (.seq (rG Tryz.f79 3) (.seq (rG Tryz.f79 4) (.seq (rG Tryz.f79 5) (.seq (rG Tryz.f79 6) (.seq (rG Tryz.f79 7) .ret)))))))):=k_
theorem zQ(x:Int)(w:World):Calls lT 79 #[.int .u64 x] w λe w'=>e= .returned (.i (kr x))/\w'=w:=by
 refine aT (t:=2) Lf.func79 rfl λd=> ?_;rw[aV (N:=35) [.int .u64 x] Lf.func79 LV rfl];have b:=aN [.int .u64 x] 35 s_
 iterate 2 refine Rn.uc b λa b=> ?_
 refine Rn.vv b (λo c=>qS (k:=1) o_ c (b.G 3) rfl) λa b=> ?_;refine Rn.vv b (λo c=>tS c (b.G 4) rfl) λa b=> ?_;refine Rn.uc b λa b=> ?_;refine Rn.vv b (λo c=>tS c (b.G 6) rfl) λa b=> ?_;refine Rn.vv b (λo c=>qT c (b.G 5) (b.G 7)) λa b=> ?_;refine Rn.uc b λa b=> ?_;refine Rn.uc b λa b=> ?_;refine Rn.vv b (λo c=>qS (k:=2) o_ c (b.G 9) rfl) λa b=> ?_;refine Rn.vv b (λo c=>tS c (b.G 10) rfl) λa b=> ?_;refine Rn.uc b λa b=> ?_;refine Rn.vv b (λo c=>tS c (b.G 12) rfl) λa b=> ?_;refine Rn.vv b (λo c=>qT c (b.G 11) (b.G 13)) λa b=> ?_;refine Rn.uc b λa b=> ?_;refine Rn.uc b λa b=> ?_;refine Rn.vv b (λo c=>qS (k:=4) o_ c (b.G 15) rfl) λa b=> ?_;refine Rn.uc b λa b=> ?_;refine Rn.vv b (λo c=>qT c (b.G 16) (b.G 17)) λa b=> ?_;refine Rn.vv b (λo c=>tS c (b.G 18) rfl) λa b=> ?_;refine Rn.uc b λa b=> ?_;refine Rn.uc b λa b=> ?_;refine Rn.uc b λa b=> ?_;refine Rn.vv b (λo c=>qS (k:=8) o_ c (b.G 21) rfl) λa b=> ?_;refine Rn.vv b (λo c=>qT c (b.G 20) (b.G 22)) λa b=> ?_;refine Rn.uc b λa b=> ?_;refine Rn.uc b λa b=> ?_;refine Rn.uc b λa b=> ?_;refine Rn.vv b (λo c=>qS (k:=16) o_ c (b.G 25) rfl) λa b=> ?_;refine Rn.vv b (λo c=>qT c (b.G 24) (b.G 26)) λa b=> ?_;refine Rn.uc b λa b=> ?_;refine Rn.uc b λa b=> ?_;refine Rn.uc b λa b=> ?_;refine Rn.vv b (λo c=>qS (k:=32) o_ c (b.G 29) rfl) λa b=> ?_;refine Rn.vv b (λo c=>qT c (b.G 28) (b.G 30)) λa b=> ?_;refine Rn.uc b λa b=> ?_;refine Rn.uc b λa b=> ?_;refine Rn.vv b (λo c=>Kj c (b.G 32)) λa b=> ?_;refine Rn.vv b (λo c=>kH c (b.G 33) rfl) λa b=> ?_;refine Rn.uc b λa b=> ?_;exact Rn.fi b ⟨rfl,rfl⟩
theorem P1:Tryz.f60.body=some (.seq (rG Tryz.f60 0) (.seq (.cond (.const (.bool false)) (.seq (rG Tryz.f60 1) .ret) .skip) (.seq (rG Tryz.f60 2) .ret))):=k_
theorem FA(x:Int)(w:World):Calls lT 60 #[.int .u64 x] w λe w'=>e= .returned (.i (kr x))/\w'=w:=by refine aT (t:=2) Lf.func60 rfl λd=> ?_;rw[aV (N:=8) [.int .u64 x] Lf.func60 P1 rfl];have b:=aN [.int .u64 x] 8 s_;refine Rn.uc b λa b=> ?_;refine Rn.p rfl (Rn.p rfl (Rn.cond false rfl ?_));refine Rn.uc b λa b=> ?_;refine Rn.cw b Lf.func79 (zQ x w) λw' c a b=> ?_;rw[c];refine Rn.uc b λa b=> ?_;exact Rn.fi b ⟨rfl,rfl⟩
theorem OR:Tryz.f48.body=some (.seq (rG Tryz.f48 0) (.seq (rD Tryz.f48 1) (.seq (.seq (rG Tryz.f48 2) (.block 0 (.seq (.seq (rG Tryz.f48 3) (.cond (.tmp 13) .skip (.seq (rG Tryz.f48 4) (.cond (.tmp 13) .skip (.seq (rG Tryz.f48 5) (.cond (.tmp 13) .skip (rG Tryz.f48 6))))))) (.cond (.tmp 13) (.seq (rG Tryz.f48 7) .ret) .skip)))) (.seq (rG Tryz.f48 8) .ret)))):=k_
theorem Fb{W:List Int}(H:gD W)(c off cap:Nat)(w:World)(F:w.rangeAt c off (W.map (Value.int .i64))):Calls lT 48 #[.slice (some ⟨c,off,none⟩) 85 cap] w λe w'=>∃v,e= .returned v/\∃s,v= .tuple #[.i s, .bool (BJ W)]/\(BJ W=true->s=W.getD 0 0)/\Bw w w':=by
 refine i8 (t:=2) (u:=3) Lf.func48 rfl λC=> ?_;rw[aV (N:=22) [.slice (some ⟨c,off,none⟩) 85 cap] Lf.func48 OR rfl];have b:=aN [.slice (some ⟨c,off,none⟩) 85 cap] 22 s_
 iterate 2 refine Rn.uc b λa b=> ?_
 have b:aW [(0, .slice (some ⟨c,off,none⟩) 85 cap)] 22 [] a:=b.only ⟨rfl,trivial⟩;have J:=H.1;have p:∀{w':World},Bw w w'->∀n,n<85->w'.cell? ⟨c,off+n,none⟩=some (.i (W.getD n 0)):=λG n I=>cG G (Mv F n o_);refine Rn.p rfl (Rn.p rfl ?_);refine Rn.tabL b [(6, .slice (some ⟨c,off,none⟩) 85 cap),(7, .pk c (off+0)),(8, .i (W.getD 0 0)),(9, .slice (some ⟨c,off,none⟩) 85 cap),(10, .pk c (off+1)),(11, .i (W.getD 1 0)),(4, .i (W.getD 0 0)),(5, .i (W.getD 1 0))] [6,9,4,5] [(4, .i (W.getD 0 0)),(5, .i (W.getD 1 0))]
  ⟨λz=>dv (me 0 k_ z.qq (z.k 6) rfl o_),
   λz=>dv (aP cp z.qq (z.k 7) (p z.b 0 o_)).1,
   λz=>dv (me 1 k_ z.qq (z.k 9) rfl o_),
   λz=>dv (aP cp z.qq (z.k 10) (p z.b 1 o_)).1,
   trivial⟩ λa E D b=> ?_
 have d:∀{a:Act} {K:List Item},(W.getD 0 0==255||W.getD 0 0==3855||W.getD 0 0==13107||W.getD 0 0==21845)=true->aW [(4, .i (W.getD 0 0)),(5, .i (W.getD 1 0)),(13, .bool true)] 22 [] a->Rn lT (λg w'=>∃(a:Act) (k:List Item) (v x:Value),g=gB {(base 48).atR a k with mode:= .returning} C/\a.defers=[]/\a.tmps[2]?=some v/\a.tmps[3]?=some x/\∃i,Vg (.tuple #[v,x])= .returned i/\∃s,i= .tuple #[.i s, .bool (BJ W)]/\(BJ W=true->s=W.getD 0 0)/\Bw w w') ((base 48).atR a (.code (.cond (.tmp 13) (.seq (rG Tryz.f48 7) .ret) .skip)::K)) C E:=λ{a K} h b=>by
  refine Rn.cond _ (b.G 13) ?_
  iterate 6 refine Rn.uc b λa b=> ?_
  refine Rn.fj b ⟨_,rfl,W.getD 0 0, ?_,λ_=>rfl,D⟩;rw[BJ,h,Wt]
 iterate 3 refine Rn.uc b λa b=> ?_
 refine Rn.p rfl (Rn.cond _ (b.G 13) ?_);by_cases B:W.getD 0 0=255
 ·have q:(W.getD 0 0==255)=true:=by simpa using B
  rw[q]at b⊢;exact Rn.p rfl (d (by simp only[q,Xf]) (b.only ⟨rfl,rfl,rfl,trivial⟩))
 have o:(W.getD 0 0==255)=false:=by simpa using B
 rw[o]
 iterate 2 refine Rn.uc b λa b=> ?_
 refine Rn.p rfl (Rn.cond _ (b.G 13) ?_);by_cases A:W.getD 0 0=3855
 ·have q:(W.getD 0 0==3855)=true:=by simpa using A
  rw[q]at b⊢;exact Rn.p rfl (d (by simp only[q,Xf,Zm]) (b.only ⟨rfl,rfl,rfl,trivial⟩))
 have m:(W.getD 0 0==3855)=false:=by simpa using A
 rw[m]
 iterate 2 refine Rn.uc b λa b=> ?_
 refine Rn.p rfl (Rn.cond _ (b.G 13) ?_);by_cases y:W.getD 0 0=13107
 ·have q:(W.getD 0 0==13107)=true:=by simpa using y
  rw[q]at b⊢;exact Rn.p rfl (d (by simp only[q,Xf,Zm]) (b.only ⟨rfl,rfl,rfl,trivial⟩))
 have l:(W.getD 0 0==13107)=false:=by simpa using y
 rw[l]
 iterate 2 refine Rn.uc b λa b=> ?_
 by_cases r:W.getD 0 0=21845
 ·have q:(W.getD 0 0==21845)=true:=by simpa using r
  rw[q]at b;exact Rn.p rfl (d (by simp only[q,Zm]) (b.only ⟨rfl,rfl,rfl,trivial⟩))
 have j:(W.getD 0 0==21845)=false:=by simpa using r
 refine Rn.p rfl (Rn.cond _ (b.G 13) ?_);rw[j]
 iterate 2 refine Rn.uc b λa b=> ?_
 have f:BJ W=false:=by simp only[BJ,o,m,l,j,Bool.or_self,VN]
 exact Rn.fj b ⟨_,rfl,0,by rw[f],λe=>(by rw[f]at e;cases e),D⟩
theorem P5:Tryz.f49.body=some (.seq (rG Tryz.f49 0) (.seq (rD Tryz.f49 1) (.seq (rG Tryz.f49 2) (.seq (.seq (rG Tryz.f49 3) (.cond (.tmp 32) (.seq (rG Tryz.f49 4) .ret) .skip)) (.seq (rG Tryz.f49 5) .ret))))):=k_
theorem Cz{W:List Int}(h:gD W)(f off cap:Nat)(w:World)(H:w.rangeAt f off (W.map (Value.int .i64))):Calls lT 49 #[.slice (some ⟨f,off,none⟩) 85 cap] w λe w'=>∃v,e= .returned v/\∃s,v= .tuple #[.i s, .bool (Ed W)]/\(Ed W=true->s=kr (se W))/\Bw w w':=by
 refine i8 (t:=2) (u:=3) Lf.func49 rfl λL=> ?_;rw[aV (N:=36) [.slice (some ⟨f,off,none⟩) 85 cap] Lf.func49 P5 rfl];have b:=aN [.slice (some ⟨f,off,none⟩) 85 cap] 36 s_
 iterate 2 refine Rn.uc b λa b=> ?_
 have b:aW [(0, .slice (some ⟨f,off,none⟩) 85 cap)] 36 [] a:=b.only ⟨rfl,trivial⟩;have K:=h.1;have k:∀{w':World},Bw w w'->∀n,n<85->w'.cell? ⟨f,off+n,none⟩=some (.i (W.getD n 0)):=λI n J=>cG I (Mv H n o_);obtain⟨A,D,j⟩:∃A:Nat,W.getD 2 0=(A:Int)/\A<65536:=⟨(W.getD 2 0).toNat,by have:=h.2 2 o_;omega,by have:=h.2 2 o_;omega⟩;obtain⟨B,y,i⟩:∃A:Nat,W.getD 3 0=(A:Int)/\A<65536:=⟨(W.getD 3 0).toNat,by have:=h.2 3 o_;omega,by have:=h.2 3 o_;omega⟩;obtain⟨C,x,q⟩:∃A:Nat,W.getD 4 0=(A:Int)/\A<65536:=⟨(W.getD 4 0).toNat,by have:=h.2 4 o_;omega,by have:=h.2 4 o_;omega⟩;have r:se W=FJ A B C:=by simp only[se,D,y,x,Int.toNat_natCast]
 have p:=L8 (c:=C) j i;have m:=L6 j i q;refine Rn.p rfl (Rn.p rfl ?_);refine Rn.tabL b [(8, .slice (some ⟨f,off,none⟩) 85 cap),(9, .pk f (off+2)),(10, .i A),(11, .slice (some ⟨f,off,none⟩) 85 cap),(12, .pk f (off+3)),(13, .i B),(14, .slice (some ⟨f,off,none⟩) 85 cap),(15, .pk f (off+4)),(16, .i C),(4, .i A),(5, .i B),(6, .i C)] [8,11,14,4,5,6] [(4, .i A),(5, .i B),(6, .i C)]
  ⟨λz=>dv (me 2 k_ z.qq (z.k 8) rfl o_),
   λz=>dv (aP cp z.qq (z.k 9) (D▸k z.b 2 o_)).1,
   λz=>dv (me 3 k_ z.qq (z.k 11) rfl o_),
   λz=>dv (aP cp z.qq (z.k 12) (y▸k z.b 3 o_)).1,
   λz=>dv (me 4 k_ z.qq (z.k 14) rfl o_),
   λz=>dv (aP cp z.qq (z.k 15) (x▸k z.b 4 o_)).1,
   trivial⟩ λa F E b=> ?_
 iterate 2 refine Rn.uc b λa b=> ?_
 refine Rn.vv b (λo d=>kH d (b.G 17) (b.G 18)) λa b=> ?_
 iterate 2 refine Rn.uc b λa b=> ?_
 refine Rn.vv b (λo d=>kH d (b.G 20) (b.G 21)) λa b=> ?_;refine Rn.vv b (λo d=>Mt d (b.G 19) (b.G 22)) λa b=> ?_
 iterate 2 refine Rn.uc b λa b=> ?_
 refine Rn.vv b (λo d=>kH d (b.G 24) (b.G 25)) λa b=> ?_;refine Rn.vv b (λo d=>Mt d (b.G 23) (b.G 26)) λa b=> ?_;rw[m,←r]at b;rw[←r]at p
 iterate 3 refine Rn.uc b λa b=> ?_
 refine Rn.vv b (λo d=>cS (n:=1) d (b.G 29) rfl o_) λa b=> ?_;refine Rn.vv b (λo d=>kH d (b.G 28) (b.G 30)) λa b=> ?_;rw[SC _ _ o_ o_]at b;refine Rn.uc b λa b=> ?_;refine Rn.p rfl (Rn.cond _ (b.G 32) ?_);by_cases l:se W&&&(se W+1)=0
 ·have g:Ed W=true:=by simp[Ed,l]
  rw[l];refine Rn.uc b λa b=> ?_;refine Rn.vv b (λo d=>Kt d (b.G 33)) λa b=> ?_;rw[show LX.wrap ((se W:Nat):Int)=((se W:Nat):Int)from by rw[IntKind.wrap_u64];omega]at b;refine Rn.cw b Lf.func60 (FA _ F) λw' G a b=> ?_;rw[G]
  iterate 2 refine Rn.uc b λa b=> ?_
  exact Rn.fj b ⟨_,rfl,_,by rw[g],λ_=>rfl,E⟩
 ·have g:Ed W=false:=by simp[Ed,l]
  rw[show(((se W&&&(se W+1):Nat):Int) !=0)=true from by simp;omega]
  iterate 2 refine Rn.uc b λa b=> ?_
  exact Rn.fj b ⟨_,rfl,0,by rw[g],λe=>(by rw[g]at e;cases e),E⟩
end L1
namespace L1
open Go.RowKit
theorem qG(b off cap a:Nat)(x y:Int)(w:World)(h:a+1<20)
 (m:w.cell? ⟨b,off+a,none⟩=some (.i x)) (l:w.cell? ⟨b,off+(a+1),none⟩=some (.i y)):
 Calls lT 62 #[.slice (some ⟨b,off,none⟩) 20 cap, .i a] w λe w'=>e= .returned (.bool (nR x y))/\∃n,w'=w.drewN n:=by
 have j:A8.wrap ((a:Int)+1)=((a+1:Nat):Int):=by rw[a5_]<;>omega
 have k:(a:Int)<20:=o_
 have g:((a+1:Nat):Int)<20:=o_
 by_cases c:x=y
 ·subst c;have d:(x==x)=true:=s_
  by_cases g:x=4080
  ·subst g;have f:Hid (nR 4080 4080=true):=by show nR 4080 4080=_;rfl
   go_enter Lf.func62,Tryz.ntmps62
   go_wp2
   go_quiet (fail)
   go_wp2_with fail
   go_ret
   exact⟨by rw[f.out];rfl,_,rfl⟩
  ·have i:(x==4080)=false:=(by rw[beq_eq_false_iff_ne];exact g);have f:Hid (nR x x=(x==61455)):=by show nR x x=_;simp[nR,i]
   go_enter Lf.func62,Tryz.ntmps62
   go_wp2
   go_quiet (fail)
   go_wp2_with fail
   go_ret
   exact⟨by rw[f.out];rfl,_,rfl⟩
 ·have d:(x==y)=false:=by rw[beq_eq_false_iff_ne];exact c
  have f:Hid (nR x y=false):=by show nR x y=_;simp[nR,d]
  go_enter Lf.func62,Tryz.ntmps62
  go_wp2
  go_quiet (fail)
  go_wp2_with fail
  go_ret
  exact⟨by rw[f.out];rfl,_,rfl⟩
end L1
section
open Go.Conc Go.RowKit
section
variable{b:Frame}{k:List Item}
theorem Rn.cg{d:Tmp}{xs:Array Operand}{ats:Array TypeId}{vs:List Value}{j:List Item}{R:Value->World->Prop}{l:Option (Nat×Bool)}(i:aW F N ds a)(r:P.funcs[f]?=some fn)(x:Calls P f vs.toArray w λe w'=>∃v,e= .returned v/\R v w')
 (next:∀v w',R v w'->∀a',aW ((d,v)::F) N ds a'->Rn P Goal (b.atR a' (.inRegion ops rest::j)) cs w') (y:mc 6 (b.atR a k)= .inRegion ops (m::rest)::j:=by rfl)
 (h:(ops[m]?).map (λo=>(o.dst,o.op,o.guard))=some (some d, .call {callee:= .value (.func f),args:=xs,argTypes:=ats},l):=by rfl) (p:gF ops F l=true:=by rfl) (u:OB F xs.toList=some vs:=by rfl) (s:d<N:=by decide) (c:(fn.name== "runtime.NumGoroutine")=false:=by kernel_rfl) (t:fn.body.isNone=false:=by kernel_rfl):Rn P Goal (b.atR a k) cs w:=by
 refine Rn.gr ?_ y;cases g:ops[m]? with
 |none=>rw[g]at h;cases h
 |some o=>
  rw[g]at h;simp only[Option.map_some,Option.some.injEq,Prod.mk.injEq]at h;obtain⟨A,n,z⟩:=h;refine Rn.call g (lF i z p) (by rw[n];simp) (bU (w:=w) n (by rw[←To i _ _ u,←Array.toList_map,Array.toArray_toList]) (dq r c t _)).1 x λv w' q=> ?_;rw[A];exact next v w' q _ (i.put s v)
end
theorem Lf.func63:(aI q tP).funcs[63]?=some Tryz.f63:=aM Tryz.func63 d_ rfl rfl k_
theorem Lf.func65:(aI q tP).funcs[65]?=some Tryz.f65:=aM Tryz.func65 d_ rfl rfl k_
theorem sF(w:World)(n:Nat):Bw w (w.drewN n):=⟨rfl,rfl,rfl,a36 _,λ_ _=>rfl⟩
theorem qA{T e B:Nat}{p:Value}{bs:List Value}{M i:World}(h:ZW T e B b p bs M)(a:Bw M i):ZW T e B b p bs i:=by
 have f:=h.lt;obtain⟨j,v,g,c,d⟩:=h;refine⟨j,v,by rw[a.block b f];exact g,c.kept (row:=none) ⟨a.os,a.tape,a.output,a.size,λk g _=>a.block k g⟩ ?_,d⟩;cases l:v.ownBlock with
 |none=>exact .inl rfl
 |some k=>exact .inr s_
theorem ut{T e B:Nat}{bs:List Value}{M c:World}(h:Wd T e B b bs M)(a:Bw M c):Wd T e B b bs c:=
 h.elim (λx=> .inl (qA x a)) (λx=> .inr (qA x a))
theorem yk(L:List Int):(eF L).length=2*L.length:=by
 induction L with
 |nil=>rfl
 |cons x L a=>rw[eF,List.flatMap_cons,List.length_append,cU];rw[eF]at a;rw[a];simp;omega
end
namespace L1
open Go.Conc Go.RowKit
theorem OU:Tryz.f51.body=some (.seq (rG Tryz.f51 0) (.seq (rG Tryz.f51 1) .ret)):=k_
theorem BS(L:List Int)(c off cap:Nat)(w:World)(g:w.rangeAt c off (L.map (Value.int .i64)))(z:L.length=20):Calls lT 51 #[.slice (some ⟨c,off,none⟩) 20 cap] w λe w'=>e= .returned (.bool (iu L))/\Bw w w':=by
 have x:=Mv g 0 o_;have u:=Mv g 1 o_;have s:=Mv g 2 o_;have r:=Mv g 3 o_;refine aT (t:=2) Lf.func51 rfl λA=> ?_;rw[aV (N:=9) [.slice (some ⟨c,off,none⟩) 20 cap] Lf.func51 OU rfl];have b:=aN [.slice (some ⟨c,off,none⟩) 20 cap] 9 s_
 iterate 2 refine Rn.uc b λa b=> ?_
 refine Rn.cw b Lf.func62 (B:=λw'=>∃n,w'=w.drewN n) (qG c off cap 0 _ _ w o_ x u) λf ⟨l,i⟩ a b=> ?_;have d:Bw w f:=i▸sF w l;refine Rn.uc b λa b=> ?_;cases h:nR (L.getD 0 0) (L.getD 1 0)with
 |false=>
  rw[h]at b
  iterate 2 refine Rn.us b λa b=> ?_
  refine Rn.vv b (λo j=>i0 j (b.G 5) rfl) λa b=> ?_;refine Rn.uc b λa b=> ?_;exact Rn.fi b ⟨by rw[iu,h,VN],d⟩
 |true=>
  rw[h]at b;refine Rn.uc b λa b=> ?_;refine Rn.cg b Lf.func62 (R:=λv w'=>v= .bool (nR (L.getD 2 0) (L.getD 3 0))/\∃n,w'=f.drewN n) ((qG c off cap 2 _ _ f o_ (cG d s) (cG d r)).mono λe w' ⟨q,p⟩=>⟨_,q,rfl,p⟩) λv y m a b=> ?_;obtain⟨rfl,k,rfl⟩:=m;refine Rn.vv b (λo j=>mK j (b.G 5) (b.G 7)) λa b=> ?_;refine Rn.uc b λa b=> ?_;exact Rn.fi b ⟨by rw[iu,h,Wt],aB d d.size (sF f k)⟩
theorem ON:Tryz.f52.body=some (.seq (rG Tryz.f52 0) (.seq (rG Tryz.f52 1) .ret)):=k_
theorem yX(L:List Int)(f off cap:Nat)(w:World)(g:w.rangeAt f off (L.map (Value.int .i64)))(h:L.length=20):Calls lT 52 #[.slice (some ⟨f,off,none⟩) 20 cap] w λe w'=>e= .returned (.bool (fP L))/\Bw w w':=by
 refine aT (t:=2) Lf.func52 rfl λi=> ?_;rw[aV (N:=13) [.slice (some ⟨f,off,none⟩) 20 cap] Lf.func52 ON rfl];have b:=aN [.slice (some ⟨f,off,none⟩) 20 cap] 13 s_
 iterate 2 refine Rn.uc b λa b=> ?_
 refine Rn.vv b (λo c=>me 0 k_ c (b.G 3) rfl o_) λa b=> ?_;refine Rn.vv b (λo c=>BZ 0 g o_ c (b.G 4)) λa b=> ?_
 iterate 2 refine Rn.uc b λa b=> ?_
 cases d:(L.getD 0 0==4080)with
 |false=>
  rw[d]at b
  iterate 4 refine Rn.us b λa b=> ?_
  refine Rn.vv b (λo c=>i0 c (b.G 7) rfl) λa b=> ?_;refine Rn.uc b λa b=> ?_;exact Rn.fi b ⟨by rw[fP,d,VN],bR⟩
 |true=>
  rw[d]at b;refine Rn.uc b λa b=> ?_;refine Rn.vv b (λo c=>me 2 k_ c (b.G 8) rfl o_) λa b=> ?_;refine Rn.vv b (λo c=>BZ 2 g o_ c (b.G 9)) λa b=> ?_;refine Rn.uc b λa b=> ?_;refine Rn.vv b (λo c=>mK c (b.G 7) (b.G 11)) λa b=> ?_;refine Rn.uc b λa b=> ?_;exact Rn.fi b ⟨by rw[fP,d,Wt],bR⟩
theorem JW(B b:Nat)(bs:List Value)(s:ByteArray)(w:World)(h:Wd 102 5 B b bs w)(a:bs.length+s.size<=140737488355328)(c:B<=w.heap.size):
 Calls lT 63 #[.pk b 0, .s s] w λe w'=>∃v,e= .returned v/\Wd 102 5 B b (bs++a64 s) w'/\Below B w w':=
 (Go.Proofs.Any.Builder_WriteString_f (P:=aI true tP) {Lf.lays156 (q:=true)with} Lf.extra156 B b bs s w h a c).mono λ_ _ h=>⟨_,h.1, .inr h.2.1,h.2.2⟩
theorem Ha(B b:Nat)(l:List UInt8)(w:World)(h:Wd 102 5 B b (YX l) w)(a:B<=w.heap.size):
 Calls lT 65 #[.pk b 0] w λe w'=>e= .returned (.string ⟨l.toArray⟩)/\Below B w w':=
 (Go.Proofs.Any.Builder_String_any_f (P:=aI true tP) {Lf.lays156 (q:=true)with} Lf.extra156 B b l w h a).mono λ_ _ h=>⟨h.1,h.2.2⟩
section
variable{y z:Operand}
theorem O9(a:o.op= .alloc 102):(execOp ev o).run lT w= .ok (.value (.pk w.heap.size 0)) (w.alloc (.cells #[.pointer none, .slice none 0 0] 102)):=by
 have e:execOp ev o=(do pure (.value (←Ee 102 true (.tuple #[])))):=by simp only[execOp,a]
 have b:(do pure (.value (←Ee 102 true (.tuple #[]))):Sem Next).run lT w= .ok (.value (.pk w.heap.size 0)) (w.alloc (.cells #[.pointer none, .slice none 0 0] 102)):=k_
 rw[e,b]
theorem KP{a off cap:Nat}(i:20<=cap)(c:o.op= .slice 91 x (some y) none none)(e:ev x= .slice (some ⟨a,off,none⟩) 20 cap)(d:ev y= .i 4):(execOp ev o).run lT w= .ok (.value (.slice (some ⟨a,off+4,none⟩) 16 (cap- 4))) w:=by
 have f:lT.underlying 91=some (.slice 3):=k_
 have b:(sizeOf 3).run lT w= .ok 1 w:=k_
 have g:¬cap=4:=o_
 have h:(⟨a,off,none⟩:Addr).add 4=⟨a,off+4,none⟩:=CH ..;simp[execOp,c,e,d,JR,Vh,Kg,run_underlying f,LY,asIntOf,b,g,h]
end
def Sc(f:Func):Code:= .seq (rG f 3) (.seq (.cond (.tmp 10) .skip (.exit 0)) (.seq (.block 1 (.seq (rG f 4) (rG f 5))) (rG f 6)))
def MI(f:Func):Code:= .seq (rG f 7) .ret
theorem Pe:Tryz.f53.body=some (.seq (rG Tryz.f53 0) (.seq (rG Tryz.f53 1) (.seq (.seq (rG Tryz.f53 2) (.block 0 (.loop (Sc Tryz.f53)))) (MI Tryz.f53)))):=k_
section
variable{L:List Int}{gb off cap:Nat}
theorem TL(B:w.rangeAt gb off (L.map (Value.int .i64)))(J:L.length=20)(z:∀k,k<20->0<=L.getD k 0/\L.getD k 0<65536)
 (t:∀a w',Bw w w'->aW [(2, .string ⟨(eF (L.drop 4)).toArray⟩)] 18 [] a->Rn lT Goal ((base 53).atR a [.code .ret]) cs w'):
 ∀(m i:Nat) (a:Act) (c:World),16- i=m->i<=16->Bw w c->w.heap.size<c.heap.size->Wd 102 5 w.heap.size w.heap.size (YX (eF ((L.drop 4).take i))) c->aW [(3, .pt w.heap.size),(7, .slice (some ⟨gb,off+4,none⟩) 16 (cap- 4)),(8, .i 16),(9, .i i)] 18 [] a->Rn lT Goal ((base 53).atR a [.code (Sc Tryz.f53), .inLoop (Sc Tryz.f53), .inBlock 0, .code (MI Tryz.f53)]) cs c:=by
 intro m;induction m with
 |zero=>
  intro i a c C D e y g b;have l:(L.drop 4).take i=L.drop 4:=LP (by rw[Zt];omega);rw[l]at g;refine Rn.uc b λa b=> ?_;refine Rn.p rfl (Rn.p rfl (Rn.cond _ (b.G 10) ?_));rw[decide_eq_false o_];refine Rn.cw b Lf.func65 (Ha _ _ _ c g o_) λh f a b=> ?_;refine Rn.uc b λa b=> ?_;exact Rn.p rfl (t _ _ (e.trans f) (b.only ⟨rfl,trivial⟩))
 |succ m u=>
  intro i a c C D e y g b;refine Rn.uc b λa b=> ?_;refine Rn.p rfl (Rn.p rfl (Rn.cond _ (b.G 10) ?_));rw[decide_eq_true o_];have I:=z (4+i) o_;have p:=cG e (Mv B (4+i) o_);obtain⟨x,q⟩:∃x:Nat,L.getD (4+i) 0=(x:Int):=⟨(L.getD (4+i) 0).toNat,o_⟩;rw[←Y9,q]at p;refine Rn.vv b (λo d=>me i k_ d (b.G 7) (b.G 9) o_) λa b=> ?_;refine Rn.vv b (λo d=>(aP cp d (b.G 11) p).1) λa b=> ?_
  iterate 2 refine Rn.uc b λa b=> ?_
  refine Rn.cw b Lf.func64 (lX x o_ c) λh f a b=> ?_;have H:=f.size;refine Rn.cl b Lf.func63 (R:=λ_ w'=>Wd 102 5 w.heap.size w.heap.size (YX (eF ((L.drop 4).take i))++a64 ⟨(cQ x 2).toArray⟩) w'/\Below w.heap.size h w') (JW _ _ _ ⟨(cQ x 2).toArray⟩ h (ut g f) (by rw[Lib.byteCells_length,yk,List.length_take];have:(ByteArray.mk (cQ x 2).toArray).size=2:=(by show(cQ x 2).toArray.size=2;rw[Gh,cU]);omega) o_) λv s A a b=> ?_
  obtain⟨j,r⟩:=A;have G:=r.size;refine Rn.vv b (λo d=>cS (n:=1) d (b.G 9) rfl o_) λa b=> ?_;refine Rn.uc b λa b=> ?_;refine Rn.p rfl (Rn.p rfl (u (i+1) _ s o_ o_ ((e.trans (f.mono e.size)).trans r) o_ ?_ (b.only ⟨rfl,rfl,rfl,rfl,trivial⟩)));have F:(L.drop 4).take (i+1)=(L.drop 4).take i++[(x:Int)]:=by have E:i<(L.drop 4).length:=(by rw[Zt];omega);rw[List.take_succ_eq_append_getElem E,List.getElem_drop,←q,a50,AS o_];rfl
  rw[F,show eF ((L.drop 4).take i++[(x:Int)])=eF ((L.drop 4).take i)++cQ x 2 from by simp[eF],Lib.byteCells_append];exact j
theorem G5(l:w.rangeAt gb off (L.map (Value.int .i64)))(m:L.length=20)(j:∀k,k<20->0<=L.getD k 0/\L.getD k 0<65536)(d:20<=cap):Calls lT 53 #[.slice (some ⟨gb,off,none⟩) 20 cap] w λe w'=>e= .returned (.string ⟨(eF (L.drop 4)).toArray⟩)/\Bw w w':=by refine aT (t:=2) Lf.func53 rfl λp=> ?_;rw[aV (N:=18) [.slice (some ⟨gb,off,none⟩) 20 cap] Lf.func53 Pe rfl];have b:=aN [.slice (some ⟨gb,off,none⟩) 20 cap] 18 s_;refine Rn.uc b λa b=> ?_;refine Rn.vv b (λo c=>O9 c) λa b=> ?_;have g:=aZ w (.cells #[.pointer none, .slice none 0 0] 102);have h:=aQ w (.cells #[.pointer none, .slice none 0 0] 102);have f:=Lib.IsBuilderF.of (Lib.fresh_isBuilder 102 5 w);revert g h f;generalize w.alloc (.cells #[.pointer none, .slice none 0 0] 102)=i;intro g h f;refine Rn.uc b λa b=> ?_;refine Rn.vv b (λo c=>KP d c (b.G 6) rfl) λa b=> ?_;refine Rn.vv b (λo c=>oe (ty:=91) (e:=3) k_ c (b.G 7)) λa b=> ?_;refine Rn.uc b λa b=> ?_;exact Rn.p rfl (Rn.p rfl (Rn.p rfl (TL (cap:=cap) l m j (λa w' n b=>Rn.fi b ⟨rfl,n⟩) 16 0 _ i rfl o_ g o_ f (b.only ⟨rfl,rfl,rfl,rfl,trivial⟩))))
end
end L1
section
open Go.Conc Go.RowKit
theorem cy{a:Nat}{c1 c2:Array Value}{f d:TypeId}(c:w.heap[a]?=some (.cells c1 f))(h:w.heap[b]?=some (.cells c2 d))(g:f≠d):a≠b:=λe=>by rw[e,h]at c;injection c with c;injection c with _ c;exact g c.symm
theorem gz{a:Nat}{g:Array Value}{d:TypeId}{r:Loop}(c:w.heap[a]?=some (.cells g d))(f:w.heap[b]?=some (.loop r)):a≠b:=λe=>by rw[e,f]at c;cases c
theorem td{a:Nat}{g:Array Value}{d:TypeId}{x:Option (List Deferred)}(c:w.heap[a]?=some (.cells g d))(f:w.heap[b]?=some (.deferred x)):a≠b:=λe=>by rw[e,f]at c;cases c
theorem cM{cs:Array Value}(h:N<=b):Below N w (gy w b cs t):=⟨rfl,rfl,rfl,Nat.le_of_eq jD.symm,λk a=>cn o_⟩
theorem HJ{b off:Nat}{W:List Int}(h:w.rangeAt b off (W.map (Value.int .i64)))(k:Nat):w.rangeAt b (off+(5+20*k)) ((kY W k).map (Value.int .i64)):=λj v a=>by
 rw[IS,kY,WV]at a;split at a
 ·rw[Wm]at a;rw[Y9];exact h _ v (by rw[IS];exact a)
 ·cases a
theorem Fy{W:List Int}(h:W.length=85)(a:k<4):(kY W k).length=20:=by simp[kY,h];omega
theorem NX{W:List Int}(k:Nat)(a:j<20):(kY W k).getD j 0=W.getD (5+20*k+j) 0:=by rw[a50,a50,kY,WV,if_pos a,Wm]
def js(W:List Int)(k:Nat):List Bool:=(Ak 4).map λi=>if i<k then fP (kY W i)else false
def jM(W:List Int)(k:Nat):List ByteArray:=(Ak 4).map λi=>if i<k then⟨(eF ((kY W i).drop 4)).toArray⟩else⟨#[]⟩
theorem EV(W:List Int)(a:k<4):(js W k).set k (fP (kY W k))=js W (k+1):=by rcases(o_:k=0\/k=1\/k=2\/k=3)with rfl|rfl|rfl|rfl<;>rfl
theorem TI(W:List Int)(a:k<4):(jM W k).set k ⟨(eF ((kY W k).drop 4)).toArray⟩=jM W (k+1):=by rcases(o_:k=0\/k=1\/k=2\/k=3)with rfl|rfl|rfl|rfl<;>rfl
end
namespace L1
open Go.Conc Go.RowKit
def M7(f:Func):Code:= .seq (rG f 11) (rG f 12)
def EC(f:Func):Code:= .block 1 (.seq (.seq (rG f 13) (.cond (.tmp 41) (.seq (rG f 14) .ret) .skip)) (.seq (rD f 15) (rD f 16)))
def u5(f:Func)(T:Array Value)(ld:Nat)(st:LoopState)(pd:Option Code):Loop:={state:=st,pending:=pd,fn:=36,tmps:=T,params:=#[37,38],assign:=M7 f,body:=EC f,defers:=ld}
structure Cr (w0:World) (b2 b3 b7 bu bh bs l ld:Nat) (r:Loop) (sv:Value) (st le er:Int) (U:List Bool) (H:List ByteArray) (w:World):Prop where
 old:Bw w0 w
 res:∃c,c.size=4/\w.heap[b2]?=some (.cells c 48)
 err:w.heap[b3]?=some (.cells #[.int .i64 er] 34)
 fus:w.heap[b7]?=some (.cells (ik st le (.sk bu 4 4) (.sk bh 4 4)) 48)
 us:w.heap[bu]?=some (.cells (U.map Value.bool).toArray 4)
 hs:w.heap[bh]?=some (.cells (H.map Value.string).toArray 9)
 box:w.heap[bs]?=some (.cells #[sv] 22)
 list:w.heap[ld]?=some (.deferred (some []))
 loop:w.heap[l]?=some (.loop r)
 lo:w0.heap.size<=b2/\w0.heap.size<=b3/\w0.heap.size<=bu/\w0.heap.size<=bh/\w0.heap.size<=l
 ne:b2≠b7
section
variable{b2 bu bh bs ld:Nat}{r:Loop}{sv:Value}{st le er:Int}{U:List Bool}{H:List ByteArray}
theorem Cr.below(h:Cr w0 b2 b3 b7 bu bh bs l ld r sv st le er U H w)(a:Bw w w'):Cr w0 b2 b3 b7 bu bh bs l ld r sv st le er U H w':=
 ⟨aB h.old h.old.size a,let ⟨c,e,hc⟩:=h.res;⟨c,e,bk a hc⟩,bk a h.err,bk a h.fus,bk a h.us,bk a h.hs,bk a h.box,bk a h.list,bk a h.loop,h.lo,h.ne⟩
theorem Cr.turn(h:Cr w0 b2 b3 b7 bu bh bs l ld r sv st le er U H w)(a:Loop):Cr w0 b2 b3 b7 bu bh bs l ld a sv st le er U H (bP w l a):=
 ⟨h.old.trans (ef w _ _ h.lo.2.2.2.2),let ⟨c,e,hc⟩:=h.res;⟨c,e,(bD w _ (gz hc h.loop)).trans hc⟩,(bD w _ (gz h.err h.loop)).trans h.err,(bD w _ (gz h.fus h.loop)).trans h.fus,(bD w _ (gz h.us h.loop)).trans h.us,(bD w _ (gz h.hs h.loop)).trans h.hs,(bD w _ (gz h.box h.loop)).trans h.box,
  (bD w _ (λe=>by have:=h.list;rw[e,h.loop]at this;cases this)).trans h.list,gG h.loop,h.lo,h.ne⟩
theorem Cr.setU(h:Cr w0 b2 b3 b7 bu bh bs l ld r sv st le er U H w)(a:List Bool):Cr w0 b2 b3 b7 bu bh bs l ld r sv st le er a H (gy w bu (a.map Value.bool).toArray 4):=
 ⟨h.old.trans (cM h.lo.2.2.1),let ⟨c,e,hc⟩:=h.res;⟨c,e,(cn (cy hc h.us d_)).trans hc⟩,(cn (cy h.err h.us d_)).trans h.err,(cn (cy h.fus h.us d_)).trans h.fus,co h.us,(cn (cy h.hs h.us d_)).trans h.hs,(cn (cy h.box h.us d_)).trans h.box,
  (cn (LZ (td h.us h.list))).trans h.list,(cn (LZ (gz h.us h.loop))).trans h.loop,h.lo,h.ne⟩
theorem Cr.setH(h:Cr w0 b2 b3 b7 bu bh bs l ld r sv st le er U H w)(a:List ByteArray):Cr w0 b2 b3 b7 bu bh bs l ld r sv st le er U a (gy w bh (a.map Value.string).toArray 9):=
 ⟨h.old.trans (cM h.lo.2.2.2.1),let ⟨c,e,hc⟩:=h.res;⟨c,e,(cn (cy hc h.hs d_)).trans hc⟩,(cn (cy h.err h.hs d_)).trans h.err,(cn (cy h.fus h.hs d_)).trans h.fus,(cn (cy h.us h.hs d_)).trans h.us,co h.hs,(cn (cy h.box h.hs d_)).trans h.box,
  (cn (LZ (td h.hs h.list))).trans h.list,(cn (LZ (gz h.hs h.loop))).trans h.loop,h.lo,h.ne⟩
theorem Cr.setR(h:Cr w0 b2 b3 b7 bu bh bs l ld r sv st le er U H w)(c':Array Value)(b:c'.size=4):Cr w0 b2 b3 b7 bu bh bs l ld r sv st le er U H (gy w b2 c' 48):=by
 obtain⟨c,_,a⟩:=h.res;exact⟨h.old.trans (cM h.lo.1),⟨c',b,co a⟩,(cn (cy h.err a d_)).trans h.err,(cn (LZ h.ne)).trans h.fus,(cn (cy h.us a d_)).trans h.us,(cn (cy h.hs a d_)).trans h.hs,(cn (cy h.box a d_)).trans h.box,
  (cn (LZ (td a h.list))).trans h.list,(cn (LZ (gz a h.loop))).trans h.loop,h.lo,h.ne⟩
theorem Cr.setE(h:Cr w0 b2 b3 b7 bu bh bs l ld r sv st le er U H w)(a:Int):Cr w0 b2 b3 b7 bu bh bs l ld r sv st le a U H (gy w b3 #[.i a] 34):=
 ⟨h.old.trans (cM h.lo.2.1),let ⟨c,e,hc⟩:=h.res;⟨c,e,(cn (cy hc h.err d_)).trans hc⟩,co h.err,(cn (cy h.fus h.err d_)).trans h.fus,(cn (cy h.us h.err d_)).trans h.us,(cn (cy h.hs h.err d_)).trans h.hs,(cn (cy h.box h.err d_)).trans h.box,
  (cn (LZ (td h.err h.list))).trans h.list,(cn (LZ (gz h.err h.loop))).trans h.loop,h.lo,h.ne⟩
end
theorem C0(a:o.op= .build 48 #[]):(execOp ev o).run lT w= .ok (.value (.agg (ik 0 0 (.slice none 0 0) (.slice none 0 0)))) w:=by
 have e:execOp ev o=(do pure (.value (←C9 48 #[]))):=by simp[execOp,a]
 have b:(do pure (.value (←C9 48 #[])):Sem Next).run lT w= .ok (.value (.agg (ik 0 0 (.slice none 0 0) (.slice none 0 0)))) w:=k_
 rw[e,b]
def Fx(q cb off k:Nat):Value:= .slice (some ⟨cb,off+(5+20*k),none⟩) 20 (q-(5+20*k))
section
variable{b2 bu bh bs ld cb off q:Nat}{sv:Value}{st le:Int}{W:List Int}{T:Array Value}{cf:Frame}
theorem Nw(h85:85<=q)(hW:gD W)(hr:w0.rangeAt cb off (W.map (Value.int .i64)))(hT:aW [(2, .pt b2),(3, .pt b3),(7, .pt b7)] 56 [] ⟨T,[]⟩){k:Nat}(hk:k<4){w:World}
 (hC:Cr w0 b2 b3 b7 bu bh bs l ld (u5 Tryz.f36 T ld .ready none) sv st le 0 (js W k) (jM W k) w)
 (nt:iu (kY W k)=true->∀w',Cr w0 b2 b3 b7 bu bh bs l ld (u5 Tryz.f36 T ld .ready none) sv st le 0 (js W (k+1)) (jM W (k+1)) w'->Rn (aI true Tryz.prog) Goal (cf.finish (.bool true)) cs w')
 (nq:iu (kY W k)=false->∀w',Cr w0 b2 b3 b7 bu bh bs l ld (u5 Tryz.f36 T ld .done (some .ret)) sv st le 1 (js W k) (jM W k) w'->w'.heap[b2]?=some (.cells (ik 0 0 (.slice none 0 0) (.slice none 0 0)) 48)->Rn (aI true Tryz.prog) Goal (cf.finish (.bool false)) cs w'):
 Rn (aI true Tryz.prog) Goal (Frame.round l 36 (((#[37,38]:Array Tmp).zip #[.int .i64 k,Fx q cb off k]).foldl (λtmps (t,a)=>tmps.setIfInBounds t a) T) (M7 Tryz.f36) (EC Tryz.f36) .normal) (cf::cs) w:=by
 have hF:=(hT.put (d:=37) d_ (.int .i64 k)).put (d:=38) d_ (Fx q cb off k);have ez:((#[37,38]:Array Tmp).zip #[.int .i64 k,Fx q cb off k]).foldl (λ(tmps:Array Value) (x:Tmp×Value)=>match x with|(t,a)=>tmps.setIfInBounds t a) T=(T.setIfInBounds 37 (.int .i64 k)).setIfInBounds 38 (Fx q cb off k):=s_
 rw[ez];show Rn _ Goal ((rb 36 l).atR (Rf (Rf ⟨T,[]⟩ (some 37) (.int .i64 k)) (some 38) (Fx q cb off k)) [.code (M7 Tryz.f36), .beginRound, .code (EC Tryz.f36)]) (cf::cs) w;revert hF;generalize Rf (Rf ⟨T,[]⟩ (some 37) (.int .i64 k)) (some 38) (Fx q cb off k)=a;intro hF
 iterate 2 refine Rn.uc hF λa hF=> ?_
 refine Rn.p rfl (Rn.rounds (r:=u5 Tryz.f36 T ld .ready none) rfl hC.loop rfl ?_);have hC1:Cr w0 b2 b3 b7 bu bh bs l ld (u5 Tryz.f36 T ld .busy none) sv st le 0 (js W k) (jM W k) (bP w l {u5 Tryz.f36 T ld .ready none with state:= .busy}):=hC.turn (u5 Tryz.f36 T ld .busy none);revert hC1;generalize bP w l {u5 Tryz.f36 T ld .ready none with state:= .busy}=w1;intro hC1;have hl20:=Fy hW.1 hk;have rg:∀{w':World},Bw w0 w'->w'.rangeAt cb (off+(5+20*k)) ((kY W k).map (Value.int .i64)):=λhb=>HJ (λj v hv=>cG hb (hr j v hv)) k;have wd:∀j,j<20->0<=(kY W k).getD j 0/\(kY W k).getD j 0<65536:=λj hj=>by rw[NX k hj];exact hW.2 _ o_
 refine Rn.uc hF λa hF=> ?_;refine Rn.cw hF Lf.func51 (BS (kY W k) cb _ _ w1 (rg hC1.old) hl20) λw2 b2' a hF=> ?_;have hC2:=hC1.below b2';refine Rn.uc hF λa hF=> ?_;refine Rn.p rfl (Rn.cond _ (hF.get (d:=41) rfl) ?_);cases hq:iu (kY W k)with
 |false=>
  obtain⟨c,hc4,hc⟩:=hC2.res;refine Rn.vv hF (λo ho=>C0 ho) λa hF=> ?_;refine Rn.nn hF (λo ho=>vO ho (hF.get (d:=2) rfl) (hF.get (d:=42) rfl) hc hc4) λa hF=> ?_;have hC3:=hC2.setR (ik 0 0 (.slice none 0 0) (.slice none 0 0)) rfl;have e3:=co (cs:=ik 0 0 (.slice none 0 0) (.slice none 0 0)) (t:=48) hc;refine Rn.nn hF (λo ho=>fD (v:= .int .i64 1) rfl rfl k_ ho (hF.get (d:=3) rfl) rfl hC3.err (d_:0<1)) λa hF=> ?_;have hC4:=hC3.setE 1;have e4:=(cn (cs:=#[.int .i64 1]) (t:=34) (cy hc hC2.err d_)).trans e3;have hC5:=hC4.turn (u5 Tryz.f36 T ld .done (some .ret));refine Rn.p rfl (Rn.quits rfl rfl hC4.loop (nq hq _ hC5 ?_));exact(bD _ _ (gz e4 hC4.loop)).trans e4
 |true=>
  have hF:aW [(2, .pt b2),(3, .pt b3),(7, .pt b7),(8, .int .i64 k),(9,Fx q cb off k)] 56 [] a:=hF.only ⟨rfl,rfl,rfl,rfl,rfl,trivial⟩;refine Rn.p rfl (Rn.p rfl ?_);have f2:=hC2.fus;refine Rn.tab1 (R:=λa w'=>Cr w0 b2 b3 b7 bu bh bs l ld (u5 Tryz.f36 T ld .busy none) sv st le 0 (js W (k+1)) (jM W k) w'/\aW [(2, .pt b2),(3, .pt b3),(7, .pt b7),(8, .int .i64 k),(9,Fx q cb off k)] 56 [] a) (λa w3 ⟨hC3,hF⟩=> ?_) hF
   [(43, .pk b7 1),(44, .sk bu 4 4),(45, .int .i64 k),(46,Fx q cb off k),(47, .bool (fP (kY W k))),(48, .pk bu k)] [45,46] [(47, .bool (fP (kY W k))),(48, .pk bu k)]
   ⟨tq,
    λz=>dv (aP qZ z.qq (z.k 43) ((aK (bk z.b f2) 1).trans rfl)).1,
    λz=>z.c1 (z.k 46) (yX (kY W k) cb _ _ _ (rg (aB hC2.old hC2.old.size z.b)) hl20),
    λz=>CR (eA (t:=46) (e:=4) (n:=k) k_ (λw=>k_) z.qq (z.k 44) (z.k 45) hk).1 (by rw[CH,a46]),
    trivial⟩ (λa w' rest hb hF hgo=> ?_)
  ·have f3:=hC3.fus;refine Rn.tab1 (R:=λ_ w'=>Cr w0 b2 b3 b7 bu bh bs l ld (u5 Tryz.f36 T ld .busy none) sv st le 0 (js W (k+1)) (jM W (k+1)) w') (λa w4 hC4=> ?_) hF
    [(49, .pk b7 3),(50, .sk bh 4 4),(51, .int .i64 k),(52,Fx q cb off k),(53, .string ⟨(eF ((kY W k).drop 4)).toArray⟩),(54, .pk bh k)] [51,52] [(53, .string ⟨(eF ((kY W k).drop 4)).toArray⟩),(54, .pk bh k)]
    ⟨tq,
     λz=>dv (aP fo z.qq (z.k 49) ((aK (bk z.b f3) 3).trans rfl)).1,
     λz=>z.c1 (z.k 52) (G5 (rg (aB hC3.old hC3.old.size z.b)) hl20 wd o_),
     λz=>CR (eA (t:=25) (e:=9) (n:=k) k_ (λw=>k_) z.qq (z.k 50) (z.k 51) hk).1 (by rw[CH,a46]),
     trivial⟩ (λa w' rest hb hF hgo=> ?_)
   ·exact Rn.p rfl (Rn.through rfl rfl hC4.loop (nt hq _ (hC4.turn _)))
   ·have hC5:=hC3.below hb;have hlen:(jM W k).length=4:=(by simp[jM]);refine Rn.does0 hF (.store 9 (.tmp 54) (.tmp 53)) k_ s_ (λo ho=>fD (v:= .string ⟨(eF ((kY W k).drop 4)).toArray⟩) rfl rfl k_ ho (hF.get (d:=54) rfl) (hF.get (d:=53) rfl) hC5.hs (by simp[hlen];omega)) λa hF=>hgo a _ ?_;rw[show((jM W k).map Value.string).toArray.setIfInBounds k (.string ⟨(eF ((kY W k).drop 4)).toArray⟩)=((jM W (k+1)).map Value.string).toArray from by rw[←TI W hk,Yw];simp];exact hC5.setH _
  ·have hC5:=hC2.below hb;have hlen:(js W k).length=4:=(by simp[js]);refine Rn.does0 hF (.store 4 (.tmp 48) (.tmp 47)) k_ s_ (λo ho=>fD (v:= .bool (fP (kY W k))) rfl rfl k_ ho (hF.get (d:=48) rfl) (hF.get (d:=47) rfl) hC5.us (by simp[hlen];omega)) λa hF=>hgo a _ ⟨?_,hF.only ⟨rfl,rfl,rfl,rfl,rfl,trivial⟩⟩;rw[show((js W k).map Value.bool).toArray.setIfInBounds k (.bool (fP (kY W k)))=((js W (k+1)).map Value.bool).toArray from by rw[←EV W hk,Yw];simp];exact hC5.setU _
end
end L1
section
open Go.Conc Go.RowKit
theorem vA{R:Ending->World->Prop}{t u:Tmp}{ty ty':TypeId}{d:TypeDesc}(z:P.funcs[f]?=some fn)(c:fn.results=#[.cell t ty, .cell u ty'])(p:P.underlying ty=some d)(A:d.isRow=true)(y:(P.info? ty).map (·.size)=some n)(i:∀w:World,(isAgg ty').run P w= .ok false w)
 (h:∀cs,Rn P (λg w'=>∃(a:Act) (k:List Item) (b:Nat) (cells:Array Value) (l:TypeId) (ad:Addr) (v:Value),g=gB {(base f).atR a k with mode:= .returning} cs/\a.defers=[]/\a.tmps[t]?=some (.pk b 0)/\w'.heap[b]?=some (.cells cells l)/\cells.size=n/\a.tmps[u]?=some (.pointer (some ad))/\w'.cell? ad=some v/\R (.returned (.tuple #[.agg cells,v])) w') (a49 P f args .normal) cs w):Calls P f args w R:=λcs=>by
 obtain⟨J,w',I,a,k,b,cells,l,ad,v,rfl,H,G,F,E,D,C,B⟩:=h cs;refine⟨.returned (.tuple #[.agg cells,v]),w',{(base f).atR a k with mode:= .returning},B,StepsIn.steps I,rfl,rfl,H,rfl,fn,z, ?_⟩;have r:a.tmps[t]?.getD undef= .pk b 0:=by rw[G];rfl
 have o:a.tmps[u]?.getD undef= .pointer (some ad):=by rw[D];rfl
 have q:w'.rangeAt b 0 cells.toList:=λj x m=>by
  rw[a46];have:w'.cell? ⟨b,j,none⟩=cells[j]?:=by simp[AB,F]
  rw[this,←m,Vv]
 have s:=run_loadVar_mid (P:=P) w' b 0 ty cells.toList d q p A (by rw[y];simp[E]);have e:(loadVar ty' ad).run P w'= .ok v w':=by simp[loadVar,i,C,go_sem]
 show(results fn a.tmps).run P w'=_;simp[results,c,r,o,asAddr,s,e]
end
namespace L1
open Go.Conc Go.RowKit
section
variable{y z:Operand}
theorem KO{a off b cap:Nat}(d:o.op= .slice 22 x (some y) (some z) none)(g:ev x= .slice (some ⟨a,off,none⟩) b cap)(f:ev y= .i m)(e:ev z= .i n)(h:n<=cap)(p:m<n):(execOp ev o).run lT w= .ok (.value (.slice (some ⟨a,off+m,none⟩) (n- m) (cap- m))) w:=by
 have i:lT.underlying 22=some (.slice 3):=k_
 have c:(sizeOf 3).run lT w= .ok 1 w:=k_
 have k:m<=n:=o_
 have j:¬cap=m:=o_
 have l:(⟨a,off,none⟩:Addr).add m=⟨a,off+m,none⟩:=CH ..;simp[execOp,d,g,f,e,JR,Vh,Kg,run_underlying i,LY,asIntOf,h,c,k,j,l]
end
theorem OW:Tryz.f50.body=some (.seq (rG Tryz.f50 0) (.seq (rG Tryz.f50 1) .ret)):=k_
theorem zL(v:Value)(hv:v.cells=#[v])(w:World):Calls lT 50 #[v] w λe w'=>e= .returned (.func (.func 61) #[] #[.pk w.heap.size 0])/\w'=w.alloc (.cells #[v] 22):=by
 refine aT (t:=2) Lf.func50 rfl λd=> ?_;rw[aV (N:=4) [v] Lf.func50 OW rfl];have b:=aN [v] 4 s_;refine Rn.vv b (λo c=>DO hv c (b.G 0)) λa b=> ?_;refine Rn.uc b λa b=> ?_;refine Rn.vv (w':=w.alloc (.cells #[v] 22)) b (v:= .func (.func 61) #[] #[.pk w.heap.size 0]) (λo c=> ?_) λa b=> ?_
 ·have:=(fB (ev:=a.eval) (w:=w.alloc (.cells #[v] 22)) lT (a:=#[.tmp 1]) c).1
  rwa [show(#[Ft 1]:Array Operand).map a.eval=#[.pk w.heap.size 0]from by simp[b.G 1]]at this
 refine Rn.uc b λa b=> ?_;exact Rn.fi b ⟨rfl,rfl⟩
def Va(f:Func):Code:= .seq (rG f 1) (.seq (.cond (.tmp 6) .skip (.exit 0)) (.seq (.block 1 (.seq (rG f 2) (.seq (rG f 3) (.seq (rG f 4) (.cond (.tmp 19) .ret .skip))))) (rG f 5)))
theorem OY:Tryz.f61.body=some (.seq (rG Tryz.f61 0) (.block 0 (.loop (Va Tryz.f61)))):=k_
section
variable{b2 bu bh bs ld cb off q:Nat}{st le:Int}{W:List Int}{T:Array Value}{cf:Frame}
theorem QX(h85:85<=q)(hW:gD W)(hr:w0.rangeAt cb off (W.map (Value.int .i64)))(hT:aW [(2, .pt b2),(3, .pt b3),(7, .pt b7)] 56 [] ⟨T,[]⟩)
 (nf:((Ak 4).all λk=>iu (kY W k))=true->∀w',Cr w0 b2 b3 b7 bu bh bs l ld (u5 Tryz.f36 T ld .ready none) (.slice (some ⟨cb,off,none⟩) 85 q) st le 0 (js W 4) (jM W 4) w'->Rn (aI true Tryz.prog) Goal (cf.finish (.tuple #[])) cs w')
 (nq:((Ak 4).all λk=>iu (kY W k))=false->∀U H w',Cr w0 b2 b3 b7 bu bh bs l ld (u5 Tryz.f36 T ld .done (some .ret)) (.slice (some ⟨cb,off,none⟩) 85 q) st le 1 U H w'->w'.heap[b2]?=some (.cells (ik 0 0 (.slice none 0 0) (.slice none 0 0)) 48)->Rn (aI true Tryz.prog) Goal (cf.finish (.tuple #[])) cs w'):
 ∀(m i:Nat) (a:Act) (w:World),4- i=m->i<=4->(∀j,j<i->iu (kY W j)=true)->aW [(0, .func (.yield l) #[] #[]),(1, .pt bs),(5, .int .i64 i)] 21 [] a->Cr w0 b2 b3 b7 bu bh bs l ld (u5 Tryz.f36 T ld .ready none) (.slice (some ⟨cb,off,none⟩) 85 q) st le 0 (js W i) (jM W i) w->
  Rn (aI true Tryz.prog) Goal ((base 61).atR a [.code (Va Tryz.f61), .inLoop (Va Tryz.f61), .inBlock 0]) (cf::cs) w:=by
 intro m;induction m with
 |zero=>
  intro i a w hm hi hj hF hC;obtain rfl:i=4:=o_
  refine Rn.uc hF λa hF=> ?_;refine Rn.p rfl (Rn.p rfl (Rn.cond _ (hF.get (d:=6) rfl) ?_));rw[decide_eq_false o_];refine Rn.p rfl (Rn.ends rfl (.inl rfl) (Rn.leave (.tuple #[]) rfl hF.defers Lf.func61 k_ k_ (nf ?_ _ hC)));rw[List.all_eq_true];intro k hk;exact hj k (by simpa using hk)
 |succ m ih=>
  intro i a w hm hi hj hF hC;refine Rn.uc hF λa hF=> ?_;refine Rn.p rfl (Rn.p rfl (Rn.cond _ (hF.get (d:=6) rfl) ?_));rw[decide_eq_true o_]
  iterate 3 refine Rn.uc hF λa hF=> ?_
  refine Rn.vv hF (λo ho=>ko (n:=20) ho (hF.get (d:=8) rfl) rfl o_) λa hF=> ?_;refine Rn.vv hF (λo ho=>cS (m:=5) ho rfl (hF.get (d:=9) rfl) o_) λa hF=> ?_
  iterate 3 refine Rn.uc hF λa hF=> ?_
  refine Rn.vv hF (λo ho=>(aP pV ho (hF.get (d:=1) rfl) ((aK hC.box 0).trans rfl)).1) λa hF=> ?_
  iterate 2 refine Rn.uc hF λa hF=> ?_
  refine Rn.vv hF (λo ho=>cS (n:=20) ho (hF.get (d:=15) rfl) rfl o_) λa hF=> ?_;refine Rn.vv hF (λo ho=>KO ho (hF.get (d:=13) rfl) (hF.get (d:=14) rfl) (hF.get (d:=16) rfl) o_ o_) λa hF=> ?_;rw[show(Value.slice (some ⟨cb,off+(5+i*20),none⟩) (5+i*20+20-(5+i*20)) (q-(5+i*20)))=Fx q cb off i from by rw[Fx,Nat.mul_comm i 20,Nat.add_sub_cancel_left]]at hF;refine Rn.gr ?_;have h18:((bX Tryz.f61 4)[7]?).map (λo=>(o.dst,o.op,o.guard))=some (some 18, .call {callee:= .value (.tmp 11),args:=#[.tmp 12, .tmp 17],argTypes:=#[3,91]},none):=k_
  cases ho:(bX Tryz.f61 4)[7]? with
  |none=>rw[ho]at h18;cases h18
  |some o=>
  obtain⟨e1,e2,e3⟩:=cC ho h18;refine Rn.yields (args:=#[.int .i64 i,Fx q cb off i]) ho (e3 _) (by rw[e2];simp) hC.loop rfl (λw=>jw e2 (hF.get (d:=11) rfl) (by simp[hF.get (d:=12) rfl,hF.get (d:=17) rfl]) w) ?_;refine Nw h85 hW hr hT o_ hC (λhq w2 hC2=> ?_) (λhq w2 hC2 hz=> ?_)
  ·rw[BR,ho,Hk,e1];have hF:=hF.put (d:=18) d_ (.bool true);revert hF;generalize a.put (some 18) (.bool true)=a;intro hF;clear e1 e2 e3 ho;refine Rn.uc hF λa hF=> ?_;refine Rn.p rfl (Rn.cond false (hF.get (d:=19) rfl) ?_);refine Rn.vv hF (λo ho=>cS (n:=1) ho (hF.get (d:=5) rfl) rfl o_) λa hF=> ?_;refine Rn.uc hF λa hF=> ?_;exact Rn.p rfl (Rn.p rfl (ih (i+1) a _ o_ o_ (λj hj'=>by
    rcases Nat.lt_or_ge j i with h|h
    ·exact hj j h
    ·rw[show j=i by omega];exact hq) (hF.only ⟨rfl,rfl,rfl,trivial⟩) hC2))
  ·rw[BR,ho,Hk,e1];have hF:=hF.put (d:=18) d_ (.bool false);revert hF;generalize a.put (some 18) (.bool false)=a;intro hF;clear e1 e2 e3 ho;refine Rn.uc hF λa hF=> ?_;refine Rn.p rfl (Rn.cond true (hF.get (d:=19) rfl) ?_);refine Rn.ends rfl (.inr ⟨_,rfl⟩) (Rn.leave (.tuple #[]) rfl hF.defers Lf.func61 k_ k_ (nq ?_ _ _ _ hC2 hz));rw[List.all_eq_false];exact⟨i,by simp;omega,by rw[hq];decide⟩
end
end L1
section
open Go.Conc Go.RowKit
structure Rp (w:World) (fx:List (Nat×Value)) (ds:List Nat) (G:Nat->Value->World->Prop) (ops:Array Oper) (n:Nat) (o:Oper) (a:Act) (w':World):Prop where
 ho:ops[n]?=some o
 e:∀{p},(h:(ops[n]?).map (·.op)=some p:=by kernel_rfl)->o.op=p
 b:Bw w w'
 f:∀x {u},(h:fx.lookup x=some u:=by rfl)->a.eval (.tmp x)=u
 k:∀m {d},(h:ds[m]?=some d:=by rfl)->(g:ii ops n m=true:=by kernel_rfl)->∃v,a.eval (.tmp d)=v/\G m v w'
theorem oE{fx:List (Nat×Value)}{x:Nat}{u:Value}(h:fx.lookup x=some u):(x,u)∈fx:=by
 induction fx with
 |nil=>cases h
 |cons p q a=>
  rw[a51]at h;split at h
  ·rename_i b;have:x=p.1:=(by simpa using b);cases h;rw[this];exact List.mem_cons_self
  ·exact List.mem_cons_of_mem _ (a h)
theorem Rn.ptab1{b:Frame}{k:List Item}{id:Nat}{df:List Deferred}{fx:List (Nat×Value)}{R:Act->World->Prop}(next:∀a w',R a w'->Rn P Goal (b.atR a k) cs w')(y:aW fx N df a)(ds:List Nat)(G:Nat->Value->World->Prop)(e:∀n v w w',G n v w->Bw w w'->G n v w')
 (f:∀n o a w',n<ds.length->Rp w fx ds G ops n o a w'->qJ P a o w' λv c=>G n v c/\Bw w' c)
 (B:∀a w' rest,Bw w w'->aW fx N df a->(∀m d,ds[m]?=some d->∃v,a.tmps[d]?=some v/\G m v w')->(∀a' c,R a' c->Rn P Goal (b.atR a' (.inRegion ops rest::k)) cs c)->Rn P Goal (b.atR a (.inRegion ops (ds.length::rest)::k)) cs w') (g:P.follows .mixedOrders=true:=by kernel_rfl) (C:ops.size=ds.length+1:=by kernel_rfl) (i:nA ops ds (fx.map (·.1)) N=true:=by kernel_rfl) (p:(fx.map (·.1)).Nodup:=by simp):Rn P Goal (b.atR a (.code (.region id ops true)::k)) cs w:=by
 refine Rn.grows (fx:=fx) (ds:=ds) (N:=N) (df:=df) (G:=G) g i e (λn o a w' D j F r l=> ?_)
  (λm a w'=>(m=ds.length/\Bw w w'/\aW fx N df a/\∀m d,ds[m]?=some d->∃v,a.tmps[d]?=some v/\G m v w')\/(m=ds.length+1/\R a w')) (λa w' t=> .inl ⟨rfl,t.old,t.base,λm d s=>t.come m d s trivial⟩) (λm o a w' rest J j H q=> ?_) (λa w' h=> ?_) y.defers y.size (y.all p)
 ·refine f n o a w' D ⟨j,λh=>by rw[j]at h;exact Option.some.inj h,F,λx u h=>aD (r (x,u) (oE h)),λm d s E=> ?_⟩;obtain⟨v,A,z⟩:=l m d s E;exact⟨v,aD A,z⟩
 ·rcases H with⟨rfl,A,z,I⟩|⟨rfl,_⟩
  ·exact B a w' rest A z I λa' c h=>q a' c (.inr ⟨rfl,h⟩)
  ·have:=(gA j).1;omega
 ·rcases h with⟨h,_⟩|⟨_,h⟩
  ·omega
  ·exact next a w' h
end
namespace L1
open Go.Conc Go.RowKit
section
variable{y z u:Operand}
theorem O8(a:o.op= .alloc 34):(execOp ev o).run lT w= .ok (.value (.pk w.heap.size 0)) (w.alloc (.cells #[.i 0] 34)):=by
 have e:execOp ev o=(do pure (.value (←Ee 34 true (.tuple #[])))):=by simp only[execOp,a]
 have b:(do pure (.value (←Ee 34 true (.tuple #[]))):Sem Next).run lT w= .ok (.value (.pk w.heap.size 0)) (w.alloc (.cells #[.i 0] 34)):=k_
 rw[e,b]
theorem o7{m:Sem Value}(h:m.run P w= .ok v w'):(do pure (.value (←m)):Sem Next).run P w= .ok (.value v) w':=by simp[h]
theorem QT(a:o.op= .makeSlice 46 x y)(c:ev x= .i 4)(b:ev y= .i 4):(execOp ev o).run lT w= .ok (.value (.sk w.heap.size 4 4)) (w.alloc (.cells #[.bool false, .bool false, .bool false, .bool false] 4)):=by
 have h:=run_make_row' (P:=lT) 46 4 (Value.bool false) 1 k_ k_ rfl .i64 .i64 4 o_ o_ w;rw[fp]at h;have e:execOp ev o=(do pure (.value (←Po 46 (.i 4) (.i 4)))):=by simp only[execOp,a,c,b]
 rw[e];exact o7 h
theorem QS(a:o.op= .makeSlice 25 x y)(c:ev x= .i 4)(b:ev y= .i 4):(execOp ev o).run lT w= .ok (.value (.sk w.heap.size 4 4)) (w.alloc (.cells #[.string ⟨#[]⟩, .string ⟨#[]⟩, .string ⟨#[]⟩, .string ⟨#[]⟩] 9)):=by
 have h:=run_make_row' (P:=lT) 25 9 (Value.string ⟨#[]⟩) 16 k_ k_ rfl .i64 .i64 4 o_ o_ w;rw[fp]at h;have e:execOp ev o=(do pure (.value (←Po 25 (.i 4) (.i 4)))):=by simp only[execOp,a,c,b]
 rw[e];exact o7 h
theorem NJ{st le:Int}{c d:Option Addr}{f a g b:Nat}(h:o.op= .build 48 #[(0,x),(1,y),(2,z),(3,u)])(k:ev x= .i st)(j:ev y= .slice c f a)(i:ev z= .i le)(l:ev u= .slice d g b):(execOp ev o).run lT w= .ok (.value (.agg (ik st le (.slice c f a) (.slice d g b)))) w:=by
 have e:execOp ev o=(do pure (.value (←C9 48 #[(0, .i st),(1, .slice c f a),(2, .i le),(3, .slice d g b)]))):=by simp[execOp,h,k,j,i,l]
 have m:(do pure (.value (←C9 48 #[(0, .i st),(1, .slice c f a),(2, .i le),(3, .slice d g b)])):Sem Next).run lT w= .ok (.value (.agg (ik st le (.slice c f a) (.slice d g b)))) w:=k_
 rw[e,m]
end
def GR(N0:Nat)(st le:Int):Nat->Value->World->Prop
 |0,v,_=>v= .int .i64 st
 |1,v,w=>∃bu,N0<=bu/\v= .sk bu 4 4/\w.heap[bu]?=some (.cells #[.bool false, .bool false, .bool false, .bool false] 4)
 |2,v,_=>v= .int .i64 le
 |3,v,w=>∃bh,N0<=bh/\v= .sk bh 4 4/\w.heap[bh]?=some (.cells #[.string ⟨#[]⟩, .string ⟨#[]⟩, .string ⟨#[]⟩, .string ⟨#[]⟩] 9)
 |4,v,w=>∃bu bh,N0<=bu/\N0<=bh/\v= .agg (ik st le (.sk bu 4 4) (.sk bh 4 4))/\w.heap[bu]?=some (.cells #[.bool false, .bool false, .bool false, .bool false] 4)/\w.heap[bh]?=some (.cells #[.string ⟨#[]⟩, .string ⟨#[]⟩, .string ⟨#[]⟩, .string ⟨#[]⟩] 9)
 |5,v,w=>∃b7,N0<=b7/\v= .pk b7 0/\w.heap[b7]?=some (.cells (ik 0 0 (.slice none 0 0) (.slice none 0 0)) 48)
 |_,_,_=>True
theorem Mj{b:Nat}{st le:Int}(n:Nat)(v:Value)(w w':World)(h:GR b st le n v w)(a:Bw w w'):GR b st le n v w':=by
 match n,h with
 |0,h=>exact h
 |1,⟨bu,h1,h2,h3⟩=>exact⟨bu,h1,h2,bk a h3⟩
 |2,h=>exact h
 |3,⟨bu,h1,h2,h3⟩=>exact⟨bu,h1,h2,bk a h3⟩
 |4,⟨bu,bh,h1,h2,h3,h4,h5⟩=>exact⟨bu,bh,h1,h2,h3,bk a h4,bk a h5⟩
 |5,⟨bu,h1,h2,h3⟩=>exact⟨bu,h1,h2,bk a h3⟩
 |_+6,_=>trivial
section
variable{st le:Int}{fx:List (Nat×Value)}{sv p2 p3:Value}
theorem Rj(f:aW [(0,sv),(2,p2),(3,p3),(4, .i st),(6, .i le)] 56 [] a)
 (next:∀a e b7 b c,Bw w e->w.heap.size<=b7->w.heap.size<=b->w.heap.size<=c->e.heap[b7]?=some (.cells (ik st le (.sk b 4 4) (.sk c 4 4)) 48)->e.heap[b]?=some (.cells #[.bool false, .bool false, .bool false, .bool false] 4)->e.heap[c]?=some (.cells #[.string ⟨#[]⟩, .string ⟨#[]⟩, .string ⟨#[]⟩, .string ⟨#[]⟩] 9)->aW [(0,sv),(2,p2),(3,p3),(7, .pt b7)] 56 [] a->Rn lT Goal ((base 36).atR a K) cs e):
 Rn lT Goal ((base 36).atR a (.code (rD Tryz.f36 9)::K)) cs w:=by
 refine Rn.ptab1 (R:=λa e=>∃b7 b c,Bw w e/\w.heap.size<=b7/\w.heap.size<=b/\w.heap.size<=c/\e.heap[b7]?=some (.cells (ik st le (.sk b 4 4) (.sk c 4 4)) 48)/\e.heap[b]?=some (.cells #[.bool false, .bool false, .bool false, .bool false] 4)/\e.heap[c]?=some (.cells #[.string ⟨#[]⟩, .string ⟨#[]⟩, .string ⟨#[]⟩, .string ⟨#[]⟩] 9)/\aW [(0,sv),(2,p2),(3,p3),(7, .pt b7)] 56 [] a) (λa e ⟨b7,b,c,p,m,l,k,N,M,L,J⟩=>next a e b7 b c p m l k N M L J) f
  [30,31,32,33,34,7] (GR w.heap.size st le) Mj (λn o a A H z=> ?_) (λa A q I f u j=> ?_)
 ·match n,H,z with
  |0,_,z=>exact aJ (NT z.e (z.f 4)) ⟨rfl,bR⟩
  |1,_,z=>exact aJ (QT (x:= .const (.i 4)) (y:= .const (.i 4)) z.e rfl rfl) ⟨⟨_,z.b.size,rfl,bJ _ _⟩,aZ _ _⟩
  |2,_,z=>exact aJ (NT z.e (z.f 6)) ⟨rfl,bR⟩
  |3,_,z=>exact aJ (QS (x:= .const (.i 4)) (y:= .const (.i 4)) z.e rfl rfl) ⟨⟨_,z.b.size,rfl,bJ _ _⟩,aZ _ _⟩
  |4,_,z=>
   obtain⟨Y,S,rfl⟩:=z.k 0 (d:=30);obtain⟨X,Q,b,p,rfl,m⟩:=z.k 1 (d:=31);obtain⟨W,P,rfl⟩:=z.k 2 (d:=32);obtain⟨V,O,c,l,rfl,k⟩:=z.k 3 (d:=33);exact aJ (NJ z.e S Q P O) ⟨⟨b,c,p,l,rfl,m,k⟩,bR⟩
  |5,_,z=>exact aJ (Ij z.e) ⟨⟨_,z.b.size,rfl,bJ _ _⟩,aZ _ _⟩
 ·obtain⟨U,C,b,c,E,D,rfl,t,s⟩:=u 4 34 rfl;obtain⟨T,B,b7,r,rfl,i⟩:=u 5 7 rfl;have f:aW [(7, .pt b7),(34, .agg (ik st le (.sk b 4 4) (.sk c 4 4))),(0,sv),(2,p2),(3,p3)] 56 [] a:=⟨f.defers,f.size,λd v g=>by
   rw[a51]at g;split at g
   ·rename_i h;cases g;rw[show d=7 from by simpa using h];exact B
   rw[a51]at g;split at g
   ·rename_i h;cases g;rw[show d=34 from by simpa using h];exact C
   exact(f.only (G:=[(0,sv),(2,p2),(3,p3)]) ⟨rfl,rfl,rfl,trivial⟩).slot d v g⟩
  refine Rn.does0 f (.store 48 (.tmp 7) (.tmp 34)) k_ s_ (λo F=>vO F (f.G 7) (f.G 34) i rfl) λa f=>j a _ ⟨b7,b,c,I.trans (cM r),r,E,D,co i,(cn (cy t i d_)).trans t,(cn (cy s i d_)).trans s,f.only ⟨rfl,rfl,rfl,rfl,trivial⟩⟩
end
theorem OV:Tryz.f36.body=some (.seq (rG Tryz.f36 0) (.seq (.seq (rG Tryz.f36 1) (.cond (.tmp 12) (.seq (rG Tryz.f36 2) .ret) .skip)) (.seq (rG Tryz.f36 3) (.seq (.seq (rG Tryz.f36 4) (.cond (.tmp 20) (.seq (rG Tryz.f36 5) .ret) .skip)) (.seq (rG Tryz.f36 6) (.seq (.seq (rG Tryz.f36 7) (.cond (.tmp 28) (.seq (rG Tryz.f36 8) .ret) .skip)) (.seq (rD Tryz.f36 9) (.seq (.seq (rG Tryz.f36 10) (.block 0 (.rangeFunc (.tmp 36) #[37,38] (M7 Tryz.f36) (EC Tryz.f36)))) (.seq (rG Tryz.f36 17) .ret))))))))):=k_
theorem t8:rJ:=by
 intro W w cb off q h85 hW hr hlt;refine vA (t:=2) (u:=3) (ty:=48) (ty':=34) (n:=4) Lf.func36 rfl (by rw[bY];exact Tryz.underlying48) rfl IE (λw=>k_) λcs=> ?_;rw[aV (N:=56) [(.slice (some ⟨cb,off,none⟩) 85 q:Value)] Lf.func36 OV rfl];have hF:=aN [(.slice (some ⟨cb,off,none⟩) 85 q:Value)] 56 s_;refine Rn.al hF (λo ho=>Ij ho) λw1 a b1 c1 z1 hF=> ?_;refine Rn.al hF (λo ho=>O8 ho) λw2 a b2 c2 z2 hF=> ?_;have B2:=aB b1 b1.size b2;have c1:=bk b2 c1;have rg:∀{w':World},Bw w w'->w'.rangeAt cb off (W.map (Value.int .i64)):=λhb j v hv=>cG hb (hr j v hv);refine Rn.uc hF λa hF=> ?_;refine Rn.cw hF Lf.func47 (AX hW cb off q w2 (rg B2)) λw' hw a hF=> ?_;rw[hw];refine Rn.uc hF λa hF=> ?_;refine Rn.p rfl (Rn.cond _ (hF.get (d:=12) rfl) ?_);refine Rn.uc hF λa hF=> ?_;refine Rn.cl hF Lf.func48 (Fb hW cb off q w2 (rg B2)) λv w3 hv a hF=> ?_;obtain⟨s,rfl,hs,b3⟩:=hv;have B3:=aB B2 B2.size b3;have c1:=bk b3 c1;have c2:=bk b3 c2;have z3:=b3.size
 iterate 7 refine Rn.uc hF λa hF=> ?_
 refine Rn.p rfl (Rn.cond _ (hF.get (d:=20) rfl) ?_);cases hst:BJ W with
 |false=>
  have hno:p8 W=false:=by rw[p8,hst];rfl
  refine Rn.vv hF (λo ho=>C0 ho) λa hF=> ?_;refine Rn.nn hF (λo ho=>vO ho (hF.get (d:=2) rfl) (hF.get (d:=21) rfl) c1 rfl) λa hF=> ?_;have d3:=(cn (cs:=ik 0 0 (.slice none 0 0) (.slice none 0 0)) (t:=48) (cy c2 c1 d_)).trans c2;refine Rn.nn hF (λo ho=>fD (v:= .int .i64 1) rfl rfl k_ ho (hF.get (d:=3) rfl) rfl d3 (d_:0<1)) λa hF=> ?_;have d2:=co (cs:=ik 0 0 (.slice none 0 0) (.slice none 0 0)) (t:=48) c1;exact Rn.runs 6 _ (Rn.ends rfl (.inr ⟨_,rfl⟩) (Rn.now ⟨_,_,w.heap.size,_,_,⟨w1.heap.size,0,none⟩, .int .i64 1,rfl,hF.defers,hF.slot 2 _ rfl,(cn (cy d2 d3 d_)).trans d2,rfl,hF.slot 3 _ rfl,(aK (co d3) 0).trans rfl,_,rfl,0,0,1,none,0,0,none,0,0,[],[],rfl, .inr ⟨hno,rfl⟩,(B3.trans (cM (a36 _))).trans (cM o_),λe=>by cases e⟩))
 |true=>
  refine Rn.uc hF λa hF=> ?_;refine Rn.cl hF Lf.func49 (Cz hW cb off q w3 (rg B3)) λv w4 hv a hF=> ?_;obtain⟨le,rfl,hle,b4⟩:=hv;have B4:=aB B3 B3.size b4;have c1:=bk b4 c1;have c2:=bk b4 c2;have z4:=b4.size
  iterate 7 refine Rn.uc hF λa hF=> ?_
  refine Rn.p rfl (Rn.cond _ (hF.get (d:=28) rfl) ?_);cases hls:Ed W with
  |false=>
   have hno:p8 W=false:=(by rw[p8,hst,hls];rfl);refine Rn.vv hF (λo ho=>C0 ho) λa hF=> ?_;refine Rn.nn hF (λo ho=>vO ho (hF.get (d:=2) rfl) (hF.get (d:=29) rfl) c1 rfl) λa hF=> ?_;have d3:=(cn (cs:=ik 0 0 (.slice none 0 0) (.slice none 0 0)) (t:=48) (cy c2 c1 d_)).trans c2;refine Rn.nn hF (λo ho=>fD (v:= .int .i64 1) rfl rfl k_ ho (hF.get (d:=3) rfl) rfl d3 (d_:0<1)) λa hF=> ?_;have d2:=co (cs:=ik 0 0 (.slice none 0 0) (.slice none 0 0)) (t:=48) c1;exact Rn.runs 6 _ (Rn.ends rfl (.inr ⟨_,rfl⟩) (Rn.now ⟨_,_,w.heap.size,_,_,⟨w1.heap.size,0,none⟩, .int .i64 1,rfl,hF.defers,hF.slot 2 _ rfl,(cn (cy d2 d3 d_)).trans d2,rfl,hF.slot 3 _ rfl,(aK (co d3) 0).trans rfl,_,rfl,0,0,1,none,0,0,none,0,0,[],[],rfl, .inr ⟨hno,rfl⟩,(B4.trans (cM (a36 _))).trans (cM o_),λe=>by cases e⟩))
  |true=>
   have hF:aW [(0,(.slice (some ⟨cb,off,none⟩) 85 q:Value)),(2, .pt w.heap.size),(3, .pt w1.heap.size),(4, .int .i64 s),(6, .int .i64 le)] 56 [] a:=hF.only ⟨rfl,rfl,rfl,rfl,rfl,trivial⟩;refine Rn.p rfl (Rn.p rfl ?_);refine Rj hF λa w5 b7 bu bh b5 l7 lu lh c7 cu ch hF=> ?_;have B5:=aB B4 B4.size b5;have c1:=bk b5 c1;have c2:=bk b5 c2;have z5:=b5.size;have lt7:=bH c7;have ltu:=bH cu;have lth:=bH ch;refine Rn.uc hF λa hF=> ?_;refine Rn.cw hF Lf.func50 (zL (.slice (some ⟨cb,off,none⟩) 85 q:Value) rfl w5) λw6 hw6 a hF=> ?_;have b6:Bw w5 w6:=(by rw[hw6];exact aZ _ _);have c6:w6.heap[w5.heap.size]?=some (.cells #[(.slice (some ⟨cb,off,none⟩) 85 q:Value)] 22):=(by rw[hw6];exact bJ _ _);have z6:w6.heap.size=w5.heap.size+1:=(by rw[hw6];exact aQ _ _);clear hw6;have B6:=aB B5 B5.size b6;have c1:=bk b6 c1;have c2:=bk b6 c2;have c7:=bk b6 c7;have cu:=bk b6 cu;have ch:=bk b6 ch;refine Rn.p rfl (Rn.p rfl ?_);refine Rn.rangeAs (u5 Tryz.f36 a.tmps w6.heap.size .ready none) (args:=[.func (.yield (w6.heap.size+1)) #[] #[], .pk w5.heap.size 0].toArray) rfl rfl Lf.func61 k_ k_ (hF.get (d:=36) rfl) rfl ?_;have hC:Cr w w.heap.size w1.heap.size b7 bu bh w5.heap.size (w6.heap.size+1) w6.heap.size (u5 Tryz.f36 a.tmps w6.heap.size .ready none) (.slice (some ⟨cb,off,none⟩) 85 q:Value) s le 0 (js W 0) (jM W 0) (cT w6 (u5 Tryz.f36 a.tmps w6.heap.size .ready none)):=
    ⟨aB B6 B6.size (fZ w6 _),⟨_,rfl,(bK w6 _ o_).trans c1⟩,(bK w6 _ o_).trans c2,(bK w6 _ o_).trans c7,(bK w6 _ o_).trans cu,(bK w6 _ o_).trans ch,(bK w6 _ o_).trans c6,eN w6 _,eM w6 _,⟨o_,o_,o_,o_,o_⟩,o_⟩
   revert hC;generalize cT w6 (u5 Tryz.f36 a.tmps w6.heap.size .ready none)=w8;intro hC;rw[aV (N:=21) _ Lf.func61 OY rfl];have hH1:=aN [.func (.yield (w6.heap.size+1)) #[] #[], .pk w5.heap.size 0] 21 s_;revert hH1;generalize (Act.mk (([.func (.yield (w6.heap.size+1)) #[] #[], .pk w5.heap.size 0]:List Value).toArray++Array.replicate (21-([.func (.yield (w6.heap.size+1)) #[] #[], .pk w5.heap.size 0]:List Value).toArray.size) undef) [])=gg;intro hG;refine Rn.uc hG λgg hG=> ?_;refine Rn.p rfl (Rn.p rfl (Rn.p rfl ?_));have hT:aW [(2, .pt w.heap.size),(3, .pt w1.heap.size),(7, .pt b7)] 56 [] a:=hF.only ⟨rfl,rfl,rfl,trivial⟩;have hD:aW [(2, .pt w.heap.size),(3, .pt w1.heap.size),(7, .pt b7)] 56 [{target:= .collected w6.heap.size,args:=#[]}] ⟨a.tmps,{target:= .collected w6.heap.size,args:=#[]}::a.defers⟩:=⟨by rw[hF.defers],hF.size,hT.slot⟩;have far:∀(w9:World) {b:Nat} {ob:Obj},b≠w6.heap.size->w9.heap[b]?=some ob->({w9 with heap:=w9.heap.setIfInBounds w6.heap.size (.deferred none)}:World).heap[b]?=some ob:=λw9 b ob hb h=>(sN (LZ hb)).trans h;refine QX (T:=a.tmps) (w0:=w) h85 hW hr ⟨rfl,hT.size,hT.slot⟩ (λhall w9 hC9=> ?_) (λhall U H w9 hC9 hz=> ?_) _ 0 gg w8 rfl o_ (λj hj=>o_) (hG.only ⟨rfl,rfl,rfl,trivial⟩) hC
   ·show Rn (aI true Tryz.prog) _ ((base 36).atR ⟨a.tmps,{target:= .collected w6.heap.size,args:=#[]}::a.defers⟩ (.endRangeFunc (w6.heap.size+1)::_)) cs w9;revert hD;generalize (Act.mk a.tmps ({target:= .collected w6.heap.size,args:=#[]}::a.defers))=a2;intro hF;refine Rn.rangeOver hC9.loop rfl rfl ?_;have hC10:=hC9.turn (u5 Tryz.f36 a.tmps w6.heap.size .exhausted none);revert hC10;show Cr _ _ _ _ _ _ _ _ _ _ _ _ _ _ _ _ (bP w9 (w6.heap.size+1) {u5 Tryz.f36 a.tmps w6.heap.size .ready none with state:= .exhausted})->_;generalize bP w9 (w6.heap.size+1) {u5 Tryz.f36 a.tmps w6.heap.size .ready none with state:= .exhausted}=w10;intro hC10;obtain⟨c,hc4,hc⟩:=hC10.res;refine Rn.vv hF (λo ho=>zA ho (hF.get (d:=7) rfl) hC10.fus) λa hF=> ?_;refine Rn.nn hF (λo ho=>vO ho (hF.get (d:=2) rfl) (hF.get (d:=55) rfl) hc hc4) λa hF=> ?_;have hC11:=hC10.setR (ik s le (.sk bu 4 4) (.sk bh 4 4)) rfl;have d2:=co (cs:=ik s le (.sk bu 4 4) (.sk bh 4 4)) (t:=48) hc;refine Rn.nn hF (λo ho=>fD (v:= .int .i64 0) rfl rfl k_ ho (hF.get (d:=3) rfl) rfl hC11.err (d_:0<1)) λa hF=> ?_;have hC12:=hC11.setE 0;have d2:=(cn (cs:=#[.int .i64 0]) (t:=34) (cy d2 hC11.err d_)).trans d2;refine Rn.p rfl (Rn.ends rfl (.inr ⟨_,rfl⟩) (Rn.take (ds:=[]) hF.defers hC12.list (Rn.now ⟨⟨a.tmps,[]⟩,_,w.heap.size,_,_,⟨w1.heap.size,0,none⟩, .int .i64 0,rfl,rfl,hF.slot 2 _ rfl,far _ o_ d2,rfl,hF.slot 3 _ rfl,(aK (far _ o_ hC12.err) 0).trans rfl,_,rfl,s,le,0,_,_,_,_,_,_,lg W,qk W,rfl, .inl ⟨?_,rfl,hs hst,hle hls,rfl,rfl⟩,hC12.old.trans (fN _ _ o_),λ_=>⟨bu,bh,rfl,rfl,rfl,rfl,rfl,rfl,far _ o_ hC12.us,far _ o_ hC12.hs⟩⟩)));rw[p8,hst,hls,hall];rfl
   ·show Rn (aI true Tryz.prog) _ ((base 36).atR ⟨a.tmps,{target:= .collected w6.heap.size,args:=#[]}::a.defers⟩ (.endRangeFunc (w6.heap.size+1)::_)) cs w9;revert hD;generalize (Act.mk a.tmps ({target:= .collected w6.heap.size,args:=#[]}::a.defers))=a2;intro hF;refine Rn.rangeQuit hC9.loop rfl rfl ?_;have hC10:=hC9.turn (u5 Tryz.f36 a.tmps w6.heap.size .exhausted (some .ret));have hz10:=(bD w9 (u5 Tryz.f36 a.tmps w6.heap.size .exhausted (some .ret)) (gz hz hC9.loop)).trans hz;refine Rn.ends rfl (.inr ⟨_,rfl⟩) (Rn.take (ds:=[]) hF.defers hC10.list (Rn.now ⟨⟨a2.tmps,[]⟩,_,w.heap.size,_,_,⟨w1.heap.size,0,none⟩, .int .i64 1,rfl,rfl,hF.slot 2 _ rfl,far _ o_ hz10,rfl,hF.slot 3 _ rfl,(aK (far _ o_ hC10.err) 0).trans rfl,_,rfl,0,0,1,none,0,0,none,0,0,[],[],rfl, .inr ⟨?_,rfl⟩,hC10.old.trans (fN _ _ o_),λe=>by cases e⟩));rw[p8,hst,hls,hall];rfl
def JQ(n:Nat):List Int:=C2 n 0
section
variable{y z:Operand}
theorem KR{p:Option Addr}{c:Nat}(a:o.op= .build 82 #[(0,x)])(b:ev x= .slice p l c):(execOp ev o).run lT w= .ok (.value (.agg (kf (.slice p l c) (JQ 85) (JQ 16) false 0))) w:=by
 have e:execOp ev o=(do pure (.value (←C9 82 #[(0, .slice p l c)]))):=by simp[execOp,a,b]
 have d:(do pure (.value (←C9 82 #[(0, .slice p l c)])):Sem Next).run lT w= .ok (.value (.agg (kf (.slice p l c) (JQ 85) (JQ 16) false 0))) w:=k_
 rw[e,d]
theorem NH{a:Nat}(b:o.op= .build 61 #[(0,x)])(c:ev x= .pk a 0):(execOp ev o).run lT w= .ok (.value (.agg #[.pk a 0])) w:=by
 have e:execOp ev o=(do pure (.value (←C9 61 #[(0, .pt a)]))):=by simp[execOp,b,c]
 have d:(do pure (.value (←C9 61 #[(0, .pt a)])):Sem Next).run lT w= .ok (.value (.agg #[.pk a 0])) w:=k_
 rw[e,d]
theorem KN(a:o.op= .slice 78 x none none none)(c:ev x= .pk b 86):(execOp ev o).run lT w= .ok (.value (.slice (some ⟨b,86,none⟩) 16 16)) w:=by
 have e:execOp ev o=(do pure (.value (←JR 78 (.pk b 86) none none none))):=by simp only[execOp,a,c];rfl
 have d:(do pure (.value (←JR 78 (.pk b 86) none none none)):Sem Next).run lT w= .ok (.value (.slice (some ⟨b,86,none⟩) 16 16)) w:=k_
 rw[e,d]
theorem Ns{m:Sem Value}(h:m.run P w= .ok v w'):(do pure (.value (←m)):Sem Next).run P w= .ok (.value v) w':=by simp[h]
theorem J6{g off cap:Nat}{fl:Value}{c W K:List Int}{on:Bool}{sl:Int}(i:c.length=85)(a:W.length=85)(l:w.heap[b]?=some (.cells (kf fl c K on sl) t))(q:w.rangeAt g off (W.map (Value.int .i64)))(f:o.op= .call {callee:= .builtin .copy,args:=#[.tmp k, .tmp j],argTypes:=#[22,22]})(n:ev (.tmp k)= .slice (some ⟨b,1,none⟩) 85 85)(m:ev (.tmp j)= .slice (some ⟨g,off,none⟩) 85 cap):
 (execOp ev o).run lT w= .ok (.value (.i 85)) (gy w b (kf fl W K on sl) t):=by
 have e:execOp ev o=(do pure (.value (←W4 #[22,22] o.type #[.slice (some ⟨b,1,none⟩) 85 85, .slice (some ⟨g,off,none⟩) 85 cap]))):=by simp[execOp,f,resolve,n,m,invoke,builtin]
 have p:(kf fl c K on sl).toList.take 1++W.map (Value.int .i64)++(kf fl c K on sl).toList.drop (1+(W.map (Value.int .i64)).length)=(kf fl W K on sl).toList:=by simp only[kf,VF,a];rw[show 1+85=85+1 from rfl,YU,YV,List.drop_append_of_le_length (by simp[i]),Xm (by simp[i])];simp
 have h:=run_copy_row (P:=aI true tP) w 22 22 o.type 3 b 1 85 85 ⟨g,off,none⟩ 85 cap _ t (W.map (Value.int .i64)) k_ k_ l (by simp[a]) (λj v d=>by rw[CH];exact q j v d) (by simp[kf,i,a]) (by intro v d;obtain⟨_,_,rfl⟩:=VJ.1 d;rfl);rw[p,YP,iq l]at h;rw[e,Ns h,VF,a];rfl
theorem LJ{fl:Value}{W K:List Int}{on:Bool}{sl:Int}(a:W.length=85)(g:K.length=16)(hs:s.size=16)(l:w.heap[b]?=some (.cells (kf fl W K on sl) t))(d:o.op= .call {callee:= .builtin .copy,args:=#[.tmp k, .tmp j],argTypes:=#[62,9]})(p:ev (.tmp k)= .slice (some ⟨b,86,none⟩) 16 16)(n:ev (.tmp j)= .s s):
 (execOp ev o).run lT w= .ok (.value (.i 16)) (gy w b (kf fl W (s.data.toList.map λb=>(b.toNat:Int)) on sl) t):=by
 have e:execOp ev o=(do pure (.value (←W4 #[62,9] o.type #[.slice (some ⟨b,86,none⟩) 16 16, .s s]))):=by simp[execOp,d,resolve,p,n,invoke,builtin]
 have f:s.data.toList.length=16:=by rw[LO];exact hs
 have q:lT.underlying 62=some (.slice 5):=k_
 have m:(sizeOf 5).run lT w= .ok 1 w:=k_
 have r:List.take 16 (List.map (λb=>Value.int .u8 b.toNat) s.data.toList)=List.map (λb=>Value.int .u8 b.toNat) s.data.toList:=LP (by rw[VF,f];exact a36 _);have c:(kf fl W K on sl).toList.take (86+0)++(s.data.map λb=>Value.int .u8 b.toNat).toList++(kf fl W K on sl).toList.drop (86+0+(s.data.map λb=>Value.int .u8 b.toNat).toList.length)=(kf fl W (s.data.toList.map λb=>(b.toNat:Int)) on sl).toList:=by simp only[kf,Oj,VF,f];rw[show 86+0+16=101+1 from rfl,show 86+0=85+1 from rfl,YU,YV,List.take_append_of_le_length (by simp[a]),LP (by simp[a]),Zu,Xm (by simp[a]),Zu,Xm (by simp[a,g])];simp[a,g]
 have h:=run_storeCells_at lT b 86 t (s.data.map λb=>Value.int .u8 b.toNat).toList 0 _ w l (by simp[kf,a,g,f]) (by intro v i;rw[Oj]at i;obtain⟨_,_,rfl⟩:=VJ.1 i;rfl);rw[c,YP,iq l,Oj]at h;rw[e];simp[W4,run_underlying q,Builtin.lenOf,Builtin.firstCells,m,hs,r,h,goInt]
end
theorem P3:Tryz.f41.body=some (.seq (rG Tryz.f41 0) (.seq (.seq (rG Tryz.f41 1) (.cond (.tmp 16) (.seq (rG Tryz.f41 2) .ret) .skip)) (.seq (rG Tryz.f41 3) (.seq (rG Tryz.f41 4) (.seq (rG Tryz.f41 5) (.seq (rG Tryz.f41 6) .ret)))))):=k_
theorem P6:Tryz.f29.body=some (.seq (rG Tryz.f29 0) (.seq (rG Tryz.f29 1) (.seq (.seq (rG Tryz.f29 2) (.cond (.tmp 18) (.seq (rG Tryz.f29 3) .ret) .skip)) (.seq (rG Tryz.f29 4) .ret)))):=k_
section
variable{W:List Int}{L kp:ByteArray}{g off cap:Nat}
theorem Ib(z:L.size=16384)(k:kp.size=16)(r:gD W)(J:w.rangeAt g off (W.map (Value.int .i64))):Calls lT 41 #[.s L, .slice (some ⟨g,off,none⟩) 85 cap, .s kp] w λe w'=>∃v,e= .returned v/\∃C fl,v= .tuple #[.pk C 0, .i 0]/\dB w' C fl W false 0/\j9 w' fl L/\(w.heap.size<=C/\uV w.heap.size fl)/\Bw w w':=by
 refine i8 (t:=6) (u:=7) Lf.func41 rfl λcs=> ?_;rw[aV (N:=34) [.s L, .slice (some ⟨g,off,none⟩) 85 cap, .s kp] Lf.func41 P3 rfl];have c:=aN [.s L, .slice (some ⟨g,off,none⟩) 85 cap, .s kp] 34 s_
 iterate 3 refine Rn.uc c λa c=> ?_
 refine Rn.cw c Lf.func47 (AX r g off cap w J) λw' O a c=> ?_;rw[O]
 iterate 4 refine Rn.uc c λa c=> ?_
 rw[k]at c;refine Rn.uc c λa c=> ?_;refine Rn.vv c (λo h=>i0 h (c.G 12) (c.G 15)) λa c=> ?_;refine Rn.p rfl (Rn.cond _ (c.G 16) ?_);refine Rn.uc c λa c=> ?_;refine Rn.vv c (λo h=>Nz h (c.G 17)) λa c=> ?_;have f:L.size<=grownCap w L.size 0 5:=grownCap_ge w L.size 0 5;revert c f;generalize grownCap w L.size 0 5=d;intro c f;have n:Bw w (w.drew.alloc (.cells (bytesRow L d) 5 ((bytesRow L d).size,(bytesRow L d).size+1))):=(jS w).trans (aZ w.drew _);have s:=bJ w.drew (.cells (bytesRow L d) 5 ((bytesRow L d).size,(bytesRow L d).size+1));have G:(w.drew.alloc (.cells (bytesRow L d) 5 ((bytesRow L d).size,(bytesRow L d).size+1))).heap.size=w.heap.size+1:=aQ w.drew _;rw[show w.drew.heap.size=w.heap.size from rfl]at s;rw[z]at c f;have B:j9 (w.drew.alloc (.cells (bytesRow L d) 5 ((bytesRow L d).size,(bytesRow L d).size+1))) (.sk w.heap.size 16384 d) L:=⟨z,w.heap.size,d,_,_,rfl,f,s,by
  have V:L.data.size=16384:=z;simp[bytesRow];omega,λj K=>by
  have y:j<L.data.size:=by rw[LO]at K;exact K
  rw[bytesRow_at L d j y,Array.getElem_toList]⟩
 revert n s G B;generalize w.drew.alloc (.cells (bytesRow L d) 5 ((bytesRow L d).size,(bytesRow L d).size+1))=m;intro n s G B;refine Rn.vv c (λo h=>KR h (c.G 18)) λa c=> ?_;refine Rn.zz c λq a F E U c=> ?_;have T:=B.keep (Ex.of_below (X:=λ_=>False) F) (λ_ _ _ _ e=>e);have M:=(λj v P=>cG (aB n n.size F) (J j v P):q.rangeAt g off (W.map (Value.int .i64)))
 iterate 4 refine Rn.uc c λa c=> ?_
 refine Rn.vv c (λo h=>xV h (c.G 23)) λa c=> ?_;refine Rn.uc c λa c=> ?_;refine Rn.vv c (λo h=>J6 (by simp[JQ]) r.1 E M h (c.G 24) (c.G 25)) λa c=> ?_;have D:=co (cs:=kf (.sk w.heap.size 16384 d) W (JQ 16) false 0) (t:=82) E;have I:=dQ (w:=q) m.heap.size (kf (.sk w.heap.size 16384 d) W (JQ 16) false 0) 82;have S:=T.keep I λb cs A l=>iE E d_ b cs A l
 iterate 3 refine Rn.uc c λa c=> ?_
 refine Rn.vv c (λo h=>KN h (c.G 29)) λa c=> ?_;refine Rn.uc c λa c=> ?_;refine Rn.vv c (λo h=>LJ r.1 (by simp[JQ]) k D h (c.G 30) (c.G 31)) λa c=> ?_;have H:=dQ (w:=gy q m.heap.size (kf (.sk w.heap.size 16384 d) W (JQ 16) false 0) 82) m.heap.size (kf (.sk w.heap.size 16384 d) W (kp.data.toList.map λb=>(b.toNat:Int)) false 0) 82;have R:=S.keep H λb cs A l=>iE D d_ b cs A l
 iterate 3 refine Rn.uc c λa c=> ?_
 have x:kp.data.toList.length=16:=by rw[LO];exact k
 have p:Ex (λ_=>False) w (gy (gy q m.heap.size (kf (.sk w.heap.size 16384 d) W (JQ 16) false 0) 82) m.heap.size (kf (.sk w.heap.size 16384 d) W (kp.data.toList.map λb=>(b.toNat:Int)) false 0) 82):=((Ex.of_below (aB n n.size F)).trans I λb l e=>o_).trans H λb l e=>o_
 refine Rn.fj c ⟨_,rfl,m.heap.size,_,rfl,⟨r.1,_,by simpa using x,λi Q=> ?_,co D⟩,R,⟨o_,_,_,_,rfl,a36 _⟩,⟨p.os,p.tape,p.output,p.size,λb l=>p.block b l λe=>e⟩⟩;rw[List.getElem_map];have:=(kp.data.toList[i]'(by simpa using Q)).toNat_lt;omega
theorem Ia(q:L.size=16384)(d:kp.size=16)(p:gD W)(m:w.rangeAt g off (W.map (Value.int .i64))):Calls lT 29 #[.s L, .slice (some ⟨g,off,none⟩) 85 cap, .s kp] w λe w'=>∃v,e= .returned v/\∃i c fl,v= .tuple #[.pk i 0, .i 0]/\w'.heap[i]?=some (.cells #[.pk c 0] 61)/\dB w' c fl W false 0/\j9 w' fl L/\(w.heap.size<=c/\uV w.heap.size fl)/\Bw w w':=by
 refine i8 (t:=6) (u:=7) Lf.func29 rfl λA=> ?_;rw[aV (N:=23) [.s L, .slice (some ⟨g,off,none⟩) 85 cap, .s kp] Lf.func29 P6 rfl];have b:=aN [.s L, .slice (some ⟨g,off,none⟩) 85 cap, .s kp] 23 s_
 iterate 5 refine Rn.uc b λa b=> ?_
 refine Rn.cl b Lf.func41 (Ib q d p m) λv k l a b=> ?_;obtain⟨c,fl,rfl,r,s,f,j⟩:=l
 iterate 7 refine Rn.uc b λa b=> ?_
 refine Rn.p rfl (Rn.cond _ (b.G 18) ?_);refine Rn.uc b λa b=> ?_;refine Rn.vv b (λo n=>NH n (b.G 20)) λa b=> ?_;refine Rn.zz b λz a h x y b=> ?_
 iterate 2 refine Rn.uc b λa b=> ?_
 exact Rn.fj b ⟨_,rfl,k.heap.size,c,fl,rfl,x,r.ex (Ex.of_below (X:=λ_=>False) h) (λe=>e),s.keep (Ex.of_below (X:=λ_=>False) h) (λ_ _ _ _ e=>e),f,aB j j.size h⟩
end
theorem C1{y:Operand}(a:o.op= .binOp .eql 33 x y u)(d:ev x= .pk b 0)(c:ev y= .pointer none):(execOp ev o).run lT w= .ok (.value (.bool false)) w:=by
 have e:execOp ev o=(do pure (.value (←(do eqGuard .eql 33 x y (.pk b 0) (.pointer none);binOp .eql 33 (.pk b 0) (.pointer none))))):=by simp only[execOp,a,d,c]
 have f:(do pure (.value (←(do eqGuard .eql 33 x y (.pk b 0) (.pointer none);binOp .eql 33 (.pk b 0) (.pointer none)))):Sem Next).run lT w= .ok (.value (.bool false)) w:=k_
 rw[e,f]
theorem OS:Tryz.f15.body=some (.seq (rG Tryz.f15 0) (.seq (rG Tryz.f15 1) (.seq (.seq (rG Tryz.f15 2) (.cond (.tmp 25) (.seq (rG Tryz.f15 3) .ret) .skip)) (.seq (rG Tryz.f15 4) (.seq (rD Tryz.f15 5) .ret))))):=k_
section
variable{W:List Int}{L kp:ByteArray}{g off cap:Nat}
theorem Tv(hrd:rJ)(hKl:KS.length=64)(hL:L.size=16384)(hkp:kp.size=16)(hW:gD W)(hr:w.rangeAt g off (W.map (Value.int .i64)))(h0:0<w.heap.size)(hK:w.rangeAt 0 0 (aH KS))(cs:List Frame):Rn (aI true Tryz.prog) (λg w'=>∃(a:Act) (k:List Item) (bk:Nat) (cells:Array Value) (tt:TypeId) (x:Value),g=gB {(base 15).atR a k with mode:= .returning} cs/\a.defers=[]/\a.tmps[9]?=some (.pk bk 0)/\w'.heap[bk]?=some (.cells cells tt)/\cells.size=5/\a.tmps[8]?=some x/\∃v,Vg (.tuple #[x, .agg cells])= .returned v/\∃lb cb fl j s n c,v= .tuple #[.pk lb 0, .agg (cH 1 j s n c)]/\w'.heap[lb]?=some (.cells #[.pk cb 0] 61)/\ia KS W L fl cb j s n c w'/\(w.heap.size<=cb/\uV w.heap.size fl)/\Bw w w') (a49 (aI true Tryz.prog) 15 #[.string L, .slice (some ⟨g,off,none⟩) 85 cap, .string kp, .slice none 0 0] .normal) cs w:=by
 rw[aV (N:=32) [.string L, .slice (some ⟨g,off,none⟩) 85 cap, .string kp, .slice none 0 0] Lf.func15 OS rfl];have hF:=aN [.string L, .slice (some ⟨g,off,none⟩) 85 cap, .string kp, .slice none 0 0] 32 s_;refine Rn.uc hF λa hF=> ?_;refine Rn.al hF (λo ho=>iB ho) λw1 a b1 c1 z1 hF=> ?_;have r1:w1.rangeAt g off (W.map (Value.int .i64)):=λj v hv=>cG b1 (hr j v hv)
 iterate 3 refine Rn.uc hF λa hF=> ?_
 refine Rn.cl hF Lf.func29 (Ia (cap:=cap) hL hkp hW r1) λv w2 hv a hF=> ?_;obtain⟨lb,cb,fl,rfl,l2,h2,f2,⟨hcb,hfl⟩,b2⟩:=hv;have B2:=aB b1 b1.size b2;have c2:=bk b2 c1;have z2:=b2.size;have hK2:=eD (Ex.of_below (X:=λ_=>False) B2) (λe=>e) h0 hK
 iterate 6 refine Rn.uc hF λa hF=> ?_
 refine Rn.vv hF (λo ho=>C1 ho (hF.get (d:=20) rfl) rfl) λa hF=> ?_
 iterate 3 refine Rn.uc hF λa hF=> ?_
 refine Rn.vv hF (λo ho=>i0 ho (hF.get (d:=22) rfl) (hF.get (d:=24) rfl)) λa hF=> ?_;refine Rn.p rfl (Rn.cond _ (hF.get (d:=25) rfl) ?_)
 iterate 2 refine Rn.uc hF λa hF=> ?_
 refine Rn.cl hF Lf.func16 (xa hrd hKl h2 hW f2 o_ hK2 l2) λv w3 hv a hF=> ?_;obtain⟨j,s,n,c,rfl,hR,x3⟩:=hv;have hl2:=h2.lt;have c3:=x3.at o_ c2;have l3:=x3.at (λe=>by obtain⟨_,K,_,_,hc⟩:=h2;rw[e,hc]at l2;injection l2 with l2;injection l2 with _ l2;cases l2) l2
 have z3:=x3.size;refine Rn.al hF (λo ho=>iB ho) λw4 a b4 c4 z4 hF=> ?_;refine Rn.nn hF (λo ho=>gf ho (hF.get (d:=12) rfl) (hF.get (d:=29) rfl) c4 rfl) λa hF=> ?_;have x5:=dQ (w:=w4) w3.heap.size (cH 1 j s n c) 36;have o5:=co (w:=w4) (cs:=cH 1 j s n c) (t:=36) c4;have c5:=x5.at o_ (bk b4 c3);have ll:=bH l3;have l5:=x5.at o_ (bk b4 l3);have lc:=hR.ch.lt;have h5:=(hR.ch.ex (Ex.of_below (X:=λ_=>False) b4) (λe=>e)).ex x5 o_;have f5:=(hR.fls.keep (Ex.of_below (X:=λ_=>False) b4) (λ_ _ _ _ e=>e)).keep x5 λb cs fr hb=>iE c4 d_ b cs fr hb;have X5:Ex (λ_=>False) w (gy w4 w3.heap.size (cH 1 j s n c) 36):=(((Ex.of_below B2).trans x3 λb hb e=>o_).trans (Ex.of_below (X:=λ_=>False) b4) λ_ _ e=>e).trans x5 λb hb e=>o_
 revert o5 c5 l5 h5 f5 X5;generalize gy w4 w3.heap.size (cH 1 j s n c) 36=w5;intro o5 c5 l5 h5 f5 X5;have hF:aW [(9, .pt w.heap.size),(10, .pt lb),(12, .pt w3.heap.size)] 32 [] a:=hF.only ⟨rfl,rfl,rfl,trivial⟩;refine Rn.p rfl (Rn.p rfl ?_);refine Rn.tab1 (R:=λa w'=>∃w6,Bw w5 w6/\w'=gy w6 w.heap.size (cH 1 j s n c) 36/\aW [(8, .pt lb),(9, .pt w.heap.size)] 32 [] a) (λa w' hw=> ?_) hF
  [(30, .pt lb),(31, .agg (cH 1 j s n c)),(8, .pt lb)] [30,8] [(31, .agg (cH 1 j s n c)),(8, .pt lb)]
  ⟨λz=>dv (zy z.qq zx (bk z.b o5)),trivial⟩ (λa w' rest hb hF hgo=> ?_)
 ·obtain⟨w6,b6,rfl,hF⟩:=hw;have x7:=dQ (w:=w6) w.heap.size (cH 1 j s n c) 36;have c6:=bk b6 c5;have s5:=X5.size;have s6:=b6.size;have lc5:=h5.lt;have ll5:=bH l5;have X7:=(X5.trans (Ex.of_below (X:=λ_=>False) b6) λ_ _ e=>e).trans x7 λb hb e=>o_
  have hlb:lb≠w.heap.size:=λe=>by rw[e,c5]at l5;injection l5 with l5;injection l5 with _ l5;cases l5
  exact Rn.ends rfl (.inr ⟨_,rfl⟩) (Rn.now ⟨_,_,w.heap.size,_,_,_,rfl,hF.defers,hF.slot 9 _ rfl,co c6,rfl,hF.slot 8 _ rfl,_,rfl,lb,cb,fl,j,s,n,c,rfl,x7.at hlb (bk b6 l5),⟨hR.step,(h5.ex (Ex.of_below (X:=λ_=>False) b6) (λe=>e)).ex x7 o_,(f5.keep (Ex.of_below (X:=λ_=>False) b6) (λ_ _ _ _ e=>e)).keep x7 λb cs fr hb=>iE c6 d_ b cs fr hb⟩,⟨o_,hfl.mono o_⟩,⟨X7.os,X7.tape,X7.output,X7.size,λb hb=>X7.block b hb λe=>e⟩⟩)
 ·exact Rn.does0 hF (.store 36 (.tmp 9) (.tmp 31)) k_ s_ (λo ho=>gf ho (hF.get (d:=9) rfl) (hF.get (d:=31) rfl) (bk hb c5) rfl) λa hF=>hgo a _ ⟨w',hb,rfl,hF.only ⟨rfl,rfl,trivial⟩⟩
end
end L1
section
open Go
@[simp] theorem Lf.func9:(aI q tP).funcs[9]?=some Tryz.f9:=aM Tryz.func9 d_ rfl rfl k_
end
section
open Go.RowKit
theorem AN(s:ByteArray):dP [s] 1=s.data.toList:=by simp[dP]
theorem HT(x n:Int)(a:0<n)(b:x<0):0<= -((x+1).tmod n)/\ -((x+1).tmod n)<n:=by rw[←Int.neg_tmod,Int.tmod_eq_emod_of_nonneg o_];exact⟨ZI _ o_,Z7 _ a⟩
end
namespace L1
open Go.RowKit
theorem fv(KS:List Int)(s:ByteArray)(w:World)(i:w.rangeAt 0 0 (aH KS))(d:KS.length=64)(b:s.size<=576460752303423488):
 Calls lT 13 #[.s s] w λe w'=>e= .returned (.string ⟨(ip KS s.data.toList).toArray⟩)/\Bw w w':=by
 have g:(dP [s] [s].length).length<=576460752303423488:=by show(dP [s] 1).length<=_;rw[AN,LO];exact b
 have a:=Cd (ql:=true) KS [s] 1 (w.alloc (.cells #[.s s] 9)) w.heap.size s_ (λk h=>by
  have j:k=0:=by simpa using h
  subst j;rw[World.cell?_alloc_at _ _ _ _ rfl];rfl) (World.rangeAt_alloc i _) d g s_
 have f:Hid (Calls _ _ _ _ _):=a;clear a i g
 go_enter Lf.func13,Tryz.ntmps13
 go_wp2_with fail
 refine f.out.mono ?_;rintro e l ⟨rfl,c⟩
 go_wp2
 go_ret
 exact⟨by show Vg (.string ⟨(ip KS (dP [s] 1)).toArray⟩)=_;rw[AN],((bR).alloc (a36 _) _).trans (c.mono s_)⟩
theorem iY(x n:Int)(w:World)(a:0<n)(c: -9223372036854775808<=x)(b:x<=9223372036854775807):
 Calls lT 9 #[.i x, .i n] w λe w'=>(∃v:Int,e= .returned (.i v)/\0<=v/\v<n)/\w'=w:=by
 go_enter Lf.func9,Tryz.ntmps9
 go_wp2
 ·go_ret
  exact⟨⟨_,rfl,HT x n a ‹_›⟩,rfl⟩
 ·go_ret
  exact⟨⟨_,rfl,ZI _ o_,Z7 _ a⟩,rfl⟩
end L1
namespace L1
open Go.Conc Go.RowKit
section
variable{y z:Operand}
theorem Il(d:n<=100000)(a:o.op= .makeSlice 62 x y)(c:ev x= .i n)(b:ev y= .i n):(execOp ev o).run lT w= .ok (.value (.sk w.heap.size n n)) (w.alloc (.cells (C2 n (Value.int .u8 0)).toArray 5)):=by
 have h:=run_make_row' (P:=lT) 62 5 (Value.int .u8 0) 1 k_ k_ rfl .i64 .i64 n o_ o_ w;rw[fp]at h;have e:execOp ev o=(do pure (.value (←Po 62 (.i n) (.i n)))):=by simp only[execOp,a,c,b]
 rw[e];exact o7 h
theorem oa(a:o.op= .binOp .sub 3 x y t)(c:ev x= .i m)(b:ev y= .i n)(h:n<=m)(d:m<9223372036854775808):(execOp ev o).run lT w= .ok (.value (.i ((m- n:Nat):Int))) w:=by
 have e:A8.wrap ((m:Int)-(n:Int))=((m- n:Nat):Int):=by rw[a5_];omega
 simp[execOp,a,c,b,go_sem,e]
theorem Hs{g a cap:Nat}(b:o.op= .indexAddr 62 x y)(d:ev x= .sk g a cap)(c:ev y= .i n)(f:n<a):eX ev o w (.pk g n):=by
 have:=(eA (ql:=true) (w:=w) (t:=62) (e:=5) k_ (λw=>k_) b d c f).1
 rwa [CH,a46]at this
end
def V9(f:Func):Code:= .seq (.seq (rG f 3) (.cond (.tmp 11) .skip (.exit 0))) (.seq (.block 1 (rG f 5)) (rG f 4))
def MF(f:Func):Code:= .seq (rG f 6) .ret
theorem Ro:Tryz.f23.body=some (.seq (rG Tryz.f23 0) (.seq (rG Tryz.f23 1) (.seq (.seq (rG Tryz.f23 2) (.block 0 (.loop (V9 Tryz.f23)))) (MF Tryz.f23)))):=k_
section
variable{gb v:Nat}
theorem Ni(r:n<=8)(q:w0.heap.size<=gb)
 (g:∀a w',Bw w0 w'->aW [(4, .string ⟨(cQ v n).toArray⟩)] 27 [] a->Rn lT Goal ((base 23).atR a [.code .ret]) cs w'):
 ∀(m i:Nat) (a:Act) (w:World),n- i=m->i<=n->Bw w0 w->w.heap[gb]?=some (.cells (uC v n i).toArray 5)->aW [(0, .i v),(1, .i n),(5, .sk gb n n),(6, .i i)] 27 [] a->Rn lT Goal ((base 23).atR a [.code (V9 Tryz.f23), .inLoop (V9 Tryz.f23), .inBlock 0, .code (MF Tryz.f23)]) cs w:=by
 intro m;induction m with
 |zero=>
  intro i a w k f e d b;obtain rfl:i=n:=o_
  rw[Nk]at d
  iterate 3 refine Rn.uc b λa b=> ?_
  refine Rn.p rfl (Rn.cond _ (b.G 11) ?_);rw[decide_eq_false o_];have l:=cU i v;refine Rn.uc b λa b=> ?_;rw[show Value.sk gb i i= .sk gb (cQ v i).length i from by rw[l]]at b;refine Rn.vv b (λo c=>xN c (b.G 25) λj p=> ?_) λa b=> ?_
  ·rw[aK d];simp[bG,p]
  refine Rn.uc b λa b=> ?_;exact Rn.p rfl (g _ _ e (b.only ⟨rfl,trivial⟩))
 |succ m h=>
  intro i a w k f e d b
  iterate 3 refine Rn.uc b λa b=> ?_
  refine Rn.p rfl (Rn.cond _ (b.G 11) ?_);rw[decide_eq_true o_]
  iterate 4 refine Rn.uc b λa b=> ?_
  refine Rn.vv b (λo c=>oa (n:=1) c (b.G 17) rfl o_ o_) λa b=> ?_;refine Rn.uc b λa b=> ?_;refine Rn.vv b (λo c=>oa c (b.G 18) (b.G 19) o_ o_) λa b=> ?_;refine Rn.vv b (λo c=>ko (m:=8) c rfl (b.G 20) o_) λa b=> ?_;refine Rn.vv b (λo c=>xO c (b.G 16) (b.G 21) o_) λa b=> ?_;refine Rn.vv b (λo c=>tW c (b.G 22)) λa b=> ?_;refine Rn.vv b (λo c=>Hs c (b.G 14) (b.G 15) o_) λa b=> ?_;refine Rn.nn b (λo c=>fD rfl rfl k_ c (b.G 24) (b.G 23) d (by rw[Gh,EY v n i f];omega)) λa b=> ?_;rw[List.setIfInBounds_toArray,Nj v n i o_ _ (by rw[IntKind.wrap_u8];exact Qu v n i)]
  iterate 1 refine Rn.uc b λa b=> ?_
  refine Rn.vv b (λo c=>cS (n:=1) c (b.G 12) rfl o_) λa b=> ?_;refine Rn.uc b λa b=> ?_;exact Rn.p rfl (Rn.p rfl (h (i+1) _ _ o_ o_ (e.trans (cM q)) (co d) (b.only ⟨rfl,rfl,rfl,rfl,trivial⟩)))
theorem eI(v n:Nat)(g:n<=8)(w:World):Calls (aI true tP) 23 #[.int .i64 v, .int .i64 n] w λe w'=>e= .returned (.string ⟨(cQ v n).toArray⟩)/\Bw w w':=by
 refine aT (t:=4) Lf.func23 rfl λl=> ?_;rw[aV (N:=27) [.int .i64 v, .int .i64 n] Lf.func23 Ro rfl];have b:=aN [.int .i64 v, .int .i64 n] 27 s_
 iterate 2 refine Rn.uc b λa b=> ?_
 refine Rn.al b (λo f=>Il o_ f (b.get (d:=7) rfl) (b.get (d:=7) rfl)) λc a j i k b=> ?_
 iterate 2 refine Rn.uc b λa b=> ?_
 exact Rn.p rfl (Rn.p rfl (Rn.p rfl (Ni g (a36 _) (λa w' h b=>Rn.fi b ⟨rfl,h⟩) n 0 _ c rfl o_ j (by rw[TS];exact i) (b.only ⟨rfl,rfl,rfl,rfl,trivial⟩))))
end
def zeB(n:Nat):ByteArray:=⟨(C2 n (0:UInt8)).toArray⟩
theorem LW:Tryz.f26.body=some (.seq (rG Tryz.f26 0) (.seq (rG Tryz.f26 1) .ret)):=k_
theorem sc(w:World):Calls lT 26 #[] w λe w'=>e= .returned (.s (zeB 8192))/\Bw w w':=by
 refine aT (t:=0) Lf.func26 rfl λm=> ?_;rw[aV (N:=3) [] Lf.func26 LW rfl];have b:=aN [] 3 s_;refine Rn.uc b λa b=> ?_;refine Rn.al b (λo c=>Il (n:=8192) o_ c rfl rfl) λl a i h k b=> ?_;have f:(C2 8192 (0:UInt8)).length=8192:=List.length_replicate;rw[show Value.sk w.heap.size 8192 8192= .sk w.heap.size (C2 8192 (0:UInt8)).length 8192 from by rw[f]]at b;refine Rn.vv b (λo c=>xN c (b.G 1) λj g=> ?_) λa b=> ?_
 ·rw[aK h];have d:j<8192:=by rw[←f];exact g
  rw[List.getElem?_toArray,List.getElem?_replicate,if_pos d,List.getElem_replicate];rfl
 refine Rn.uc b λa b=> ?_;exact Rn.fi b ⟨rfl,i⟩
end L1
section
open Go.Conc Go.RowKit
def gR(id seed:ByteArray)(nb:Nat):Array Value:=#[.string id, .string seed, .sk nb 8 8]
def Ji:ByteArray:=⟨#[98,101,103,105,110]⟩
theorem GC:Ji.size=5:=rfl
def eq(KS:List Int)(b:ByteArray):ByteArray:=⟨(ip KS b.data.toList).toArray⟩
theorem aY(KS:List Int)(b:ByteArray):(eq KS b).size=32:=by show(ip KS b.data.toList).toArray.size=32;simp[ip]
def xF(KS:List Int)(id seed:ByteArray)(q i:Nat):ByteArray:=eq KS (id++ob q 4++ob i 2++Ji++seed)
def T2(KS:List Int)(pre:ByteArray):Nat->Nat->ByteArray->ByteArray
 |0,_,y=>y
 |n+1,j,y=>T2 KS pre n (j+1) (eq KS (pre++ob j 1++y))
theorem jO(KS:List Int)(a:ByteArray):∀(n j:Nat) (y:ByteArray),y.size=32->(T2 KS a n j y).size=32
 |0,_,_,h=>h
 |n+1,j,_,_=>jO KS a n (j+1) _ (aY _ _)
end
namespace L1
open Go.Conc Go.RowKit
section
variable{y z:Operand}
theorem gh(j:Nat)(f:j<3)(a:o.op= .fieldAddr 27 x j)(c:ev x= .pk b 0):(execOp ev o).run lT w= .ok (.value (.pk b j)) w:=by
 have e:execOp ev o=(do pure (.value (←a53 27 (.pk b 0) j))):=by simp only[execOp,a,c]
 have d:(do pure (.value (←a53 27 (.pk b 0) j)):Sem Next).run lT w= .ok (.value (.pk b j)) w:=by rcases(o_:j=0\/j=1\/j=2)with rfl|rfl|rfl<;>kernel_rfl
 rw[e,d]
theorem dl{id seed:ByteArray}{d:Nat}{e:TypeId}(a:o.op= .load 27 x)(f:ev x= .pk b 0)(c:w.heap[b]?=some (.cells (gR id seed d) e)):(execOp ev o).run lT w= .ok (.value (.agg (gR id seed d))) w:=by
 have g:(isAgg 27).run lT w= .ok true w:=k_
 have c:=aK c;simp[execOp,a,f,a47,loadVar,g,loadCells,loadCellsFrom,Addr.add,c,gR,go_sem]
theorem pP(f:m<256)(a:o.op= .convert 5 3 x)(b:ev x= .int .u8 m):(execOp ev o).run lT w= .ok (.value (.i m)) w:=by
 have d:lT.underlying 5=some (.int .u8):=k_
 have c:lT.underlying 3=some (.int .i64):=k_
 have e:A8.wrap (m:Int)=m:=by rw[a5_];omega
 simp[execOp,a,b,go_sem,d,c,e]
end
theorem LU:Tryz.f25.body=some (.seq (rG Tryz.f25 0) (.seq (rD Tryz.f25 1) .ret)):=k_
theorem P8:Tryz.f14.body=some (.seq (rG Tryz.f14 0) (.seq (rD Tryz.f14 1) .ret)):=k_
section
variable{id seed:ByteArray}{nb:Nat}
theorem vN(f:KS.length=64)(j:id.size=16)(d:seed.size<=140737488355328)(q i:Nat)(k:w.rangeAt 0 0 (aH KS))(l:0<w.heap.size):Calls lT 25 #[.agg (gR id seed nb), .i q, .i i] w λe w'=>e= .returned (.s (xF KS id seed q i))/\Bw w w':=by
 refine aT (t:=6) Lf.func25 rfl λr=> ?_;rw[aV (N:=20) [.agg (gR id seed nb), .i q, .i i] Lf.func25 LU rfl];have b:=aN [.agg (gR id seed nb), .i q, .i i] 20 s_;refine Rn.zz b λp a c g n b=> ?_;refine Rn.uc b λa b=> ?_;have b:aW [(1, .i q),(2, .i i),(3, .pt w.heap.size)] 20 [] a:=b.only ⟨rfl,rfl,rfl,trivial⟩;have h:=GC;refine Rn.p rfl (Rn.p rfl ?_);refine Rn.tabL b [(7, .pt w.heap.size),(8, .s id),(9, .i q),(10, .s (ob q 4)),(11, .s (id++ob q 4)),(12, .i i),(13, .s (ob i 2)),(14, .s (id++ob q 4++ob i 2)),(15, .s (id++ob q 4++ob i 2++Ji)),(16, .pk w.heap.size 1),(17, .s seed),(18, .s (id++ob q 4++ob i 2++Ji++seed)),(19, .s (xF KS id seed q i)),(6, .s (xF KS id seed q i))] [9,12,6] [(6, .s (xF KS id seed q i))]
  ⟨λz=>dv (gh 0 d_ z.qq (z.k 3)),
   λz=>dv (aP bM z.qq (z.k 7) ((aK (bk z.b g) 0).trans rfl)).1,
   λz=>z.c2 (z.k 9) kc (eI q 4 o_ _),
   λz=>dv (bI z.qq (z.k 8) (z.k 10) (by first|(simp only[aG];omega)|(simp only[a34,aG];omega))),
   λz=>z.c2 (z.k 12) kc (eI i 2 o_ _),
   λz=>dv (bI z.qq (z.k 11) (z.k 13) (by first|(simp only[aG];omega)|(simp only[a34,aG];omega))),
   λz=>dv (bI z.qq (z.k 14) kc (by simp only[a34,aG];show _+Ji.size<=_;omega)),
   λz=>dv (gh 1 d_ z.qq (z.k 3)),
   λz=>dv (aP bM z.qq (z.k 16) ((aK (bk z.b g) 1).trans rfl)).1,
   λz=>dv (bI z.qq (z.k 15) (z.k 17) (by simp only[a34,aG];omega)),
   λz=>z.c1 (z.k 18) (fv KS _ _ (SA l (aB c c.size z.b) k) f (by simp only[a34,aG];omega)),
   trivial⟩ λa o m b=> ?_
 exact Rn.fi b ⟨rfl,aB c c.size m⟩
def pi(id rt:ByteArray):ByteArray:=ob 226 4++ob 2 4++id++rt
theorem qj(i:id.size=16){N:List ByteArray}{rt:ByteArray}(j:w.heap[nb]?=some (.cells (N.map Value.string).toArray 9))(k:N[1]?=some rt)(h:rt.size=32):Calls lT 14 #[.agg (gR id seed nb)] w λe w'=>e= .returned (.s (pi id rt))/\Bw w w':=by
 refine aT (t:=2) Lf.func14 rfl λq=> ?_;rw[aV (N:=14) [.agg (gR id seed nb)] Lf.func14 P8 rfl];have b:=aN [.agg (gR id seed nb)] 14 s_;refine Rn.zz b λp a f g m b=> ?_;refine Rn.uc b λa b=> ?_;have b:aW [(1, .pt w.heap.size)] 14 [] a:=b.only ⟨rfl,trivial⟩;have d:=bk f j;have c:((N.map Value.string).toArray)[1]?=some (.s rt):=by simp[k]
 refine Rn.p rfl (Rn.p rfl ?_);refine Rn.tabL b [(3, .s (ob 226 4)),(4, .s (ob 2 4)),(5, .s (ob 226 4++ob 2 4)),(6, .pt w.heap.size),(7, .s id),(8, .s (ob 226 4++ob 2 4++id)),(9, .pk w.heap.size 2),(10, .sk nb 8 8),(11, .pk nb 1),(12, .s rt),(13, .s (pi id rt)),(2, .s (pi id rt))] [2] [(2, .s (pi id rt))]
  ⟨λz=>z.c2 kc kc (eI 226 4 o_ _),
   λz=>z.c2 kc kc (eI 2 4 o_ _),
   λz=>dv (bI z.qq (z.k 3) (z.k 4) (by first|(simp only[aG];omega)|(simp only[a34,aG];omega))),
   λz=>dv (gh 0 d_ z.qq (z.k 1)),
   λz=>dv (aP bM z.qq (z.k 6) ((aK (bk z.b g) 0).trans rfl)).1,
   λz=>dv (bI z.qq (z.k 5) (z.k 7) (by first|(simp only[aG];omega)|(simp only[a34,aG];omega))),
   λz=>dv (gh 2 d_ z.qq (z.k 1)),
   λz=>dv (aP fo z.qq (z.k 9) ((aK (bk z.b g) 2).trans rfl)).1,
   λz=>CR (eA (ql:=true) (t:=25) (e:=9) (n:=1) k_ (λw=>k_) z.qq (z.k 10) rfl o_).1 (by rw[CH,a46]),
   λz=>dv (aP bM z.qq (z.k 11) ((aK (bk z.b d) 1).trans c)).1,
   λz=>dv (bI z.qq (z.k 8) (z.k 12) (by first|(simp only[aG];omega)|(simp only[a34,aG];omega))),
   trivial⟩ λa o l b=> ?_
 exact Rn.fi b ⟨rfl,aB f f.size l⟩
end
theorem Pl:Tryz.f54.body=some (.seq (rG Tryz.f54 0) (.seq (rG Tryz.f54 1) .ret)):=k_
theorem wS(b:ByteArray)(i:Nat)(g:i/4<b.size)(h:i<100000)(w:World):Calls lT 54 #[.s b, .i i] w λe w'=>e= .returned (.i ((dj b.data.toList 2 i:Nat):Int))/\w'=w:=by
 refine aT (t:=4) Lf.func54 rfl λq=> ?_;rw[aV (N:=16) [.s b, .i i] Lf.func54 Pl rfl];have c:=aN [.s b, .i i] 16 s_
 iterate 3 refine Rn.uc c λa c=> ?_
 refine Rn.vv c (λo d=>xR (n:=4) d (c.G 6) rfl o_ o_) λa c=> ?_;refine Rn.vv c (λo d=>nj d (c.G 5) (c.G 7) g) λa c=> ?_;have f:=(b[i/4]).toNat_lt;refine Rn.vv c (λo d=>pP f d (c.G 8)) λa c=> ?_;refine Rn.uc c λa c=> ?_;refine Rn.vv c (λo d=>xQ (n:=4) d (c.G 10) rfl o_) λa c=> ?_;refine Rn.vv c (λo d=>ko (n:=2) d (c.G 11) rfl o_) λa c=> ?_;refine Rn.vv c (λo d=>oa (m:=6) d rfl (c.G 12) o_ o_) λa c=> ?_;refine Rn.vv c (λo d=>xO d (c.G 9) (c.G 13) o_) λa c=> ?_;refine Rn.vv c (λo d=>kH d (c.G 14) rfl) λa c=> ?_;refine Rn.uc c λa c=> ?_;refine Rn.fi c ⟨?_,rfl⟩;have l:((b[i/4].toNat:Nat):Int)/2^(6- i%4*2)=((b[i/4].toNat/2^(6- i%4*2):Nat):Int):=by rw[Vw,LK];rfl
 have p:b[i/4].toNat/2^(6- i%4*2)<256:=VQ (XJ _ _) f;have k:=SC (b[i/4].toNat/2^(6- i%4*2)) 3 o_ o_;rw[l,show(3:Int)=((3:Nat):Int)from rfl,k,dj];have j:b.data.toList.getD (i/(8/2)) 0=b[i/4]:=by rw[show 8/2=4 from rfl,a50,Vv,Array.getElem?_eq_getElem (by exact g)];rfl
 rw[j,Nat.and_two_pow_sub_one_eq_mod _ 2]
def Sa(f:Func):Code:= .seq (.seq (rG f 3) (.cond (.tmp 26) .skip (.exit 0))) (.seq (.block 1 (rG f 5)) (rG f 4))
def MH(f:Func):Code:= .seq (rG f 6) .ret
theorem P0:Tryz.f24.body=some (.seq (rG Tryz.f24 0) (.seq (rD Tryz.f24 1) (.seq (.seq (rG Tryz.f24 2) (.block 0 (.loop (Sa Tryz.f24)))) (MH Tryz.f24)))):=k_
section
variable{pre Y:ByteArray}{tp:Nat}
theorem I5(f:KS.length=64)(z:pre.size=22)(t:w0.rangeAt 0 0 (aH KS))(u:0<w0.heap.size)(q:tp<=3)
 (k:∀a w',Bw w0 w'->aW [(12, .s Y)] 37 [] a->Rn lT Goal ((base 24).atR a [.code .ret]) cs w'):
 ∀(m j:Nat) (y:ByteArray) (a:Act) (w:World),tp- j=m->j<=tp->y.size=32->T2 KS pre m j y=Y->Bw w0 w->aW [(4, .i tp),(5, .s y),(13, .s pre),(14, .i j)] 37 [] a->Rn lT Goal ((base 24).atR a [.code (Sa Tryz.f24), .inLoop (Sa Tryz.f24), .inBlock 0, .code (MH Tryz.f24)]) cs w:=by
 intro m;induction m with
 |zero=>
  intro j y a w r s p e d b;obtain rfl:y=Y:=e
  iterate 3 refine Rn.uc b λa b=> ?_
  refine Rn.p rfl (Rn.cond _ (b.G 26) ?_);rw[decide_eq_false o_]
  iterate 2 refine Rn.uc b λa b=> ?_
  exact Rn.p rfl (k _ _ d (b.only ⟨rfl,trivial⟩))
 |succ m l=>
  intro j y a w r s p e d b
  iterate 3 refine Rn.uc b λa b=> ?_
  refine Rn.p rfl (Rn.cond _ (b.G 26) ?_);rw[decide_eq_true o_]
  iterate 2 refine Rn.uc b λa b=> ?_
  refine Rn.cw b Lf.func23 (eI j 1 o_ w) λi x a b=> ?_;have b:aW [(4, .i tp),(5, .s y),(13, .s pre),(14, .i j),(29, .s pre),(31, .s (ob j 1))] 37 [] a:=b.only ⟨rfl,rfl,rfl,rfl,rfl,rfl,trivial⟩;refine Rn.vv b (λo c=>bI c (b.G 29) (b.G 31) (by first|(simp only[aG];omega)|(simp only[a34,aG];omega))) λa b=> ?_;refine Rn.uc b λa b=> ?_;refine Rn.vv b (λo c=>bI c (b.G 32) (b.G 33) (by first|(simp only[aG];omega)|(simp only[a34,aG];omega))) λa b=> ?_;have g:=aB d d.size x;refine Rn.cw b Lf.func13 (fv KS (pre++ob j 1++y) i (SA u g t) f (by first|(simp only[aG];omega)|(simp only[a34,aG];omega))) λh v a b=> ?_
  iterate 2 refine Rn.uc b λa b=> ?_
  refine Rn.vv b (λo c=>cS (n:=1) c (b.G 27) rfl o_) λa b=> ?_;refine Rn.uc b λa b=> ?_;exact Rn.p rfl (Rn.p rfl (l (j+1) (eq KS (pre++ob j 1++y)) _ h o_ o_ (aY _ _) e (aB g g.size v) (b.only ⟨rfl,rfl,rfl,rfl,trivial⟩)))
theorem E1(g:KS.length=64){id seed:ByteArray}{d:Nat}(l:id.size=16)(q i c:Nat)(f:c<=3)(y:ByteArray)(k:y.size=32)(n:w.rangeAt 0 0 (aH KS))(o:0<w.heap.size):Calls lT 24 #[.agg (gR id seed d), .i q, .i i, .i 0, .i c, .s y] w λe w'=>e= .returned (.s (T2 KS (id++ob q 4++ob i 2) c 0 y))/\Bw w w':=by
 refine aT (t:=12) Lf.func24 rfl λv=> ?_;rw[aV (N:=37) [.agg (gR id seed d), .i q, .i i, .i 0, .i c, .s y] Lf.func24 P0 rfl];have b:=aN [.agg (gR id seed d), .i q, .i i, .i 0, .i c, .s y] 37 s_;refine Rn.zz b λu a h p s b=> ?_;refine Rn.uc b λa b=> ?_;have b:aW [(1, .i q),(2, .i i),(3, .i 0),(4, .i c),(5, .s y),(6, .pt w.heap.size)] 37 [] a:=b.only ⟨rfl,rfl,rfl,rfl,rfl,rfl,trivial⟩;refine Rn.p rfl (Rn.p rfl ?_);refine Rn.tabL b [(15, .pt w.heap.size),(16, .s id),(17, .i q),(18, .s (ob q 4)),(19, .s (id++ob q 4)),(20, .i i),(21, .s (ob i 2)),(22, .s (id++ob q 4++ob i 2)),(13, .s (id++ob q 4++ob i 2))] [17,20,13] [(13, .s (id++ob q 4++ob i 2))]
  ⟨λz=>dv (gh 0 d_ z.qq (z.k 6)),
   λz=>dv (aP bM z.qq (z.k 15) ((aK (bk z.b p) 0).trans rfl)).1,
   λz=>z.c2 (z.k 17) kc (eI q 4 o_ _),
   λz=>dv (bI z.qq (z.k 16) (z.k 18) (by first|(simp only[aG];omega)|(simp only[a34,aG];omega))),
   λz=>z.c2 (z.k 20) kc (eI i 2 o_ _),
   λz=>dv (bI z.qq (z.k 19) (z.k 21) (by first|(simp only[aG];omega)|(simp only[a34,aG];omega))),
   trivial⟩ λa j r b=> ?_
 iterate 2 refine Rn.uc b λa b=> ?_
 exact Rn.p rfl (Rn.p rfl (Rn.p rfl (I5 g (by simp only[a34,aG];omega) n o f (λa w' m b=>Rn.fi b ⟨rfl,m⟩) c 0 y _ j o_ o_ k rfl (aB h h.size r) (b.only ⟨rfl,rfl,rfl,rfl,trivial⟩))))
end
end L1
section
open Go.Conc Go.RowKit
section
variable(KS:List Int)(id seed:ByteArray)
def i5(q:Nat):Nat->ByteArray
 |0=>⟨#[]⟩
 |n+1=>i5 q n++T2 KS (id++ob q 4++ob n 2) 3 0 (xF KS id seed q n)
theorem iV(q i:Nat):(xF KS id seed q i).size=32:=aY _ _
theorem pr(q:Nat):∀n,(i5 KS id seed q n).size=32*n
 |0=>rfl
 |n+1=>by rw[i5,a34,pr q n,jO _ _ _ _ _ (iV KS id seed q n)];omega
def FK:ByteArray:=⟨#[128,128]⟩
def Qi:ByteArray:=⟨#[130,130]⟩
def Ob:ByteArray:=⟨#[131,131]⟩
def qi:ByteArray:=⟨#[108,101,97,102]⟩
def mE(q:Nat):ByteArray:=eq KS (id++ob (4+q) 4++Qi++eq KS (id++ob q 4++FK++i5 KS id seed q 133))
def kM(used q:Nat):ByteArray:=if used/2^q%2=1 then mE KS id seed q else eq KS (qi++ob q 1++seed)
theorem cW(used q:Nat):(kM KS id seed used q).size=32:=by unfold kM mE;split<;>exact aY _ _
end
structure Gw (w0:World) (b4 sb nb:Nat) (id seed:ByteArray) (NL:List ByteArray) (w:World):Prop where
 old:Bw w0 w
 res:∃c:Array Value,c.size=3/\w.heap[b4]?=some (.cells c 27)
 sec:w.heap[sb]?=some (.cells (gR id seed nb) 27)
 nod:w.heap[nb]?=some (.cells (NL.map Value.string).toArray 9)
 lo:w0.heap.size<=b4/\w0.heap.size<=sb/\w0.heap.size<=nb
 ne:b4≠sb
section
variable{sb nb:Nat}{id seed:ByteArray}{NL:List ByteArray}
theorem Gw.below(h:Gw w0 b4 sb nb id seed NL w)(a:Bw w w'):Gw w0 b4 sb nb id seed NL w':=
 ⟨aB h.old h.old.size a,let ⟨c,e,hc⟩:=h.res;⟨c,e,bk a hc⟩,bk a h.sec,bk a h.nod,h.lo,h.ne⟩
theorem Gw.set(h:Gw w0 b4 sb nb id seed NL w)(a:List ByteArray):Gw w0 b4 sb nb id seed a (gy w nb (a.map Value.string).toArray 9):=
 ⟨h.old.trans (cM h.lo.2.2),let ⟨c,e,hc⟩:=h.res;⟨c,e,(cn (cy hc h.nod d_)).trans hc⟩,(cn (cy h.sec h.nod d_)).trans h.sec,co h.nod,h.lo,h.ne⟩
end
end
namespace L1
open Go.Conc Go.RowKit
def Sb(f:Func):Code:= .seq (.seq (rG f 13) (.cond (.tmp 47) .skip (.exit 2))) (.seq (.block 3 (.seq (rD f 15) (rG f 16))) (rG f 14))
section
variable{id seed:ByteArray}{sb nb q used:Nat}{NL:List ByteArray}
theorem CE(f:KS.length=64)(e:id.size=16)(d:seed.size<=140737488355328)(v:w0.rangeAt 0 0 (aH KS))(k:0<w0.heap.size)
 (p:∀a w',Gw w0 b4 sb nb id seed NL w'->aW [(0, .s seed),(1, .i used),(4, .pt b4),(6, .pt sb),(7, .i q),(8, .s (i5 KS id seed q 133))] 116 [] a->Rn lT Goal ((base 10).atR a K) cs w'):
 ∀(m i:Nat) (a:Act) (w:World),133- i=m->i<=133->Gw w0 b4 sb nb id seed NL w->aW [(0, .s seed),(1, .i used),(4, .pt b4),(6, .pt sb),(7, .i q),(8, .s (i5 KS id seed q i)),(9, .i i)] 116 [] a->Rn lT Goal ((base 10).atR a (.code (Sb Tryz.f10):: .inLoop (Sb Tryz.f10):: .inBlock 2::K)) cs w:=by
 intro m;induction m with
 |zero=>
  intro i a w t u c b;obtain rfl:i=133:=o_
  iterate 2 refine Rn.uc b λa b=> ?_
  refine Rn.p rfl (Rn.cond _ (b.G 47) ?_);rw[decide_eq_false o_];exact Rn.p rfl (p _ _ c (b.only ⟨rfl,rfl,rfl,rfl,rfl,rfl,trivial⟩))
 |succ m r=>
  intro i a w t u c b
  iterate 2 refine Rn.uc b λa b=> ?_
  refine Rn.p rfl (Rn.cond _ (b.G 47) ?_);rw[decide_eq_true o_];have b:aW [(0, .s seed),(1, .i used),(4, .pt b4),(6, .pt sb),(7, .i q),(8, .s (i5 KS id seed q i)),(9, .i i)] 116 [] a:=b.only ⟨rfl,rfl,rfl,rfl,rfl,rfl,rfl,trivial⟩;have g:∀{w':World},Bw w w'->w'.rangeAt 0 0 (aH KS)/\0<w'.heap.size:=λj=>⟨SA k (aB c.old c.old.size j) v,Nat.lt_of_lt_of_le k (aB c.old c.old.size j).size⟩;refine Rn.runs 4 _ ?_;refine Rn.tabL b [(50, .agg (gR id seed nb)),(51, .i q),(52, .i i),(53, .agg (gR id seed nb)),(54, .i q),(55, .i i),(56, .s (xF KS id seed q i)),(57, .s (T2 KS (id++ob q 4++ob i 2) 3 0 (xF KS id seed q i))),(10, .s (T2 KS (id++ob q 4++ob i 2) 3 0 (xF KS id seed q i)))] [51,52,54,55,10] [(10, .s (T2 KS (id++ob q 4++ob i 2) 3 0 (xF KS id seed q i)))]
   ⟨λz=>dv (dl z.qq (z.k 6) (bk z.b c.sec)),
    λz=>dv (dl z.qq (z.k 6) (bk z.b c.sec)),
    λz=>z.c3 (z.k 53) (z.k 54) (z.k 55) (vN f e d q i (g z.b).1 (g z.b).2),
    λz=>z.c6 (z.k 50) (z.k 51) (z.k 52) kc kc (z.k 56) (E1 f e q i 3 o_ _ (iV _ _ _ _ _) (g z.b).1 (g z.b).2),
    trivial⟩ λa l x b=> ?_
  have y:=pr KS id seed q i;have s:=jO KS (id++ob q 4++ob i 2) 3 0 _ (iV KS id seed q i)
  iterate 2 refine Rn.uc b λa b=> ?_
  refine Rn.vv b (λo h=>bI h (b.G 58) (b.G 59) o_) λa b=> ?_
  iterate 2 refine Rn.uc b λa b=> ?_
  refine Rn.vv b (λo h=>cS (n:=1) h (b.G 48) rfl o_) λa b=> ?_;refine Rn.uc b λa b=> ?_;exact Rn.p rfl (Rn.p rfl (r (i+1) _ l o_ o_ (c.below x) (b.only ⟨rfl,rfl,rfl,rfl,rfl,rfl,rfl,trivial⟩)))
end
end L1
section
open Go.Conc Go.RowKit
def GP(KS:List Int)(id seed:ByteArray)(used q:Nat):List ByteArray:=(Ak 8).map λn=>if 4<=n/\n<4+q then kM KS id seed used (n- 4)else⟨#[]⟩
theorem E8(KS:List Int)(id seed:ByteArray)(used:Nat){q:Nat}(a:q<4):(GP KS id seed used q).set (4+q) (kM KS id seed used q)=GP KS id seed used (q+1):=by rcases(o_:q=0\/q=1\/q=2\/q=3)with rfl|rfl|rfl|rfl<;>rfl
theorem Cg(KS:List Int)(id seed:ByteArray)(used q:Nat):(GP KS id seed used q).length=8:=by simp[GP]
end
namespace L1
open Go.Conc Go.RowKit
theorem qU{y:Operand}{c a cap:Nat}(b:o.op= .indexAddr 25 x y)(f:ev x= .sk c a cap)(d:ev y= .i n)(g:n<a):eX ev o w (.pk c n):=by
 have:=(eA (ql:=true) (w:=w) (t:=25) (e:=9) k_ (λw=>k_) b f d g).1
 rwa [CH,a46]at this
theorem Nr(L:List ByteArray)(k:Nat)(x:ByteArray):(L.map Value.string).toArray.setIfInBounds k (.s x)=((L.set k x).map Value.string).toArray:=by rw[Yw];simp
def Qj(f:Func):Code:= .seq (.seq (rG f 7) (.cond (.tmp 27) .skip (.exit 0))) (.seq (.block 1 (.seq (rD f 9) (.seq (.seq (rG f 10) (.cond (.tmp 45) (.exit 1) .skip)) (.seq (rG f 11) (.seq (.seq (rG f 12) (.block 2 (.loop (Sb f)))) (.seq (rD f 17) (rD f 18))))))) (rG f 8))
section
variable{id seed:ByteArray}{sb nb used:Nat}
theorem kq(g:KS.length=64)(A:id.size=16)(l:seed.size<=140737488355328)(j:used<16)(F:w0.rangeAt 0 0 (aH KS))(G:0<w0.heap.size){q:Nat}(E:q<4)(r:Gw w0 b4 sb nb id seed (GP KS id seed used q) w)(b:aW [(0, .s seed),(1, .i used),(4, .pt b4),(6, .pt sb),(7, .i q)] 116 [] a)
 (I:∀a w',Gw w0 b4 sb nb id seed (GP KS id seed used (q+1)) w'->aW [(0, .s seed),(1, .i used),(4, .pt b4),(6, .pt sb),(7, .i ((q+1:Nat):Int))] 116 [] a->Rn lT Goal ((base 10).atR a (.code (Qj Tryz.f10):: .inLoop (Qj Tryz.f10):: .inBlock 0::K)) cs w'):
 Rn lT Goal ((base 10).atR a (.code (Qj Tryz.f10):: .inLoop (Qj Tryz.f10):: .inBlock 0::K)) cs w:=by
 have y:∀{w':World},Bw w0 w'->w'.rangeAt 0 0 (aH KS):=λu=>SA G u F;have i:∀{a:Act} {w':World} {k:List Item},Gw w0 b4 sb nb id seed (GP KS id seed used (q+1)) w'->aW [(0, .s seed),(1, .i used),(4, .pt b4),(6, .pt sb),(7, .i q)] 116 [] a->Rn lT Goal ((base 10).atR a (.code (rG Tryz.f10 8):: .inLoop (Qj Tryz.f10):: .inBlock 0::K)) cs w':=λ{a w' k} r b=>by refine Rn.uc b λa b=> ?_;refine Rn.vv b (λo f=>cS (n:=1) f (b.G 28) rfl o_) λa b=> ?_;refine Rn.uc b λa b=> ?_;exact Rn.p rfl (Rn.p rfl (I _ _ r (b.only ⟨rfl,rfl,rfl,rfl,rfl,trivial⟩)))
 iterate 2 refine Rn.uc b λa b=> ?_
 refine Rn.p rfl (Rn.cond _ (b.G 27) ?_);rw[decide_eq_true o_];have b:aW [(0, .s seed),(1, .i used),(4, .pt b4),(6, .pt sb),(7, .i q)] 116 [] a:=b.only ⟨rfl,rfl,rfl,rfl,rfl,trivial⟩;have t:=Cg KS id seed used q;have V:qi.size=4:=rfl;refine Rn.runs 4 _ ?_;refine Rn.tab1 (R:=λa w'=>Gw w0 b4 sb nb id seed ((GP KS id seed used q).set (4+q) (eq KS (qi++ob q 1++seed))) w'/\aW [(0, .s seed),(1, .i used),(4, .pt b4),(6, .pt sb),(7, .i q)] 116 [] a) (λa H ⟨x,b⟩=> ?_) b
  [(30, .pk sb 2),(31, .sk nb 8 8),(32, .i q),(33, .i ((4+q:Nat):Int)),(34, .i q),(35, .s (ob q 1)),(36, .s (qi++ob q 1)),(37, .s seed),(38, .s (qi++ob q 1++seed)),(39, .s (eq KS (qi++ob q 1++seed))),(40, .pk nb (4+q))] [32,34,37] [(39, .s (eq KS (qi++ob q 1++seed))),(40, .pk nb (4+q))]
  ⟨λz=>dv (gh 2 d_ z.qq (z.k 6)),
   λz=>dv (aP fo z.qq (z.k 30) ((aK (bk z.b r.sec) 2).trans rfl)).1,
   λz=>dv (cS (m:=4) z.qq kc (z.k 32) o_),
   λz=>z.c2 (z.k 34) kc (eI q 1 o_ _),
   λz=>dv (bI z.qq kc (z.k 35) (by simp only[aG];show qi.size+_<=_;omega)),
   λz=>dv (bI z.qq (z.k 36) (z.k 37) (by simp only[a34,aG];omega)),
   λz=>z.c1 (z.k 38) (fv KS _ _ (y (aB r.old r.old.size z.b)) g (by simp only[a34,aG];omega)),
   λz=>dv (qU z.qq (z.k 31) (z.k 33) o_),
   trivial⟩ (λa w' s u b p=> ?_)
 ·iterate 2 refine Rn.uc b λa b=> ?_
  refine Rn.vv b (λo f=>xO f (b.G 41) (b.G 42) o_) λa b=> ?_;refine Rn.vv b (λo f=>kH f (b.G 43) rfl) λa b=> ?_;have P:((used:Nat):Int)/2^q=((used/2^q:Nat):Int):=by rw[Vw,LK];rfl
  have W:used/2^q<16:=VQ (XJ _ _) j;have O:=SC (used/2^q) 1 o_ o_;rw[P,show(1:Int)=((1:Nat):Int)from rfl,O,Nat.and_one_is_mod]at b;refine Rn.uc b λa b=> ?_;refine Rn.p rfl (Rn.cond _ (b.G 45) ?_);by_cases c:used/2^q%2=1
  ·rw[c];have D:kM KS id seed used q=mE KS id seed q:=if_pos c;have b:aW [(0, .s seed),(1, .i used),(4, .pt b4),(6, .pt sb),(7, .i q)] 116 [] a:=b.only ⟨rfl,rfl,rfl,rfl,rfl,trivial⟩
   iterate 2 refine Rn.uc b λa b=> ?_
   refine Rn.runs 3 _ ?_;refine CE g A l F G (λa U h b=> ?_) 133 0 _ H rfl o_ x (b.only ⟨rfl,rfl,rfl,rfl,rfl,rfl,rfl,trivial⟩);have N:=pr KS id seed q 133;have L:FK.size=2:=rfl;have J:Qi.size=2:=rfl;refine Rn.runs 2 _ ?_;refine Rn.tabL b [(61, .pt sb),(62, .s id),(63, .i q),(64, .s (ob q 4)),(65, .s (id++ob q 4)),(66, .s (id++ob q 4++FK)),(67, .s (i5 KS id seed q 133)),(68, .s (id++ob q 4++FK++i5 KS id seed q 133)),(69, .s (eq KS (id++ob q 4++FK++i5 KS id seed q 133))),(11, .s (eq KS (id++ob q 4++FK++i5 KS id seed q 133)))] [63,67,11] [(11, .s (eq KS (id++ob q 4++FK++i5 KS id seed q 133)))]
    ⟨λz=>dv (gh 0 d_ z.qq (z.k 6)),
     λz=>dv (aP bM z.qq (z.k 61) ((aK (bk z.b h.sec) 0).trans rfl)).1,
     λz=>z.c2 (z.k 63) kc (eI q 4 o_ _),
     λz=>dv (bI z.qq (z.k 62) (z.k 64) (by first|(simp only[aG];omega)|(simp only[a34,aG];omega))),
     λz=>dv (bI z.qq (z.k 65) kc (by simp only[a34,aG];show _+FK.size<=_;omega)),
     λz=>dv (bI z.qq (z.k 66) (z.k 67) (by first|(simp only[aG];omega)|(simp only[a34,aG];omega))),
     λz=>z.c1 (z.k 68) (fv KS _ _ (y (aB h.old h.old.size z.b)) g (by first|(simp only[aG];omega)|(simp only[a34,aG];omega))),
     trivial⟩ λa T Q b=> ?_
   have e:=h.below Q;have b:aW [(11, .s (eq KS (id++ob q 4++FK++i5 KS id seed q 133))),(0, .s seed),(1, .i used),(4, .pt b4),(6, .pt sb),(7, .i q)] 116 [] a:=b.only ⟨rfl,rfl,rfl,rfl,rfl,rfl,trivial⟩;have M:=aY KS (id++ob q 4++FK++i5 KS id seed q 133);refine Rn.tab1 (R:=λa w'=>Gw w0 b4 sb nb id seed (GP KS id seed used (q+1)) w'/\aW [(0, .s seed),(1, .i used),(4, .pt b4),(6, .pt sb),(7, .i q)] 116 [] a) (λa S ⟨B,b⟩=> ?_) b
    [(70, .pk sb 2),(71, .sk nb 8 8),(72, .i q),(73, .i ((4+q:Nat):Int)),(74, .pt sb),(75, .s id),(76, .i q),(77, .i ((4+q:Nat):Int)),(78, .s (ob (4+q) 4)),(79, .s (id++ob (4+q) 4)),(80, .s (id++ob (4+q) 4++Qi)),(81, .s (eq KS (id++ob q 4++FK++i5 KS id seed q 133))),(82, .s (id++ob (4+q) 4++Qi++eq KS (id++ob q 4++FK++i5 KS id seed q 133))),(83, .s (mE KS id seed q)),(84, .pk nb (4+q))] [72,76,81] [(83, .s (mE KS id seed q)),(84, .pk nb (4+q))]
    ⟨λz=>dv (gh 2 d_ z.qq (z.k 6)),
     λz=>dv (aP fo z.qq (z.k 70) ((aK (bk z.b e.sec) 2).trans rfl)).1,
     λz=>dv (cS (m:=4) z.qq kc (z.k 72) o_),
     λz=>dv (gh 0 d_ z.qq (z.k 6)),
     λz=>dv (aP bM z.qq (z.k 74) ((aK (bk z.b e.sec) 0).trans rfl)).1,
     λz=>dv (cS (m:=4) z.qq kc (z.k 76) o_),
     λz=>z.c2 (z.k 77) kc (eI (4+q) 4 o_ _),
     λz=>dv (bI z.qq (z.k 75) (z.k 78) (by first|(simp only[aG];omega)|(simp only[a34,aG];omega))),
     λz=>dv (bI z.qq (z.k 79) kc (by simp only[a34,aG];show _+Qi.size<=_;omega)),
     λz=>dv (bI z.qq (z.k 80) (z.k 81) (by first|(simp only[aG];omega)|(simp only[a34,aG];omega))),
     λz=>z.c1 (z.k 82) (fv KS _ _ (y (aB e.old e.old.size z.b)) g (by first|(simp only[aG];omega)|(simp only[a34,aG];omega))),
     λz=>dv (qU z.qq (z.k 71) (z.k 73) o_),
     trivial⟩ (λa w' s u b p=> ?_)
   ·exact Rn.p rfl (i (k:=[]) B b)
   ·have d:=e.below u;refine Rn.does0 b (.store 9 (.tmp 84) (.tmp 83)) k_ s_ (λo f=>fD (v:= .s (mE KS id seed q)) rfl rfl k_ f (b.G 84) (b.G 83) d.nod (by simp[t];omega)) λa b=>p a _ ⟨?_,b.only ⟨rfl,rfl,rfl,rfl,rfl,trivial⟩⟩;rw[Nr,List.set_set,←D,E8 KS id seed used E];exact d.set _
  ·have C:used/2^q%2=0:=o_;rw[C];refine Rn.p rfl (i (k:=[]) ?_ (b.only ⟨rfl,rfl,rfl,rfl,rfl,trivial⟩));rw[←E8 KS id seed used E,kM,if_neg c];exact x
 ·have d:=r.below u;refine Rn.does0 b (.store 9 (.tmp 40) (.tmp 39)) k_ s_ (λo f=>fD (v:= .s (eq KS (qi++ob q 1++seed))) rfl rfl k_ f (b.G 40) (b.G 39) d.nod (by simp[t];omega)) λa b=>p a _ ⟨?_,b.only ⟨rfl,rfl,rfl,rfl,rfl,trivial⟩⟩;rw[Nr];exact d.set _
end
end L1
section
open Go.Conc Go.RowKit
def Ql:ByteArray:=⟨#[105,100]⟩
def gi(KS:List Int)(seed:ByteArray):ByteArray:=(eq KS (Ql++seed)).extract 0 16
theorem dc(KS:List Int)(seed:ByteArray):(gi KS seed).size=16:=by rw[gi,a52,aY];rfl
def ib(KS:List Int)(id:ByteArray)(n:Nat)(a b:ByteArray):ByteArray:=eq KS (id++ob n 4++Ob++a++b)
section
variable(KS:List Int)(id seed:ByteArray)(used:Nat)
def Ie:ByteArray:=ib KS id 3 (kM KS id seed used 2) (kM KS id seed used 3)
def V7:ByteArray:=ib KS id 2 (kM KS id seed used 0) (kM KS id seed used 1)
def QQ:ByteArray:=ib KS id 1 (V7 KS id seed used) (Ie KS id seed used)
def RJ:List ByteArray:=[⟨#[]⟩,QQ KS id seed used,V7 KS id seed used,Ie KS id seed used,kM KS id seed used 0,kM KS id seed used 1,kM KS id seed used 2,kM KS id seed used 3]
end
end
end Go.Proofs.YtkmoglhgkcnalabGreatDoor
