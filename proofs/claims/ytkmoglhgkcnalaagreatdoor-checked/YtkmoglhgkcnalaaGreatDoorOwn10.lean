/- A part of what the last text of the claim imports: texts laid together, and made small, by a program. -/
import Derived.Deep.CutRange
import Derived.Deep.DeepCutAuto
import Derived.Laws.CopyRow
import Derived.Laws.IdiomCopy
import Derived.Conc.AppendWalk
import Derived.Test.YtkmoglhgkcnalaaGreatDoorOwn9
set_option maxHeartbeats 16000000
set_option maxRecDepth 100000
open Array renaming replicate->Td,mem_push->Sx
open ByteArray renaming size_append->Tg
open Go.Addr renaming add->QM,add_mid->QV
open Go.Builtin renaming firstCells->Rj,zeroCells->Rm,append_->RG,lenOf->RZ
open Go.Instr renaming loadAt->AT,fieldAt->BY,sliceBounds->Qq,sliceBound->Qx,alloc->Qz,sliceAt->QG,slice->R0,makeSlice->R6,storeAt->Rc
open Go.IntKind renaming i64->Q4
open Go.World renaming rangeAt_setCells_same->AI,drew->No,setCell->Q6,frozen?->Qa,cell?->Qe,cell?_setCell_other->Qs,«at»->SD
open List renaming getElem?_eq_some_iff->Tf,cons_ne_nil->Ti,lookup->IT,replicate->OF,getElem?_append_right->PY,getElem?_eq_getElem->Q0,size_toArray->Q5,getElem?_append_left->Q9,length_map->Qg,getElem?_replicate->QR,getElem?_toArray->R1,getElem?_map->R2,map_toArray->Rk,mem_map->Rs,length_pos_iff->Su
open Nat renaming le_refl->T6,lt_of_lt_of_le->T7,le_trans->By,zero_add->IS,zero_le->QH,le_succ->RQ,not_lt->RS,le_of_eq->Sg,ne_of_lt->Si,lt_irrefl->Sp,mul_one->Ss
open Ne renaming symm->QF
open Option renaming map_eq_some_iff->Qh
namespace Go.Proofs.YtkmoglhgkcnalaaGreatDoor
open Go
variable{n b i N l m k j b3 b4 b7 b9 Wg wd:Nat}{w w' w0 wL wM wE:World}{fr:Frame}{v:Value}{cs:List Frame}{args cv:Array Value}{V RO D V0:Nat->Prop}{q main listen ql:Bool}{g:Goroutine}{a:Act}{K:List Item}{P PL PM:Program}{x:Operand}{ops:Array Oper}{KS:List Int}{t u:TypeId}{o:Oper}{f:FuncId}{es:Array Event}{Goal:Goroutine->World->Prop}{fn:Func}{rest:List Nat}{ds:List Deferred}{X:aW}{F:List (Nat×Value)}{e:Event}{listed:Array Bool}{c:Int}{s msg key sig:ByteArray}{ρ:Nat->Nat}{ev:Operand->Value}{Post:Value->World->Prop}
namespace L1
open Go.Conc Go.RowKit
theorem KA:Tryz.f18.body=some (.seq (rG Tryz.f18 0) (.seq (rG Tryz.f18 1) .ret)):=k_
theorem C1(KS:List Int)(m:KS.length=64)(s:ByteArray)(st le:Int)(f g:Value)(us:List Bool)(hs:List ByteArray)(w:World)(r:dP w f (us.map .bool))(y:dP w g (hs.map .string))(l:us.length<4611686018427387904)(j:s.size<=281474976000000)(v:w.rangeAt 0 0 (aM KS))(o:0<w.heap.size):
 Calls lT 18 #[.s s, .agg (dO st le f g)] w λe w'=>∃n c,e= .returned (.tuple #[.i n, .i c])/\Cr KS s le us hs n c/\Bw w w':=by
 refine jm (t:=4) (u:=5) Lf.func18 rfl λB=> ?_;rw[bP (N:=11) [.s s, .agg (dO st le f g)] Lf.func18 KA rfl];have b:=aY [.s s, .agg (dO st le f g)] 11 s_;refine Rn.zz b λi a d C _ b=> ?_
 iterate 4 refine Rn.uu b λa b=> ?_
 refine Rn.cl b Lf.func40 (R:=λx w'=>∃n c,x= .tuple #[.i n, .i c]/\Cr KS s le us hs n c/\Bw i w') ((Fh KS m s st le f g us hs i (r.below d) (y.below d) l j (Pq o d v) (T7 o d.size)).mono λe w' ⟨n,c,h,k,q⟩=>⟨_,h,n,c,rfl,k,q⟩) λx A p a b=> ?_;obtain⟨n,c,rfl,k,z⟩:=p
 iterate 4 refine Rn.uu b λa b=> ?_
 exact Rn.fj b ⟨n,c,rfl,k,aE d d.size z⟩
theorem Dk{u:Int}{us:List Bool}{hs:List ByteArray}{n t c':Int}(h:Cr KS s u us hs n c)(g:Cr KS s u us hs t c'):n=t/\c=c':=by
 rcases h with⟨G,rfl,rfl⟩|⟨v,K,C,a,l,k,z,h⟩
 ·rcases g with⟨_,rfl,rfl⟩|⟨B,q,i,A,w,x,r,_⟩
  ·exact⟨rfl,rfl⟩
  ·exact absurd (by rw[r]) G
 ·rcases g with⟨F,_,_⟩|⟨B,q,i,A,w,x,r,g⟩
  ·exact absurd (by rw[z]) F
  ·have e:=z.symm.trans r;simp only[pa,Prod.mk.injEq,List.cons.injEq,Value.int.injEq,Value.string.injEq,true_and,and_true]at e;obtain⟨rfl,J,rfl,I,H,D⟩:=e;obtain rfl:C=i:=o_
   obtain rfl:a=A:=o_
   obtain rfl:l=w:=o_
   obtain rfl:k=x:=by simpa using D
   rcases h with⟨y,rfl,rfl⟩|⟨y,p,rfl,rfl⟩|⟨y,p,d,E,h⟩<;>rcases g with⟨j,rfl,rfl⟩|⟨j,b,rfl,rfl⟩|⟨j,b,L,m,g⟩
   ·exact⟨rfl,rfl⟩
   ·omega
   ·omega
   ·omega
   ·exact⟨rfl,rfl⟩
   ·rw[p]at b;cases b
   ·omega
   ·rw[p]at b;cases b
   ·obtain rfl:=wV E m;rcases h with⟨o,rfl,rfl⟩|⟨o,rfl,rfl⟩<;>rcases g with⟨f,rfl,rfl⟩|⟨f,rfl,rfl⟩
    ·exact⟨rfl,rfl⟩
    ·exact absurd f o
    ·exact absurd o f
    ·exact⟨rfl,rfl⟩
def CV(f:Func):Code:= .seq (.seq (rG f 2) (.cond (.tmp 17) .skip (.exit 0))) (.seq (.block 1 (.seq (rG f 4) (.cond (.tmp 33) (.seq (rG f 5) .ret) .skip))) (rG f 3))
theorem Kw:Tryz.f42.body=some (.seq (rG Tryz.f42 0) (.seq (.seq (rG Tryz.f42 1) (.block 0 (.loop (CV Tryz.f42)))) (.seq (rG Tryz.f42 6) .ret))):=k_
section
variable{st le:Int}{vu vh:Value}{x:ByteArray}{us:List Bool}{hs:List ByteArray}{k:List Item}
theorem EG(hU:dP w vu (us.map .bool))(hH:dP w vh (hs.map .string))(a0:us.length<4611686018427387904)(t:w.heap[b]?=some (.cells (dO st le vu vh) 45))
 (Y:dY us hs x=false->∀a,Has [] 34 [] a->Rn lT Goal ((base 42).atR a k) cs w)
 (X:dY us hs x=true->∀a Z,Has [(4, .bool true)] 34 [] a->Rn lT Goal ((base 42).atR a (.code .ret::Z)) cs w):
 ∀(m i:Nat) (a:Act),min us.length hs.length- i=m->i<=min us.length hs.length->dY us hs x=dY (us.drop i) (hs.drop i) x->Has [(1, .s x),(2, .pt b),(5, .i i)] 34 [] a->
  Rn lT Goal ((base 42).atR a (.code (CV Tryz.f42):: .inLoop (CV Tryz.f42):: .inBlock 0::k)) cs w:=by
 obtain⟨W,G,E,C⟩:=hU;obtain⟨H,u,F,D⟩:=hH;intro m;induction m with
 |zero=>
  intro i a hm hi y c;refine Rn.uu c λa c=> ?_;refine Rn.vv c (λo d=>vF 1 d_ d (c.G 2)) λa c=> ?_;refine Rn.vv c (λo d=>(aN (v:= .slice W (us.map Value.bool).length G) fV d (c.G 7) ((aH t 1).trans (by rw[←E];rfl))).1) λa c=> ?_;refine Rn.vv c (λo d=>eb (e:=4) k_ d (c.G 8)) λa c=> ?_
  iterate 2 refine Rn.uu c λa c=> ?_
  have l:∀a,Has [] 34 [] a->Rn lT Goal ((base 42).atR a k) cs w:=Y (by rw[y];exact vo us hs x i o_);by_cases h1:i<us.length
  ·rw[show decide ((i:Int)<((us.map Value.bool).length:Int))=true from decide_eq_true (by rw[Qg];omega)]at c;refine Rn.uu c λa c=> ?_;refine Rn.G c 13 (.fieldAddr 45 (.tmp 2) 3) 5 11 true (λv=>v= .pk b 3) rfl s_ (λ_ o d=>aF (vF 3 d_ d (c.G 2)) ⟨rfl,rfl⟩) λv a f c=> ?_;obtain rfl:=f rfl;refine Rn.G c 14 (.load 43 (.tmp 13)) 5 11 true (λv=>v= .slice H (hs.map Value.string).length u) rfl s_ (λ_ o d=>aF (aN (v:= .slice H (hs.map Value.string).length u) eI d (c.G 13) ((aH t 3).trans (by rw[←F];rfl))).1 ⟨rfl,rfl⟩) λv a f c=> ?_;obtain rfl:=f rfl;refine Rn.G c 15 (.call {callee:= .builtin .len,args:=#[.tmp 14],argTypes:=#[43]}) 5 11 true (λv=>v= .i (hs.map Value.string).length) rfl s_ (λ_ o d=>aF (eb (e:=9) k_ d (c.G 14)) ⟨rfl,rfl⟩) λv a f c=> ?_;obtain rfl:=f rfl;refine Rn.uu c λa c=> ?_;rw[show decide ((i:Int)<((hs.map Value.string).length:Int))=false from decide_eq_false (by rw[Qg];omega)]at c;refine Rn.uu c λa c=> ?_;refine Rn.p rfl (Rn.cond false (c.G 17) ?_);exact Rn.p rfl (l a (c.only trivial))
  ·rw[show decide ((i:Int)<((us.map Value.bool).length:Int))=false from decide_eq_false (by rw[Qg];omega)]at c;refine Rn.G c 12 (.move (.tmp 5)) 5 11 false (λ_=>True) rfl s_ (λh=>by cases h) λV a _ c=>Rn.G c 13 (.fieldAddr 45 (.tmp 2) 3) 5 11 false (λ_=>True) rfl s_ (λh=>by cases h) λU a _ c=>Rn.G c 14 (.load 43 (.tmp 13)) 5 11 false (λ_=>True) rfl s_ (λh=>by cases h) λT a _ c=>Rn.G c 15 (.call {callee:= .builtin .len,args:=#[.tmp 14],argTypes:=#[43]}) 5 11 false (λ_=>True) rfl s_ (λh=>by cases h) λS a _ c=>Rn.G c 16 (.binOp .lss 3 (.tmp 12) (.tmp 15) 3) 5 11 false (λ_=>True) rfl s_ (λh=>by cases h) λR a _ c=>Rn.vv c (λo d=>sQ (q:=false) (r:=false) d (c.G 11) (λh=>by cases h) rfl) λa c=> ?_;refine Rn.p rfl (Rn.cond false (c.G 17) ?_);exact Rn.p rfl (l a (c.only trivial))
 |succ m ih=>
  intro i a hm hi y c;have p:i<us.length:=o_
  have s:i<hs.length:=o_
  obtain⟨J,rfl,z⟩:=C i (.bool us[i]) (by simp[p]);obtain⟨B,rfl,A⟩:=D i (.s hs[i]) (by simp[s]);have g:=t8 us hs x i us[i] hs[i] (by simp[p]) (by simp[s]);refine Rn.uu c λa c=> ?_;refine Rn.vv c (λo d=>vF 1 d_ d (c.G 2)) λa c=> ?_;refine Rn.vv c (λo d=>(aN (v:= .slice (some J) (us.map Value.bool).length G) fV d (c.G 7) ((aH t 1).trans (by rw[←E];rfl))).1) λa c=> ?_;refine Rn.vv c (λo d=>eb (e:=4) k_ d (c.G 8)) λa c=> ?_
  iterate 2 refine Rn.uu c λa c=> ?_
  rw[show decide ((i:Int)<((us.map Value.bool).length:Int))=true from decide_eq_true (by rw[Qg];omega)]at c;refine Rn.uu c λa c=> ?_;refine Rn.G c 13 (.fieldAddr 45 (.tmp 2) 3) 5 11 true (λv=>v= .pk b 3) rfl s_ (λ_ o d=>aF (vF 3 d_ d (c.G 2)) ⟨rfl,rfl⟩) λv a f c=> ?_;obtain rfl:=f rfl;refine Rn.G c 14 (.load 43 (.tmp 13)) 5 11 true (λv=>v= .slice (some B) (hs.map Value.string).length u) rfl s_ (λ_ o d=>aF (aN (v:= .slice (some B) (hs.map Value.string).length u) eI d (c.G 13) ((aH t 3).trans (by rw[←F];rfl))).1 ⟨rfl,rfl⟩) λv a f c=> ?_;obtain rfl:=f rfl;refine Rn.G c 15 (.call {callee:= .builtin .len,args:=#[.tmp 14],argTypes:=#[43]}) 5 11 true (λv=>v= .i (hs.map Value.string).length) rfl s_ (λ_ o d=>aF (eb (e:=9) k_ d (c.G 14)) ⟨rfl,rfl⟩) λv a f c=> ?_;obtain rfl:=f rfl;refine Rn.uu c λa c=> ?_;rw[show decide ((i:Int)<((hs.map Value.string).length:Int))=true from decide_eq_true (by rw[Qg];omega)]at c;refine Rn.uu c λa c=> ?_;refine Rn.p rfl (Rn.cond true (c.G 17) ?_);refine Rn.uu c λa c=> ?_;refine Rn.vv c (λo d=>(aN (v:= .slice (some J) (us.map Value.bool).length G) fV d (c.G 20) ((aH t 1).trans (by rw[←E];rfl))).1) λa c=> ?_;refine Rn.y c 22 5 rfl λa c=>Rn.vv c (λo d=>(dx (e:=4) (n:=i) k_ (λw=>k_) d (c.G 21) (c.G 22) (by simpa using p)).1) λa c=> ?_;refine Rn.vv c (λo d=>(aN (v:= .bool us[i]) lq d (c.G 23) z).1) λa c=> ?_;refine Rn.uu c λa c=> ?_;obtain⟨q,hq⟩:∃q,us[i]=q:=⟨_,rfl⟩;rw[hq]at c g;have j:∀a,dY us hs x=dY (us.drop (i+1)) (hs.drop (i+1)) x->Has [(1, .s x),(2, .pt b),(5, .i i)] 34 [] a->Rn lT Goal ((base 42).atR a (.code (rG Tryz.f42 3):: .inLoop (CV Tryz.f42):: .inBlock 0::k)) cs w:=λa hn c=>by
   iterate 3 refine Rn.uu c λa c=> ?_
   exact Rn.p rfl (Rn.p rfl (ih (i+1) a o_ o_ hn (c.only ⟨rfl,rfl,rfl,trivial⟩)))
  cases q with
  |false=>
   refine Rn.G c 26 (.fieldAddr 45 (.tmp 2) 3) 5 25 false (λ_=>True) rfl s_ (λh=>by cases h) λQ a _ c=>Rn.G c 27 (.load 43 (.tmp 26)) 5 25 false (λ_=>True) rfl s_ (λh=>by cases h) λP a _ c=>Rn.G c 28 (.move (.tmp 5)) 5 25 false (λ_=>True) rfl s_ (λh=>by cases h) λO a _ c=>Rn.G c 29 (.indexAddr 43 (.tmp 27) (.tmp 28)) 5 25 false (λ_=>True) rfl s_ (λh=>by cases h) λN a _ c=>Rn.G c 30 (.load 9 (.tmp 29)) 5 25 false (λ_=>True) rfl s_ (λh=>by cases h) λM a _ c=>Rn.G c 31 (.move (.tmp 1)) 5 25 false (λ_=>True) rfl s_ (λh=>by cases h) λL a _ c=>Rn.G c 32 (.binOp .eql 9 (.tmp 30) (.tmp 31) 9) 5 25 false (λ_=>True) rfl s_ (λh=>by cases h) λK a _ c=>Rn.vv c (λo d=>sQ (q:=false) (r:=false) d (c.G 25) (λh=>by cases h) rfl) λa c=> ?_;refine Rn.p rfl (Rn.cond false (c.G 33) ?_);exact Rn.p rfl (Rn.p rfl (j a (y.trans (g.trans s_)) (c.only ⟨rfl,rfl,rfl,trivial⟩)))
  |true=>
   refine Rn.uu c λa c=> ?_;refine Rn.G c 27 (.load 43 (.tmp 26)) 5 25 true (λv=>v= .slice (some B) (hs.map Value.string).length u) rfl s_ (λ_ o d=>aF (aN (v:= .slice (some B) (hs.map Value.string).length u) eI d (c.G 26) ((aH t 3).trans (by rw[←F];rfl))).1 ⟨rfl,rfl⟩) λv a f c=> ?_;obtain rfl:=f rfl;refine Rn.G c 28 (.move (.tmp 5)) 5 25 true (λv=>v= .i i) rfl s_ (λ_ o d=>aF (by rw[bF (.inl d),c.G 5]) ⟨rfl,rfl⟩) λv a f c=> ?_;obtain rfl:=f rfl;refine Rn.G c 29 (.indexAddr 43 (.tmp 27) (.tmp 28)) 5 25 true (λv=>v= .pointer (some (B.add i))) rfl s_ (λ_ o d=>aF (dx (e:=9) (n:=i) k_ (λw=>k_) d (c.G 27) (c.G 28) (by simpa using s)).1 ⟨rfl,rfl⟩) λv a f c=> ?_;obtain rfl:=f rfl;refine Rn.G c 30 (.load 9 (.tmp 29)) 5 25 true (λv=>v= .s hs[i]) rfl s_ (λ_ o d=>aF (aN (v:= .s hs[i]) bA d (c.G 29) A).1 ⟨rfl,rfl⟩) λv a f c=> ?_;obtain rfl:=f rfl
   iterate 2 refine Rn.uu c λa c=> ?_
   refine Rn.uu c λa c=> ?_;refine Rn.p rfl (Rn.cond (hs[i].data.toList==x.data.toList) (c.G 33) ?_);cases I:(hs[i].data.toList==x.data.toList)with
   |false=>exact Rn.p rfl (Rn.p rfl (j a (y.trans (g.trans (by simp[I]))) (c.only ⟨rfl,rfl,rfl,trivial⟩)))
   |true=>
    refine Rn.uu c λa c=> ?_;exact Rn.p rfl (X (by rw[y,g,I];rfl) a _ (c.only ⟨rfl,trivial⟩))
end
theorem wS(x:ByteArray)(st le:Int)(c d:Value)(us:List Bool)(hs:List ByteArray)(w:World)(i:dP w c (us.map .bool))(j:dP w d (hs.map .string))(h:us.length<4611686018427387904):
 Calls lT 42 #[.agg (dO st le c d), .s x] w λe w'=>e= .returned (.bool (dY us hs x))/\Bw w w':=by
 refine bJ (t:=4) Lf.func42 rfl λn=> ?_;rw[bP (N:=34) [.agg (dO st le c d), .s x] Lf.func42 Kw rfl];have b:=aY [.agg (dO st le c d), .s x] 34 s_;refine Rn.zz b λl a f k _ b=> ?_
 iterate 2 refine Rn.uu b λa b=> ?_
 refine Rn.p rfl (Rn.p rfl (Rn.p rfl ?_));refine EG (i.below f) (j.below f) h k (λg a b=> ?_) (λg a m b=> ?_) _ 0 a rfl (QH _) rfl (b.only ⟨rfl,rfl,rfl,trivial⟩)
 ·refine Rn.uu b λa b=> ?_;exact Rn.fi b ⟨by rw[g],f⟩
 ·exact Rn.fi b ⟨by rw[g],f⟩
end L1
section
open Go.RowKit
structure MX (w M:World) (H:List Value):Prop where
 below:Bw w M
 there:M.there w.heap.size 0 6
 row:M.rangeAt (w.heap.size+1) 0 H
theorem H6{a:World}(T:TypeId)(H:List Value)(d:a.heap.size=w.heap.size+1)(e:Bw w a)(c:a.there w.heap.size 0 6)(f:H.length=6):
 MX w (((No a).alloc (.cells #[.i 0, .i 0, .i 0, .i 0, .i 0, .string ⟨#[]⟩] T)).setCells (w.heap.size+1) 0 H.toArray.toList) H:=by have b:((No a).alloc (.cells #[.i 0, .i 0, .i 0, .i 0, .i 0, .string ⟨#[]⟩] T)).there (w.heap.size+1) 0 6:=cX _ _ _ _ _ d.symm rfl;exact⟨bN o_ _ _ _ _ ((Below.drew e).alloc (by show w.heap.size<=a.heap.size;omega) _),World.there_setCells (World.there_alloc ((World.there_drew _ _ _ _).2 c) _) _ _ _,AI _ _ _ _ (by rw[f];exact b)⟩
end
namespace L1
open Go.RowKit
theorem yD(s:ByteArray)(w:World)(hs:s.size<=281474976000000):
 Calls lT 41 #[.s s] w λe w'=>e= .returned (.tuple #[.agg (lz s.data.toList).1.toArray, .i (lz s.data.toList).2])/\Bw w w':=by
 have hsl:s.data.toList.length=s.size:=by rw[Array.length_toList];rfl
 by_cases h1:s.size<8192
 ·have hF:lz s.data.toList=(eC,3):=by rw[lz,if_pos (by rw[hsl];exact h1)]
  rw[hF];have h1':(s.size:Int)<8192:=o_
  go_enter Lf.func41,Tryz.ntmps41
  go_wp2_with fail
  exact bodyPost_ret (v:= .tuple #[.agg eC.toArray, .i 3]) (bE (p:=2) (q:=3) (ty:=87) k_ _ _ w.heap.size 0 eC _ _ rfl (dm _ eC _ _ rfl) rfl Lf.underlying87 rfl k_) rfl ⟨rfl,(bR).alloc (T6 _) _⟩
 ·have h1':¬(s.size:Int)<8192:=o_
  have h1i:(8192:Int)<=(s.size:Int):=o_
  have hcut:=λa b (h:b<=8192)=>nC s.data.toList a b (by rw[hsl];omega);have ht4:s.extract 0 4=⟨(s.data.toList.take 4).toArray⟩:=by rw[PC];rfl
  by_cases h2:s.data.toList.take 4≠[76,78,84,76]
  ·have hF:lz s.data.toList=(eC,4):=(by rw[lz,if_neg (by rw[hsl];exact h1),if_pos h2]);rw[hF];have h2b:(s.data.toList.take 4==[76,78,84,76])=false:=by rw[beq_eq_false_iff_ne];exact h2
   go_enter Lf.func41,Tryz.ntmps41
   go_wp2_with fail
   exact bodyPost_ret (v:= .tuple #[.agg eC.toArray, .i 4]) (bE (p:=2) (q:=3) (ty:=87) k_ _ _ w.heap.size 0 eC _ _ rfl (dm _ eC _ _ rfl) rfl Lf.underlying87 rfl k_) rfl ⟨rfl,(bR).alloc (T6 _) _⟩
  ·have h2e:s.data.toList.take 4=[76,78,84,76]:=Classical.not_not.1 h2;have h2b:(s.data.toList.take 4==[76,78,84,76])=true:=(by rw[beq_iff_eq];exact h2e);rw[show lz s.data.toList=lJ (cZ (cz s.data.toList 4 6)) (cZ (cz s.data.toList 6 10)) (cZ (cz s.data.toList 10 14)) (cZ (cz s.data.toList 14 18)) (cZ (cz s.data.toList 18 22)) (cz s.data.toList 22 78)from by rw[lz,if_neg (by rw[hsl];exact h1),if_neg h2]];have hb:∀a b,b<=8192->b- a<=4->0<=cZ (cz s.data.toList a b)/\cZ (cz s.data.toList a b)<4294967296:=λa b h h'=>jj _ 4 (by rw[hcut a b h];exact h');have q1:=hb 4 6 o_ o_;have q2:=hb 6 10 o_ o_;have q3:=hb 10 14 o_ o_;have q4:=hb 14 18 o_ o_;have q5:=hb 18 22 o_ o_;have n1:∀W,Calls lT 37 #[.s s, .i 4, .i 2] W λe w'=>e= .returned (.i (cZ (cz s.data.toList 4 6)))/\w'=W:=λW=>gh s 4 2 W o_ o_ o_;have n2:∀W,Calls lT 37 #[.s s, .i 6, .i 4] W λe w'=>e= .returned (.i (cZ (cz s.data.toList 6 10)))/\w'=W:=λW=>gh s 6 4 W o_ o_ o_;have n3:∀W,Calls lT 37 #[.s s, .i 10, .i 4] W λe w'=>e= .returned (.i (cZ (cz s.data.toList 10 14)))/\w'=W:=λW=>gh s 10 4 W o_ o_ o_;have n4:∀W,Calls lT 37 #[.s s, .i 14, .i 4] W λe w'=>e= .returned (.i (cZ (cz s.data.toList 14 18)))/\w'=W:=λW=>gh s 14 4 W o_ o_ o_;have n5:∀W,Calls lT 37 #[.s s, .i 18, .i 4] W λe w'=>e= .returned (.i (cZ (cz s.data.toList 18 22)))/\w'=W:=λW=>gh s 18 4 W o_ o_ o_;have hk:s.extract 22 78=⟨(cz s.data.toList 22 78).toArray⟩:=PC s 22 78;generalize cZ (cz s.data.toList 4 6)=v at*;generalize cZ (cz s.data.toList 6 10)=sg at*;generalize cZ (cz s.data.toList 10 14)=en at*;generalize cZ (cz s.data.toList 14 18)=a at*;generalize cZ (cz s.data.toList 18 22)=l at*;generalize cz s.data.toList 22 78=ky at*;obtain⟨q1a,q1b⟩:=q1;obtain⟨q2a,q2b⟩:=q2;obtain⟨q3a,q3b⟩:=q3;obtain⟨q4a,q4b⟩:=q4;obtain⟨q5a,q5b⟩:=q5;clear hb hcut h2 h2e;have N1:Hid _:=n1;have N2:Hid _:=n2;have N3:Hid _:=n3;have N4:Hid _:=n4;have N5:Hid _:=n5;clear n1 n2 n3 n4 n5
   go_enter Lf.func41,Tryz.ntmps41
   go_upto_region 5 with fail
   obtain⟨W0,hW0⟩:∃W0,W0=w.alloc (.cells eC.toArray 87):=⟨_,rfl⟩;have hW0':w.alloc (.cells #[.i 0, .i 0, .i 0, .i 0, .i 0, .string ⟨#[]⟩] 87)=W0:=hW0.symm;rw[hW0'];have hs0:W0.heap.size=w.heap.size+1:=(by rw[hW0];simp);have hb0:Bw w W0:=(by rw[hW0];exact(bR).alloc (T6 _) _);have ht0:W0.there w.heap.size 0 6:=(by rw[hW0];exact cX _ _ _ _ _ rfl rfl);clear hW0 hW0'
   go_cut [4] (λp M=>p= .pk (w.heap.size+1) 0/\MX w M (pa v sg en a l ky))
   case first=>
    have HW:Hid (MX w (((No W0).alloc (.cells #[.i 0, .i 0, .i 0, .i 0, .i 0, .string ⟨#[]⟩] 87)).setCells (w.heap.size+1) 0 (pa v sg en a l ky).toArray.toList) (pa v sg en a l ky)):=H6 _ _ hs0 hb0 ht0 rfl;have HT:Hid (((No W0).alloc (.cells #[.i 0, .i 0, .i 0, .i 0, .i 0, .string ⟨#[]⟩] 87)).there (w.heap.size+1) 0 (pa v sg en a l ky).toArray.size):=cX _ _ _ _ _ hs0.symm rfl;refine wp_region_any k_ ?_
    change wpAny _ _ _ _ _ _ _ (No W0)
    refine wT 0 (.s s) ?_;refine wT 2 (.s s) ?_;refine wT 4 (.s s) ?_;refine wT 6 (.s s) ?_;refine wT 8 (.s s) ?_;refine wT 10 (.s s) ?_;refine wpAny_take (i:=11) (v:= .string ⟨ky.toArray⟩) rfl k_ k_ k_ (λ_ _ _ h=>h) (Or.inl ⟨by rfl,by intro w;go_simp;intro h;omega⟩) ?_;refine wpAny_all (rs:=[1,13]) k_ (Ti _ _) (Pv (Pu rfl rfl (Ps 37 #[.s s, .i 4, .i 2] (by go_simp) (.i v) (λw'=>w'=No W0) (N1.out _) (λw2 hw2=> ?_))) (Pu rfl rfl (l9 (.pk (w.heap.size+1) 0) ((No W0).alloc (.cells #[.i 0, .i 0, .i 0, .i 0, .i 0, .string ⟨#[]⟩] 87)) (by go_simp;done) ?_)))
    ·subst hw2;refine wpAny_all (rs:=[3,13]) k_ (Ti _ _) (Pv (Pu rfl rfl (Ps 37 #[.s s, .i 6, .i 4] (by go_simp) (.i sg) (λw'=>w'=No W0) (N2.out _) (λw2 hw2=> ?_))) (Pu rfl rfl (l9 (.pk (w.heap.size+1) 0) ((No W0).alloc (.cells #[.i 0, .i 0, .i 0, .i 0, .i 0, .string ⟨#[]⟩] 87)) (by go_simp;done) ?_)))
     ·subst hw2;refine wpAny_all (rs:=[5,13]) k_ (Ti _ _) (Pv (Pu rfl rfl (Ps 37 #[.s s, .i 10, .i 4] (by go_simp) (.i en) (λw'=>w'=No W0) (N3.out _) (λw2 hw2=> ?_))) (Pu rfl rfl (l9 (.pk (w.heap.size+1) 0) ((No W0).alloc (.cells #[.i 0, .i 0, .i 0, .i 0, .i 0, .string ⟨#[]⟩] 87)) (by go_simp;done) ?_)))
      ·subst hw2;refine wpAny_all (rs:=[7,13]) k_ (Ti _ _) (Pv (Pu rfl rfl (Ps 37 #[.s s, .i 14, .i 4] (by go_simp) (.i a) (λw'=>w'=No W0) (N4.out _) (λw2 hw2=> ?_))) (Pu rfl rfl (l9 (.pk (w.heap.size+1) 0) ((No W0).alloc (.cells #[.i 0, .i 0, .i 0, .i 0, .i 0, .string ⟨#[]⟩] 87)) (by go_simp;done) ?_)))
       ·subst hw2;refine wpAny_all (rs:=[9,13]) k_ (Ti _ _) (Pv (Pu rfl rfl (Ps 37 #[.s s, .i 18, .i 4] (by go_simp) (.i l) (λw'=>w'=No W0) (N5.out _) (λw2 hw2=> ?_))) (Pu rfl rfl (l9 (.pk (w.heap.size+1) 0) ((No W0).alloc (.cells #[.i 0, .i 0, .i 0, .i 0, .i 0, .string ⟨#[]⟩] 87)) (by go_simp;done) ?_)))
        ·subst hw2;refine wT 12 (.agg #[.i v, .i sg, .i en, .i a, .i l, .string ⟨ky.toArray⟩]) ?_;refine wpAny_all (rs:=[13]) k_ (Ti _ _) (Pw (Pu rfl rfl (l9 (.pk (w.heap.size+1) 0) ((No W0).alloc (.cells #[.i 0, .i 0, .i 0, .i 0, .i 0, .string ⟨#[]⟩] 87)) (by go_simp;done) ?_)));refine wpAny_all (rs:=[14]) k_ (Ti _ _) (Pw (Pz (by rfl) (by rfl) 87 (.tmp 4) (.tmp 25) (by rfl) (w.heap.size+1) 0 (pa v sg en a l ky).toArray (by go_simp) (by go_simp;rfl) HT.out k_ k_ (by rfl) ?_));refine wpAny_done k_ ?_ _
         go_wp2_with fail
         go_meet
         case rel=>exact⟨rfl,HW.out⟩
        ·skip
         refine wpAny_all (rs:=[9]) k_ (Ti _ _) (Pw (Pu rfl rfl (Ps 37 #[.s s, .i 18, .i 4] (by go_simp) (.i l) (λw'=>w'=((No W0).alloc (.cells #[.i 0, .i 0, .i 0, .i 0, .i 0, .string ⟨#[]⟩] 87))) (N5.out _) (λw2 hw2=> ?_))));subst hw2;refine wT 12 (.agg #[.i v, .i sg, .i en, .i a, .i l, .string ⟨ky.toArray⟩]) ?_;refine wpAny_all (rs:=[14]) k_ (Ti _ _) (Pw (Pz (by rfl) (by rfl) 87 (.tmp 4) (.tmp 25) (by rfl) (w.heap.size+1) 0 (pa v sg en a l ky).toArray (by go_simp) (by go_simp;rfl) HT.out k_ k_ (by rfl) ?_));refine wpAny_done k_ ?_ _
         go_wp2_with fail
         go_meet
         case rel=>exact⟨rfl,HW.out⟩
       ·skip
        refine wpAny_all (rs:=[7]) k_ (Ti _ _) (Pw (Pu rfl rfl (Ps 37 #[.s s, .i 14, .i 4] (by go_simp) (.i a) (λw'=>w'=((No W0).alloc (.cells #[.i 0, .i 0, .i 0, .i 0, .i 0, .string ⟨#[]⟩] 87))) (N4.out _) (λw2 hw2=> ?_))));subst hw2;refine wpAny_all (rs:=[9]) k_ (Ti _ _) (Pw (Pu rfl rfl (Ps 37 #[.s s, .i 18, .i 4] (by go_simp) (.i l) (λw'=>w'=((No W0).alloc (.cells #[.i 0, .i 0, .i 0, .i 0, .i 0, .string ⟨#[]⟩] 87))) (N5.out _) (λw2 hw2=> ?_))));subst hw2;refine wT 12 (.agg #[.i v, .i sg, .i en, .i a, .i l, .string ⟨ky.toArray⟩]) ?_;refine wpAny_all (rs:=[14]) k_ (Ti _ _) (Pw (Pz (by rfl) (by rfl) 87 (.tmp 4) (.tmp 25) (by rfl) (w.heap.size+1) 0 (pa v sg en a l ky).toArray (by go_simp) (by go_simp;rfl) HT.out k_ k_ (by rfl) ?_));refine wpAny_done k_ ?_ _
        go_wp2_with fail
        go_meet
        case rel=>exact⟨rfl,HW.out⟩
      ·skip
       refine wpAny_all (rs:=[5]) k_ (Ti _ _) (Pw (Pu rfl rfl (Ps 37 #[.s s, .i 10, .i 4] (by go_simp) (.i en) (λw'=>w'=((No W0).alloc (.cells #[.i 0, .i 0, .i 0, .i 0, .i 0, .string ⟨#[]⟩] 87))) (N3.out _) (λw2 hw2=> ?_))));subst hw2;refine wpAny_all (rs:=[7]) k_ (Ti _ _) (Pw (Pu rfl rfl (Ps 37 #[.s s, .i 14, .i 4] (by go_simp) (.i a) (λw'=>w'=((No W0).alloc (.cells #[.i 0, .i 0, .i 0, .i 0, .i 0, .string ⟨#[]⟩] 87))) (N4.out _) (λw2 hw2=> ?_))));subst hw2;refine wpAny_all (rs:=[9]) k_ (Ti _ _) (Pw (Pu rfl rfl (Ps 37 #[.s s, .i 18, .i 4] (by go_simp) (.i l) (λw'=>w'=((No W0).alloc (.cells #[.i 0, .i 0, .i 0, .i 0, .i 0, .string ⟨#[]⟩] 87))) (N5.out _) (λw2 hw2=> ?_))));subst hw2;refine wT 12 (.agg #[.i v, .i sg, .i en, .i a, .i l, .string ⟨ky.toArray⟩]) ?_;refine wpAny_all (rs:=[14]) k_ (Ti _ _) (Pw (Pz (by rfl) (by rfl) 87 (.tmp 4) (.tmp 25) (by rfl) (w.heap.size+1) 0 (pa v sg en a l ky).toArray (by go_simp) (by go_simp;rfl) HT.out k_ k_ (by rfl) ?_));refine wpAny_done k_ ?_ _
       go_wp2_with fail
       go_meet
       case rel=>exact⟨rfl,HW.out⟩
     ·skip
      refine wpAny_all (rs:=[3]) k_ (Ti _ _) (Pw (Pu rfl rfl (Ps 37 #[.s s, .i 6, .i 4] (by go_simp) (.i sg) (λw'=>w'=((No W0).alloc (.cells #[.i 0, .i 0, .i 0, .i 0, .i 0, .string ⟨#[]⟩] 87))) (N2.out _) (λw2 hw2=> ?_))));subst hw2;refine wpAny_all (rs:=[5]) k_ (Ti _ _) (Pw (Pu rfl rfl (Ps 37 #[.s s, .i 10, .i 4] (by go_simp) (.i en) (λw'=>w'=((No W0).alloc (.cells #[.i 0, .i 0, .i 0, .i 0, .i 0, .string ⟨#[]⟩] 87))) (N3.out _) (λw2 hw2=> ?_))));subst hw2;refine wpAny_all (rs:=[7]) k_ (Ti _ _) (Pw (Pu rfl rfl (Ps 37 #[.s s, .i 14, .i 4] (by go_simp) (.i a) (λw'=>w'=((No W0).alloc (.cells #[.i 0, .i 0, .i 0, .i 0, .i 0, .string ⟨#[]⟩] 87))) (N4.out _) (λw2 hw2=> ?_))));subst hw2;refine wpAny_all (rs:=[9]) k_ (Ti _ _) (Pw (Pu rfl rfl (Ps 37 #[.s s, .i 18, .i 4] (by go_simp) (.i l) (λw'=>w'=((No W0).alloc (.cells #[.i 0, .i 0, .i 0, .i 0, .i 0, .string ⟨#[]⟩] 87))) (N5.out _) (λw2 hw2=> ?_))));subst hw2;refine wT 12 (.agg #[.i v, .i sg, .i en, .i a, .i l, .string ⟨ky.toArray⟩]) ?_;refine wpAny_all (rs:=[14]) k_ (Ti _ _) (Pw (Pz (by rfl) (by rfl) 87 (.tmp 4) (.tmp 25) (by rfl) (w.heap.size+1) 0 (pa v sg en a l ky).toArray (by go_simp) (by go_simp;rfl) HT.out k_ k_ (by rfl) ?_));refine wpAny_done k_ ?_ _
      go_wp2_with fail
      go_meet
      case rel=>exact⟨rfl,HW.out⟩
    ·skip
     refine wpAny_all (rs:=[1]) k_ (Ti _ _) (Pw (Pu rfl rfl (Ps 37 #[.s s, .i 4, .i 2] (by go_simp) (.i v) (λw'=>w'=((No W0).alloc (.cells #[.i 0, .i 0, .i 0, .i 0, .i 0, .string ⟨#[]⟩] 87))) (N1.out _) (λw2 hw2=> ?_))));subst hw2;refine wpAny_all (rs:=[3]) k_ (Ti _ _) (Pw (Pu rfl rfl (Ps 37 #[.s s, .i 6, .i 4] (by go_simp) (.i sg) (λw'=>w'=((No W0).alloc (.cells #[.i 0, .i 0, .i 0, .i 0, .i 0, .string ⟨#[]⟩] 87))) (N2.out _) (λw2 hw2=> ?_))));subst hw2;refine wpAny_all (rs:=[5]) k_ (Ti _ _) (Pw (Pu rfl rfl (Ps 37 #[.s s, .i 10, .i 4] (by go_simp) (.i en) (λw'=>w'=((No W0).alloc (.cells #[.i 0, .i 0, .i 0, .i 0, .i 0, .string ⟨#[]⟩] 87))) (N3.out _) (λw2 hw2=> ?_))));subst hw2;refine wpAny_all (rs:=[7]) k_ (Ti _ _) (Pw (Pu rfl rfl (Ps 37 #[.s s, .i 14, .i 4] (by go_simp) (.i a) (λw'=>w'=((No W0).alloc (.cells #[.i 0, .i 0, .i 0, .i 0, .i 0, .string ⟨#[]⟩] 87))) (N4.out _) (λw2 hw2=> ?_))));subst hw2;refine wpAny_all (rs:=[9]) k_ (Ti _ _) (Pw (Pu rfl rfl (Ps 37 #[.s s, .i 18, .i 4] (by go_simp) (.i l) (λw'=>w'=((No W0).alloc (.cells #[.i 0, .i 0, .i 0, .i 0, .i 0, .string ⟨#[]⟩] 87))) (N5.out _) (λw2 hw2=> ?_))));subst hw2;refine wT 12 (.agg #[.i v, .i sg, .i en, .i a, .i l, .string ⟨ky.toArray⟩]) ?_;refine wpAny_all (rs:=[14]) k_ (Ti _ _) (Pw (Pz (by rfl) (by rfl) 87 (.tmp 4) (.tmp 25) (by rfl) (w.heap.size+1) 0 (pa v sg en a l ky).toArray (by go_simp) (by go_simp;rfl) HT.out k_ k_ (by rfl) ?_));refine wpAny_done k_ ?_ _
     go_wp2_with fail
     go_meet
     case rel=>exact⟨rfl,HW.out⟩
   case rest=>
    obtain⟨rfl,hM⟩:=hcut;have HW:Hid _:=hM;have HTz:Hid (wc.there w.heap.size 0 eC.toArray.size):=hM.there;have HTl:Hid (wc.there w.heap.size 0 eC.length):=hM.there;have HUz:Hid (wc.there w.heap.size 0 (pa v sg en a l ky).toArray.size):=hM.there;have HUl:Hid (wc.there w.heap.size 0 (pa v sg en a l ky).length):=hM.there;have HR:Hid (wc.rangeAt (w.heap.size+1) 0 (pa v sg en a l ky)):=hM.row;have f1:wc.cell? ⟨w.heap.size+1,1,none⟩=some (.i sg):=hM.row 1 _ rfl;have f2:wc.cell? ⟨w.heap.size+1,2,none⟩=some (.i en):=hM.row 2 _ rfl;have f3:wc.cell? ⟨w.heap.size+1,3,none⟩=some (.i a):=hM.row 3 _ rfl;have f4:wc.cell? ⟨w.heap.size+1,4,none⟩=some (.i l):=hM.row 4 _ rfl;clear N1 N2 N3 N4 N5 ht4 h2b hk h1 h1i h1' hsl hs0 hb0 ht0 hM;have hw:=ck (a+l) o_ o_;by_cases c1:sg<78
    ·have hG:lJ v sg en a l ky=(eC,5):=by rw[lJ,if_pos o_]
     go_wp2_with (refine wpList_store_mid rfl 87 (.tmp 2) (.tmp 49) rfl w.heap.size 0 eC.toArray rfl rfl HTz.out k_ k_ ?_)
     exact bodyPost_ret (v:= .tuple #[.agg eC.toArray, .i 5]) (bE (p:=2) (q:=3) (ty:=87) k_ _ _ w.heap.size 0 eC _ _ rfl (AI _ _ _ _ HTl.out) rfl Lf.underlying87 rfl k_) rfl ⟨by first|rw[hG]|rfl,bN (T6 _) _ _ _ _ HW.out.below⟩
    ·have c1':¬sg<78:=c1;by_cases c2:8192<sg
     ·have hG:lJ v sg en a l ky=(eC,5):=by rw[lJ,if_pos o_]
      go_wp2_with (refine wpList_store_mid rfl 87 (.tmp 2) (.tmp 49) rfl w.heap.size 0 eC.toArray rfl rfl HTz.out k_ k_ ?_)
      exact bodyPost_ret (v:= .tuple #[.agg eC.toArray, .i 5]) (bE (p:=2) (q:=3) (ty:=87) k_ _ _ w.heap.size 0 eC _ _ rfl (AI _ _ _ _ HTl.out) rfl Lf.underlying87 rfl k_) rfl ⟨by first|rw[hG]|rfl,bN (T6 _) _ _ _ _ HW.out.below⟩
     ·have c2':¬8192<sg:=c2;by_cases c3:a<sg
      ·have hG:lJ v sg en a l ky=(eC,5):=by rw[lJ,if_pos o_]
       go_wp2_with (refine wpList_store_mid rfl 87 (.tmp 2) (.tmp 49) rfl w.heap.size 0 eC.toArray rfl rfl HTz.out k_ k_ ?_)
       exact bodyPost_ret (v:= .tuple #[.agg eC.toArray, .i 5]) (bE (p:=2) (q:=3) (ty:=87) k_ _ _ w.heap.size 0 eC _ _ rfl (AI _ _ _ _ HTl.out) rfl Lf.underlying87 rfl k_) rfl ⟨by first|rw[hG]|rfl,bN (T6 _) _ _ _ _ HW.out.below⟩
      ·have c3':¬a<sg:=c3;by_cases c4:8192<a+l
       ·have hG:lJ v sg en a l ky=(eC,5):=by rw[lJ,if_pos o_]
        go_wp2_with (refine wpList_store_mid rfl 87 (.tmp 2) (.tmp 49) rfl w.heap.size 0 eC.toArray rfl rfl HTz.out k_ k_ ?_)
        exact bodyPost_ret (v:= .tuple #[.agg eC.toArray, .i 5]) (bE (p:=2) (q:=3) (ty:=87) k_ _ _ w.heap.size 0 eC _ _ rfl (AI _ _ _ _ HTl.out) rfl Lf.underlying87 rfl k_) rfl ⟨by first|rw[hG]|rfl,bN (T6 _) _ _ _ _ HW.out.below⟩
       ·have c4':¬8192<a+l:=c4;have hE:¬(sg<78\/8192<sg\/a<sg\/8192<a+l):=o_;by_cases d1:en%4≠0
        ·have hG:lJ v sg en a l ky=(eC,6):=(by rw[lJ,if_neg hE,if_pos o_]);have d1b:(en%4==0)=false:=by rw[beq_eq_false_iff_ne];exact d1
         go_wp2_with (refine wpList_store_mid rfl 87 (.tmp 2) (.tmp 66) rfl w.heap.size 0 eC.toArray rfl rfl HTz.out k_ k_ ?_)
         exact bodyPost_ret (v:= .tuple #[.agg eC.toArray, .i 6]) (bE (p:=2) (q:=3) (ty:=87) k_ _ _ w.heap.size 0 eC _ _ rfl (AI _ _ _ _ HTl.out) rfl Lf.underlying87 rfl k_) rfl ⟨by first|rw[hG]|rfl,bN (T6 _) _ _ _ _ HW.out.below⟩
        ·have d1b:(en%4==0)=true:=(by rw[beq_iff_eq];omega);by_cases d2:en<78
         ·have hG:lJ v sg en a l ky=(eC,6):=by rw[lJ,if_neg hE,if_pos o_]
          go_wp2_with (refine wpList_store_mid rfl 87 (.tmp 2) (.tmp 66) rfl w.heap.size 0 eC.toArray rfl rfl HTz.out k_ k_ ?_)
          exact bodyPost_ret (v:= .tuple #[.agg eC.toArray, .i 6]) (bE (p:=2) (q:=3) (ty:=87) k_ _ _ w.heap.size 0 eC _ _ rfl (AI _ _ _ _ HTl.out) rfl Lf.underlying87 rfl k_) rfl ⟨by first|rw[hG]|rfl,bN (T6 _) _ _ _ _ HW.out.below⟩
         ·have d2':¬en<78:=d2;by_cases d3:sg<=en
          ·have hG:lJ v sg en a l ky=(eC,6):=by rw[lJ,if_neg hE,if_pos o_]
           go_wp2_with (refine wpList_store_mid rfl 87 (.tmp 2) (.tmp 66) rfl w.heap.size 0 eC.toArray rfl rfl HTz.out k_ k_ ?_)
           exact bodyPost_ret (v:= .tuple #[.agg eC.toArray, .i 6]) (bE (p:=2) (q:=3) (ty:=87) k_ _ _ w.heap.size 0 eC _ _ rfl (AI _ _ _ _ HTl.out) rfl Lf.underlying87 rfl k_) rfl ⟨by first|rw[hG]|rfl,bN (T6 _) _ _ _ _ HW.out.below⟩
          ·have d3':¬sg<=en:=d3;have hG:lJ v sg en a l ky=(pa v sg en a l ky,0):=by rw[lJ,if_neg hE,if_neg o_]
           go_wp2_with (first
                  |refine wpList_load_mid rfl 87 (.tmp 4) rfl (w.heap.size+1) 0 rfl (pa v sg en a l ky) _ HR.out Lf.underlying87 rfl k_ ?_
                  |refine wpList_store_mid rfl 87 (.tmp 2) (.tmp 67) rfl w.heap.size 0 (pa v sg en a l ky).toArray rfl rfl HUz.out k_ k_ ?_)
           exact bodyPost_ret (v:= .tuple #[.agg (pa v sg en a l ky).toArray, .i 0]) (bE (p:=2) (q:=3) (ty:=87) k_ _ _ w.heap.size 0 (pa v sg en a l ky) _ _ rfl (AI _ _ _ _ HUl.out) rfl Lf.underlying87 rfl k_) rfl ⟨by first|rw[hG]|rfl,bN (T6 _) _ _ _ _ HW.out.below⟩
end L1
namespace L1
open Go.Conc Go.RowKit
theorem FP(KS:List Int)(b:KS.length=64)(a:iU KS)(g:Array Value)(key msg sig:ByteArray)(h:msg.size<=281474976706560)(i:key.size<=1125899906842624)(hs:sig.size<=1125899906842624):∃c,uw KS key msg sig c/\∀w:World,kZ KS g w->Calls lT 15 #[.agg g, .s key, .s msg, .s sig] w λe w'=>e= .returned (.i c)/\Bw w w':=by obtain⟨c,f⟩:=xX KS key msg sig;exact⟨c,f,λw j=>(xW b a key msg sig h i hs w j).mono λe w' ⟨d,m,l,k⟩=>⟨by rw[m,wV l f],k⟩⟩
theorem Kz:Tryz.f19.body=some (.seq (rG Tryz.f19 0) (.seq (rG Tryz.f19 1) (.seq (.seq (rG Tryz.f19 2) (.cond (.tmp 17) (.seq (rG Tryz.f19 3) .ret) .skip)) (.seq (.seq (rG Tryz.f19 4) (.cond (.tmp 23) (.seq (rG Tryz.f19 5) .ret) .skip)) (.seq (rD Tryz.f19 6) (.seq (.seq (rG Tryz.f19 7) (.cond (.tmp 31) (.seq (rG Tryz.f19 8) .ret) .skip)) (.seq (rD Tryz.f19 9) (.seq (.seq (rG Tryz.f19 10) (.cond (.tmp 50) (.seq (rG Tryz.f19 11) .ret) .skip)) (.seq (rG Tryz.f19 12) .ret))))))))):=k_
theorem C0(KS:List Int)(I:KS.length=64)(H:iU KS)(j:Array Value)(s:ByteArray)(st le:Int)(r x:Value)(us:List Bool)(hs:List ByteArray)(w:World)(hU:dP w r (us.map .bool))(hH:dP w x (hs.map .string))(T:us.length<4611686018427387904)(R:s.size<=281474976000000)(hC:kZ KS j w):
 Calls lT 19 #[.agg j, .s s, .agg (dO st le r x)] w λe w'=>∃n c,e= .returned (.tuple #[.i n, .i c])/\Cr KS s le us hs n c/\Bw w w':=by
 refine jm (t:=6) (u:=7) Lf.func19 rfl λcs=> ?_;rw[bP (N:=54) [.agg j, .s s, .agg (dO st le r x)] Lf.func19 Kz rfl];have b:=aY [.agg j, .s s, .agg (dO st le r x)] 54 s_;refine Rn.zz b λw0 a X m z0 b=> ?_;refine Rn.zz b λY a B q z1 b=> ?_;have m:=(B.block _ o_).trans m;have B:Bw w Y:=aE X X.size B;rw[z0]at b q
 iterate 3 refine Rn.uu b λa b=> ?_
 refine Rn.cw b Lf.func41 ((yD s Y R)) λg K a b=> ?_;have B2:Bw w g:=aE B B.size K;have z2:=K.size;have m:=(K.block _ o_).trans m;have q:=(K.block _ o_).trans q
 iterate 3 refine Rn.uu b λa b=> ?_
 refine Rn.al b (λo S=>CU S) λQ a A V _ b=> ?_;have m:=(A.block _ o_).trans m;have q:=(A.block _ o_).trans q;have i:=D5 s.data.toList;have F:=D4 s.data.toList;refine Rn.nn b (λo S=>cd (cells:=(lz s.data.toList).1.toArray) S (b.G 8) (b.G 14) V (by rw[H3,Q5,i]) (by rw[Q5,Q5,i];rfl) (by rw[Array.all_eq_true'];intro v D;exact F v (by simpa using D))) λa b=> ?_;have h:=setRow_heap Q g.heap.size _ (lz s.data.toList).1.toArray _ _ V;have f:Bw g (Q.setRow g.heap.size (lz s.data.toList).1.toArray):=A.trans (bT _ _ _ (T6 _));have y:=(f.block _ (o_:w.heap.size<g.heap.size)).trans ((A.block _ o_).symm.trans m);have P:=(f.block _ (o_:w.heap.size+1<g.heap.size)).trans ((A.block _ o_).symm.trans q);revert h f y P;generalize Q.setRow g.heap.size (lz s.data.toList).1.toArray=w4;intro h f y P;have f:Bw w w4:=aE B2 B2.size f;refine Rn.uu b λa b=> ?_;clear X B K A m q V
 iterate 2 refine Rn.uu b λa b=> ?_
 refine Rn.p rfl (Rn.cond _ (b.G 17) ?_);by_cases O:(lz s.data.toList).2=0
 ·rw[show((lz s.data.toList).2 !=0)=false from by simpa using O];obtain⟨v,J,p,d,l,k,G,g1,g2,g3,g4,g5⟩:=H7 s O;rw[G]at h;have e3:((d+l:Nat):Int)=(d:Int)+l:=Int.natCast_add _ _;have a0:(⟨k.toArray⟩:ByteArray).size<=56:=by show k.toArray.size<=_;rw[Q5];omega
  iterate 5 refine Rn.uu b λa b=> ?_
  refine Rn.p rfl (Rn.cond _ (b.G 23) ?_);by_cases U:v<le
  ·rw[decide_eq_true U]
   iterate 2 refine Rn.uu b λa b=> ?_
   exact Rn.fj b ⟨0,7,rfl, .inr ⟨v,J,p,d,l,k,G, .inl ⟨U,rfl,rfl⟩⟩,f⟩
  rw[decide_eq_false U];have b:Has [(8, .pt g.heap.size),(5, .pt (w.heap.size+1)),(3, .pt w.heap.size),(1, .s s)] 54 [] a:=b.only ⟨rfl,rfl,rfl,rfl,trivial⟩;have C:=(gA h).1;have l5:=(gA P).1;have Z:=(gA y).1;have hX:j8 KS [⟨k.toArray⟩]=⟨(dU KS (⟨k.toArray⟩:ByteArray).data.toList).toArray⟩:=by simp[j8]
  refine Rn.p rfl (Rn.p rfl ?_);refine Rn.tab (v:= .bool (dY us hs (j8 KS [⟨k.toArray⟩]))) b [(24, .agg (dO st le r x)),(25, .agg j),(26, .pk g.heap.size 5),(27, .string ⟨k.toArray⟩),(28, .s (j8 KS [⟨k.toArray⟩])),(29, .bool (dY us hs (j8 KS [⟨k.toArray⟩]))),(10, .bool (dY us hs (j8 KS [⟨k.toArray⟩])))] [10] 10
   ⟨λz=>dv (tI z.e (z.k 5) ((z.b.block _ l5).trans P)),
    tq,
    tq,
    λz=>dv (aN bA z.e (z.k 26) ((aH ((z.b.block _ C).trans h) 5).trans rfl)).1,
    λz=>z.c2 (z.k 25) (z.k 27) (gP KS I H j ⟨k.toArray⟩ _ (hC.mono (aE f f.size z.b)) o_) (congrArg Value.string hX.symm),
    λz=>z.c2 (z.k 24) (z.k 28) (wS _ st le r x us hs _ (hU.below (aE f f.size z.b)) (hH.below (aE f f.size z.b)) T),
    trivial⟩ λa w5 ⟨W,b⟩=> ?_
  have L:Bw w w5:=aE f f.size W;have h:=(W.block _ C).trans h;have y:=(W.block _ Z).trans y;have C:=(gA h).1;have Z:=(gA y).1
  iterate 2 refine Rn.uu b λa b=> ?_
  refine Rn.p rfl (Rn.cond _ (b.G 31) ?_);cases D:dY us hs (j8 KS [⟨k.toArray⟩])with
  |false=>
   iterate 2 refine Rn.uu b λa b=> ?_
   exact Rn.fj b ⟨0,8,rfl, .inr ⟨v,J,p,d,l,k,G, .inr (.inl ⟨o_,D,rfl,rfl⟩)⟩,L⟩
  |true=>
   obtain⟨c,hc,E⟩:=FP KS I H j ⟨k.toArray⟩ (s.extract 0 p) (s.extract d (d+l)) (by rw[ByteArray.size_extract];omega) o_ (by rw[ByteArray.size_extract];omega);refine Rn.p rfl (Rn.p rfl ?_);refine Rn.tab (v:= .i c) b [(32, .agg j),(33, .pk g.heap.size 5),(34, .string ⟨k.toArray⟩),(35, .s s),(36, .pk g.heap.size 1),(37, .i p),(38, .s (s.extract 0 p)),(39, .s s),(40, .pk g.heap.size 3),(41, .i d),(42, .pk g.heap.size 3),(43, .i d),(44, .pk g.heap.size 4),(45, .i l),(46, .i (d+l:Nat)),(47, .s (s.extract d (d+l))),(48, .i c),(9, .i c)] [35,39,9] 9
    ⟨tq,
     tq,
     λz=>dv (aN bA z.e (z.k 33) ((aH ((z.b.block _ C).trans h) 5).trans rfl)).1,
     tq,
     tq,
     λz=>dv (nT z.e (z.k 35) (z.k 37) o_),
     tq,
     tq,
     tq,
     tq,
     tq,
     tq,
     λz=>pv (iA (u:=3) z.e (z.k 43) (z.k 45) o_) (by rw[e3]),
     λz=>dv (dR z.e (z.k 39) (z.k 41) (z.k 46) o_ o_).1,
     λz=>z.c4 (z.k 32) (z.k 34) (z.k 38) (z.k 47) (E _ (hC.mono (aE L L.size z.b))),
     trivial⟩ λa w6 ⟨b6,b⟩=> ?_
   have B6:Bw w w6:=aE L L.size b6;have h:=(b6.block _ C).trans h
   iterate 2 refine Rn.uu b λa b=> ?_
   refine Rn.p rfl (Rn.cond _ (b.G 50) ?_);by_cases M:c=0
   ·rw[show(c !=0)=false from by simpa using M]
    iterate 4 refine Rn.uu b λa b=> ?_
    exact Rn.fj b ⟨J,0,rfl, .inr ⟨v,J,p,d,l,k,G, .inr (.inr ⟨o_,D,c,hc, .inr ⟨M,rfl,rfl⟩⟩)⟩,B6⟩
   ·rw[show(c !=0)=true from by simpa using M]
    iterate 3 refine Rn.uu b λa b=> ?_
    exact Rn.fj b ⟨0,c,rfl, .inr ⟨v,J,p,d,l,k,G, .inr (.inr ⟨o_,D,c,hc, .inl ⟨M,rfl,rfl⟩⟩)⟩,B6⟩
 ·rw[show((lz s.data.toList).2 !=0)=true from by simpa using O]
  iterate 3 refine Rn.uu b λa b=> ?_
  exact Rn.fj b ⟨0,_,rfl, .inl ⟨O,rfl,rfl⟩,f⟩
theorem Jq{ev:Operand->Value}{y:Operand}{a b:Bool}(c:o.op= .binOp .neq 4 x y t)(e:ev x= .bool a)(d:ev y= .bool b):(execOp ev o).run lT w= .ok (.value (.bool (a !=b))) w:=by cases a<;>cases b<;>simp[execOp,c,e,d,go_sem]
def qG(f:Func):Code:= .seq (.seq (rG f 4) (.cond (.tmp 14) .skip (.exit 0))) (.seq (.block 1 (.seq (rD f 6) (.cond (.tmp 25) (.seq (rG f 7) .ret) .skip))) (rG f 5))
theorem Fp:Tryz.f43.body=some (.seq (rG Tryz.f43 0) (.seq (.seq (rG Tryz.f43 1) (.cond (.tmp 10) (.seq (rG Tryz.f43 2) .ret) .skip)) (.seq (.seq (rG Tryz.f43 3) (.block 0 (.loop (qG Tryz.f43)))) (.seq (rG Tryz.f43 8) .ret)))):=k_
theorem uR{w0:World}{l vb:Value}{L:List Bool}{k:List Item}(A:dP w0 l (L.map Value.bool))(y:dP w0 vb (L.map Value.bool))(G:L.length<4611686018427387904)
 (r:∀a w,Has [] 26 [] a->Bw w0 w->Rn lT Goal ((base 43).atR a k) cs w):
 ∀(m i:Nat) (a:Act) (w:World),L.length- i=m->i<=L.length->Has [(0,l),(1,vb),(5, .i i)] 26 [] a->Bw w0 w->
  Rn lT Goal ((base 43).atR a (.code (qG Tryz.f43):: .inLoop (qG Tryz.f43):: .inBlock 0::k)) cs w:=by
 obtain⟨F,C,rfl,g⟩:=A;obtain⟨E,B,rfl,f⟩:=y;intro m;induction m with
 |zero=>
  intro i a w u x b d
  iterate 4 refine Rn.uu b λa b=> ?_
  refine Rn.p rfl (Rn.cond _ (b.G 14) ?_);rw[decide_eq_false (by rw[Qg];omega)];exact Rn.p rfl (r a w (b.only trivial) d)
 |succ m s=>
  intro i a w u x b d;have c:i<L.length:=o_
  obtain⟨p,rfl,j⟩:=g i (Value.bool L[i]) (by simp[c]);obtain⟨o,rfl,h⟩:=f i (Value.bool L[i]) (by simp[c])
  iterate 4 refine Rn.uu b λa b=> ?_
  refine Rn.p rfl (Rn.cond _ (b.G 14) ?_);rw[decide_eq_true (by rw[Qg];omega)];refine Rn.p rfl (Rn.p rfl (Rn.p rfl (Rn.p rfl ?_)));refine Rn.tab (v:= .bool false) b [(17, .slice (some p) (L.map Value.bool).length C),(18, .i i),(19, .pointer (some (p.add i))),(20,Value.bool L[i]),(21, .slice (some o) (L.map Value.bool).length B),(22, .i i),(23, .pointer (some (o.add i))),(24,Value.bool L[i]),(25, .bool false)] [17,18,21,22] 25
   ⟨λz=>dv (dx (t:=42) (e:=4) (n:=i) k_ (λw=>k_) z.e (z.k 17) (z.k 18) (by simpa using c)).1,
    λz=>dv (aN lq z.e (z.k 19) (fO (aE d d.size z.b) j)).1,
    λz=>dv (dx (t:=42) (e:=4) (n:=i) k_ (λw=>k_) z.e (z.k 21) (z.k 22) (by simpa using c)).1,
    λz=>dv (aN lq z.e (z.k 23) (fO (aE d d.size z.b) h)).1,
    λz=>pv (Jq (t:=4) z.e (z.k 20) (z.k 24)) s_,
    trivial⟩ λa q ⟨D,b⟩=> ?_
  refine Rn.cond false (b.G 25) ?_
  iterate 3 refine Rn.uu b λa b=> ?_
  exact Rn.p rfl (Rn.p rfl (s (i+1) a q o_ o_ (b.only ⟨rfl,rfl,rfl,trivial⟩) (aE d d.size D)))
theorem FG{c vb:Value}{L:List Bool}(w:World)(i:dP w c (L.map Value.bool))(h:dP w vb (L.map Value.bool))(k:L.length<4611686018427387904):
 Calls lT 43 #[c,vb] w λe w'=>e= .returned (.bool true)/\Bw w w':=by refine bJ (t:=4) Lf.func43 rfl λq=> ?_;rw[bP (N:=26) [c,vb] Lf.func43 Fp rfl];have b:=aY [c,vb] 26 s_;refine Rn.uu b λa b=> ?_;have g:=i;have f:=h;obtain⟨p,s,m,_⟩:=g;obtain⟨n,r,l,_⟩:=f;refine Rn.uu b λa b=> ?_;refine Rn.vv b (λo d=>eb (e:=4) k_ d ((b.G 6).trans m)) λa b=> ?_;refine Rn.uu b λa b=> ?_;refine Rn.vv b (λo d=>eb (e:=4) k_ d ((b.G 8).trans l)) λa b=> ?_;refine Rn.uu b λa b=> ?_;refine Rn.p rfl (Rn.cond _ (b.G 10) ?_);rw[show(((L.map Value.bool).length:Int) !=((L.map Value.bool).length:Int))=false from s_];refine Rn.uu b λa b=> ?_;refine Rn.p rfl (Rn.p rfl (Rn.p rfl ?_));refine uR i h k (λa w' b j=> ?_) _ 0 a w rfl (QH _) (b.only ⟨rfl,rfl,rfl,trivial⟩) (bR);refine Rn.uu b λa b=> ?_;exact Rn.fi b ⟨rfl,j⟩
def qF(f:Func):Code:= .seq (.seq (rG f 4) (.cond (.tmp 14) .skip (.exit 0))) (.seq (.block 1 (.seq (rD f 6) (.cond (.tmp 25) (.seq (rG f 7) .ret) .skip))) (rG f 5))
theorem Fo:Tryz.f44.body=some (.seq (rG Tryz.f44 0) (.seq (.seq (rG Tryz.f44 1) (.cond (.tmp 10) (.seq (rG Tryz.f44 2) .ret) .skip)) (.seq (.seq (rG Tryz.f44 3) (.block 0 (.loop (qF Tryz.f44)))) (.seq (rG Tryz.f44 8) .ret)))):=k_
theorem uQ{w0:World}{l vb:Value}{L:List ByteArray}{k:List Item}(A:dP w0 l (L.map Value.string))(y:dP w0 vb (L.map Value.string))(G:L.length<4611686018427387904)
 (r:∀a w,Has [] 26 [] a->Bw w0 w->Rn lT Goal ((base 44).atR a k) cs w):
 ∀(m i:Nat) (a:Act) (w:World),L.length- i=m->i<=L.length->Has [(0,l),(1,vb),(5, .i i)] 26 [] a->Bw w0 w->
  Rn lT Goal ((base 44).atR a (.code (qF Tryz.f44):: .inLoop (qF Tryz.f44):: .inBlock 0::k)) cs w:=by
 obtain⟨F,C,rfl,g⟩:=A;obtain⟨E,B,rfl,f⟩:=y;intro m;induction m with
 |zero=>
  intro i a w u x b d
  iterate 4 refine Rn.uu b λa b=> ?_
  refine Rn.p rfl (Rn.cond _ (b.G 14) ?_);rw[decide_eq_false (by rw[Qg];omega)];exact Rn.p rfl (r a w (b.only trivial) d)
 |succ m s=>
  intro i a w u x b d;have c:i<L.length:=o_
  obtain⟨p,rfl,j⟩:=g i (Value.string L[i]) (by simp[c]);obtain⟨o,rfl,h⟩:=f i (Value.string L[i]) (by simp[c])
  iterate 4 refine Rn.uu b λa b=> ?_
  refine Rn.p rfl (Rn.cond _ (b.G 14) ?_);rw[decide_eq_true (by rw[Qg];omega)];refine Rn.p rfl (Rn.p rfl (Rn.p rfl (Rn.p rfl ?_)));refine Rn.tab (v:= .bool false) b [(17, .slice (some p) (L.map Value.string).length C),(18, .i i),(19, .pointer (some (p.add i))),(20,Value.string L[i]),(21, .slice (some o) (L.map Value.string).length B),(22, .i i),(23, .pointer (some (o.add i))),(24,Value.string L[i]),(25, .bool false)] [17,18,21,22] 25
   ⟨λz=>dv (dx (t:=43) (e:=9) (n:=i) k_ (λw=>k_) z.e (z.k 17) (z.k 18) (by simpa using c)).1,
    λz=>dv (aN bA z.e (z.k 19) (fO (aE d d.size z.b) j)).1,
    λz=>dv (dx (t:=43) (e:=9) (n:=i) k_ (λw=>k_) z.e (z.k 21) (z.k 22) (by simpa using c)).1,
    λz=>dv (aN bA z.e (z.k 23) (fO (aE d d.size z.b) h)).1,
    λz=>pv (pJ (t:=9) z.e (z.k 20) (z.k 24)) s_,
    trivial⟩ λa q ⟨D,b⟩=> ?_
  refine Rn.cond false (b.G 25) ?_
  iterate 3 refine Rn.uu b λa b=> ?_
  exact Rn.p rfl (Rn.p rfl (s (i+1) a q o_ o_ (b.only ⟨rfl,rfl,rfl,trivial⟩) (aE d d.size D)))
theorem FE{c vb:Value}{L:List ByteArray}(w:World)(i:dP w c (L.map Value.string))(h:dP w vb (L.map Value.string))(k:L.length<4611686018427387904):
 Calls lT 44 #[c,vb] w λe w'=>e= .returned (.bool true)/\Bw w w':=by refine bJ (t:=4) Lf.func44 rfl λq=> ?_;rw[bP (N:=26) [c,vb] Lf.func44 Fo rfl];have b:=aY [c,vb] 26 s_;refine Rn.uu b λa b=> ?_;have g:=i;have f:=h;obtain⟨p,s,m,_⟩:=g;obtain⟨n,r,l,_⟩:=f;refine Rn.uu b λa b=> ?_;refine Rn.vv b (λo d=>eb (e:=9) k_ d ((b.G 6).trans m)) λa b=> ?_;refine Rn.uu b λa b=> ?_;refine Rn.vv b (λo d=>eb (e:=9) k_ d ((b.G 8).trans l)) λa b=> ?_;refine Rn.uu b λa b=> ?_;refine Rn.p rfl (Rn.cond _ (b.G 10) ?_);rw[show(((L.map Value.string).length:Int) !=((L.map Value.string).length:Int))=false from s_];refine Rn.uu b λa b=> ?_;refine Rn.p rfl (Rn.p rfl (Rn.p rfl ?_));refine uQ i h k (λa w' b j=> ?_) _ 0 a w rfl (QH _) (b.only ⟨rfl,rfl,rfl,trivial⟩) (bR);refine Rn.uu b λa b=> ?_;exact Rn.fi b ⟨rfl,j⟩
theorem Ky:Tryz.f20.body=some (.seq (rG Tryz.f20 0) (.seq (rG Tryz.f20 1) (.seq (rG Tryz.f20 2) (.seq (rG Tryz.f20 3) .ret)))):=k_
theorem Ef{st le:Int}{j k c d:Value}{us:List Bool}{hs:List ByteArray}(w:World)(s:dP w j (us.map .bool))(u:dP w k (hs.map .string))(g:dP w c (us.map .bool))(h:dP w d (hs.map .string))(C:us.length<4611686018427387904)(n:hs.length<4611686018427387904):
 Calls lT 20 #[.agg (dO st le j k), .agg (dO st le c d)] w λe w'=>e= .returned (.bool true)/\Bw w w':=by
 refine bJ (t:=4) Lf.func20 rfl λP=> ?_;rw[bP (N:=35) [.agg (dO st le j k), .agg (dO st le c d)] Lf.func20 Ky rfl];have b:=aY [.agg (dO st le j k), .agg (dO st le c d)] 35 s_;refine Rn.zz b λI a x f y b=> ?_;refine Rn.zz b λr a v i _ b=> ?_;have f:=(v.block _ o_).trans f;have m:Bw w r:=aE x x.size v;rw[y]at b i;refine Rn.uu b λa b=> ?_;obtain⟨J,O,L,_⟩:=id s;obtain⟨A,F,D,_⟩:=id g;obtain⟨K,Q,M,_⟩:=id u;obtain⟨B,G,E,_⟩:=id h;refine Rn.uu b λa b=> ?_
 iterate 3 refine Rn.uu b λa b=> ?_
 refine Rn.cw b Lf.func43 ((FG r (s.below m) (g.below m) C)) λq p a b=> ?_;have l:Bw w q:=aE m m.size p;have f:=bk p f;have i:=bk p i;refine Rn.uu b λa b=> ?_;refine Rn.uu b λa b=> ?_
 iterate 3 refine Rn.uu b λa b=> ?_
 refine Rn.cw b Lf.func44 ((FE q (u.below l) (h.below l) n)) λz o a b=> ?_;have H:Bw w z:=aE l l.size o;have f:=bk o f;have i:=bk o i;refine Rn.uu b λa b=> ?_
 iterate 10 refine Rn.uu b λa b=> ?_
 rw[show(st==st)=true from s_]at b
 iterate 7 refine Rn.uu b λa b=> ?_
 rw[show(le==le)=true from s_]at b
 iterate 2 refine Rn.uu b λa b=> ?_
 exact Rn.fi b ⟨rfl,H⟩
end L1
section
open Go.Conc Go.RowKit
structure Rp (w:World) (fx:List (Nat×Value)) (ds:List Nat) (G:Nat->Value->World->Prop) (ops:Array Oper) (n:Nat) (o:Oper) (a:Act) (w':World):Prop where
 ho:ops[n]?=some o
 e:∀{p},(h:(ops[n]?).map (·.op)=some p:=by kernel_rfl)->o.op=p
 b:Bw w w'
 f:∀x {u},(h:fx.lookup x=some u:=by rfl)->a.eval (.tmp x)=u
 k:∀m {d},(h:ds[m]?=some d:=by rfl)->(g:gW ops n m=true:=by kernel_rfl)->∃v,a.eval (.tmp d)=v/\G m v w'
theorem uP{fx:List (Nat×Value)}{x:Nat}{u:Value}(h:fx.lookup x=some u):(x,u)∈fx:=by
 induction fx with
 |nil=>cases h
 |cons p q a=>
  rw[IT]at h;split at h
  ·rename_i b;have:x=p.1:=(by simpa using b);cases h;rw[this];exact List.mem_cons_self
  ·exact List.mem_cons_of_mem _ (a h)
theorem Rn.ptab{b:Frame}{k:List Item}{id:Nat}{df:List Deferred}{fx:List (Nat×Value)}(y:Has fx N df a)(ds:List Nat)(G:Nat->Value->World->Prop)(c:∀n v w w',G n v w->Bw w w'->G n v w')
 (f:∀n o a w',n<ds.length->Rp w fx ds G ops n o a w'->qo P a o w' λv e=>G n v e/\Bw w' e)
 (next:∀a w',Bw w w'->Has fx N df a->(∀m d,ds[m]?=some d->∃v,a.tmps[d]?=some v/\G m v w')->Rn P Goal (b.atR a k) cs w') (g:P.follows .mixedOrders=true:=by kernel_rfl) (l:ops.size=ds.length:=by kernel_rfl) (i:qK ops ds (fx.map (·.1)) N=true:=by kernel_rfl) (q:(fx.map (·.1)).Nodup:=by simp):Rn P Goal (b.atR a (.code (.region id ops true)::k)) cs w:=by
 refine Rn.grows (fx:=fx) (ds:=ds) (N:=N) (df:=df) (G:=G) g i c (λn o a w' A j D r p=> ?_)
  (λm a w'=>m=ops.size/\Bw w w'/\Has fx N df a/\∀m d,ds[m]?=some d->∃v,a.tmps[d]?=some v/\G m v w') (λa w' t=>⟨l.symm,t.old,t.base,λm d s=>t.come m d s trivial⟩) (λm o a w' z H j I B=> ?_) (λa w' h=>next a w' h.2.1 h.2.2.1 h.2.2.2) y.defers y.size (y.all q)
 ·refine f n o a w' A ⟨j,λh=>by rw[j]at h;exact Option.some.inj h,D,λx u h=>aA (r (x,u) (uP h)),λm d s C=> ?_⟩;obtain⟨v,F,E⟩:=p m d s C;exact⟨v,aA F,E⟩
 ·have:=(gA j).1;omega
end
namespace L1
open Go.Conc Go.RowKit
section
variable{y:Operand}
theorem yX(d:n<=65536)(a:o.op= .makeSlice 83 x y)(c:ev x= .i n)(b:ev y= .i n):
 (execOp ev o).run lT w= .ok (.value (.sk w.heap.size n n)) (w.alloc (.cells (madeCells #[.int .u8 0] n) 5)):=by
 have h:=run_make_row' (P:=lT) 83 5 (.int .u8 0) 1 Lf.underlying83 Lf.info5 rfl .i64 .i64 n o_ o_ w;have e:execOp ev o=(do pure (.value (←R6 83 (.i n) (.i n)))):=by simp only[execOp,a,c,b]
 rw[e];simp[h]
end
def wP(n:Nat):ByteArray:=⟨(OF n (0:UInt8)).toArray⟩
theorem iV(n:Nat):(wP n).size=n:=by show(OF n (0:UInt8)).toArray.size=n;simp
theorem sW{g:Nat}{ev:Operand->Value}(a:o.op= .convert 83 9 x)(d:ev x= .sk g n n)(c:w.heap[g]?=some (.cells (madeCells #[.int .u8 0] n) 5)):eX ev o w (.s (wP n)):=by
 refine Gc (l:=OF n 0) a (by rw[List.length_replicate];exact d) λj e=> ?_;rw[dt]at c;have h:=aH c j;rw[h];have b:j<n:=by simpa using e
 simp[b]
theorem Kx:Tryz.f39.body=some (.seq (rG Tryz.f39 0) (.seq (.seq (rG Tryz.f39 1) (.cond (.tmp 5) (.seq (rG Tryz.f39 2) .ret) .skip)) (.seq (rG Tryz.f39 3) .ret))):=k_
theorem BJ(s:ByteArray)(w:World):
 Calls lT 39 #[.s s] w λe w'=>∃r:ByteArray,e= .returned (.s r)/\r.size<=s.size+8192/\Bw w w':=by
 refine bJ (t:=2) Lf.func39 rfl λj=> ?_;rw[bP (N:=14) [.s s] Lf.func39 Kx rfl];have b:=aY [.s s] 14 s_
 iterate 4 refine Rn.uu b λa b=> ?_
 refine Rn.p rfl (Rn.cond _ (b.G 5) ?_);by_cases h:8192<=s.size
 ·rw[decide_eq_true o_]
  iterate 2 refine Rn.uu b λa b=> ?_
  exact Rn.fi b ⟨s,rfl,o_,bR⟩
 rw[decide_eq_false o_];have d:(8192:Int)-(s.size:Int)=((8192- s.size:Nat):Int):=o_
 iterate 4 refine Rn.uu b λa b=> ?_
 rw[d]at b;refine Rn.al b (λo c=>yX (n:=8192- s.size) o_ c (b.G 10) (b.G 10)) λi a g f _ b=> ?_;refine Rn.vv b (λo c=>sW c (b.G 11) f) λa b=> ?_;refine Rn.vv b (λo c=>eF c (b.G 7) (b.G 12) (by rw[iV];omega)) λa b=> ?_;refine Rn.uu b λa b=> ?_;exact Rn.p rfl (Rn.ends rfl (.inr ⟨_,rfl⟩) (Rn.now ⟨a,_,_,rfl,b.defers,b.slot 2 _ rfl,_,rfl,by rw[Tg,iV];omega,g⟩))
theorem AF{s:Sc}(c:Ag s)(h:s.seed.size<=140737488351232):FD (eE et s)/\(eE et s).sh<=8/\1<=(eE et s).n/\(eE et s).n<=34*(8/(eE et s).wd)/\(eE et s).t<1000/\(eE et s).c<1000/\(eE et s).path.size<=1000/\(eE et s).root.size<=1000:=by
 have a:=c.ok h;have j:(eE et s).path.size=32*s.h:=oV et s.seed _ s.h;have i:(eE et s).root.size=32:=tH et s.id s.seed _ _ (fH et _) s.h;have o:=a.h;obtain⟨n,b,m,g,d,f,l,k⟩:=c;refine⟨⟨a.len,a.id,a.q,a.h,a.wd,a.n⟩, ?_, ?_, ?_, ?_, ?_,o_,o_⟩
 ·show s.sh<=8;rcases b with e|e|e<;>rw[f,e]<;>decide
 ·show 1<=s.n;rcases b with e|e|e<;>rw[d,e]<;>decide
 ·show s.n<=34*(8/s.wd);rcases b with e|e|e<;>rw[d,g,e]<;>decide
 ·show s.t<1000;omega
 ·show s.c<1000;omega
end L1
section
open Go.Conc Go.RowKit
theorem Rp.calls{fx:List (Nat×Value)}{ds:List Nat}{G:Nat->Value->World->Prop}{xs:Array Operand}{vs:Array Value}{Q:Value->World->Prop}(h:Rp w fx ds G ops n o a w')(m:xs.map a.eval=vs)(p:Calls P f vs w' λe i=>∃u,e= .returned u/\Q u i)(b:vc ops n=some (f,xs):=by kernel_rfl)(d:kQ P f=true:=by kernel_rfl):qo P a o w' Q:=by
 unfold vc at b;rw[h.ho]at b;simp only[Option.bind_some]at b;split at b
 ·rename_i c j;split at b
  ·rename_i g l;simp only[Option.some.injEq,Prod.mk.injEq]at b;unfold kQ at d;split at d
   ·rename_i r k;simp only[Bool.and_eq_true,Bool.not_eq_true']at d;obtain⟨s,t,q⟩:=c;simp only at l b;subst l;obtain⟨rfl,rfl⟩:=b;exact .inr ⟨_,_,(bG (w:=w') j m (dS k d.1 d.2 _)).1,p⟩
   ·cases d
  ·cases b
 ·cases b
def BD(ch qi:Int)(seed:ByteArray)(ver en gap ex:Int)(body:ByteArray)(sa sw sc:Int)(sm:ByteArray)(aa aw ac:Int)(am:ByteArray):Array Value:=
 #[.int .i64 ch, .int .i64 qi, .string seed, .int .i64 ver, .int .i64 en, .int .i64 gap, .int .i64 ex, .string body, .int .i64 sa, .int .i64 sw, .int .i64 sc, .string sm, .int .i64 aa, .int .i64 aw, .int .i64 ac, .string am]
def wv(v:Int):Nat:=(v%18446744073709551616).toNat
theorem xU(v:Int):((wv v:Nat):Int)=v%18446744073709551616:=by unfold wv;omega
end
namespace L1
open Go.Conc Go.RowKit
theorem Lf.func16:(aJ q tP).funcs[16]?=some Tryz.f16:=aO Tryz.func16 d_ rfl rfl k_
section
variable{y:Operand}{m n:Int}
theorem mF(j a:Nat)(d:(j<9/\a=j)\/(j=9/\a=12))(c:o.op= .fieldAddr 41 x j)(f:ev x= .pk b 0):(execOp ev o).run lT w= .ok (.value (.pk b a)) w:=by
 have e:execOp ev o=(do pure (.value (←BY 41 (.pk b 0) j))):=by simp only[execOp,c,f]
 have g:(do pure (.value (←BY 41 (.pk b 0) j)):Sem Next).run lT w= .ok (.value (.pk b a)) w:=by
  rcases d with⟨d,rfl⟩|⟨rfl,rfl⟩
  ·rcases(o_:a=0\/a=1\/a=2\/a=3\/a=4\/a=5\/a=6\/a=7\/a=8)with rfl|rfl|rfl|rfl|rfl|rfl|rfl|rfl|rfl<;>kernel_rfl
  ·kernel_rfl
 rw[e,g]
theorem Gb(j:Nat)(f:j<2)(a:o.op= .fieldAddr 23 x j)(c:ev x= .pk b 12):(execOp ev o).run lT w= .ok (.value (.pk b (12+j))) w:=by
 have e:execOp ev o=(do pure (.value (←BY 23 (.pk b 12) j))):=by simp only[execOp,a,c]
 have d:(do pure (.value (←BY 23 (.pk b 12) j)):Sem Next).run lT w= .ok (.value (.pk b (12+j))) w:=by rcases(o_:j=0\/j=1)with rfl|rfl<;>kernel_rfl
 rw[e,d]
theorem PH(j:Nat)(d:j=2\/j=4)(a:o.op= .fieldAddr 29 x j)(c:ev x= .pk b 0):(execOp ev o).run lT w= .ok (.value (.pk b j)) w:=by
 have e:execOp ev o=(do pure (.value (←BY 29 (.pk b 0) j))):=by simp only[execOp,a,c]
 have f:(do pure (.value (←BY 29 (.pk b 0) j)):Sem Next).run lT w= .ok (.value (.pk b j)) w:=by rcases d with rfl|rfl<;>kernel_rfl
 rw[e,f]
theorem Gf{ch j a en d ex i e g r n q:Int}{seed body f p:ByteArray}(c:o.op= .load 23 x)(k:ev x= .pk b 8)(h:w.heap[b]?=some (.cells (BD ch j seed a en d ex body i e g f r n q p) 41)):(execOp ev o).run lT w= .ok (.value (.agg #[.i i, .i e, .i g, .s f])) w:=by
 have m:(isAgg 23).run lT w= .ok true w:=k_
 have l:=aH h;simp[execOp,c,k,AT,loadVar,m,loadCells,loadCellsFrom,QM,l,BD,go_sem]
theorem Jv(a:o.op= .build 23 #[(0,x),(1,y)])(c:ev x= .i m)(b:ev y= .i n):(execOp ev o).run lT w= .ok (.value (.agg #[.i m, .i n, .i 0, .string ⟨#[]⟩])) w:=by
 have e:execOp ev o=(do pure (.value (←Instr.build 23 #[(0, .i m),(1, .i n)]))):=by simp[execOp,a,c,b]
 have d:(do pure (.value (←Instr.build 23 #[(0, .i m),(1, .i n)])):Sem Next).run lT w= .ok (.value (.agg #[.i m, .i n, .i 0, .string ⟨#[]⟩])) w:=k_
 rw[e,d]
theorem xh(a:o.op= .binOp .mul 3 x y u)(c:ev x= .i m)(b:ev y= .i n)(h: -9223372036854775808<=m*n/\m*n<9223372036854775808):(execOp ev o).run lT w= .ok (.value (.i (m*n))) w:=by
 have e:Q4.wrap (m*n)=m*n:=by rw[IntKind.wrap_i64];omega
 simp[execOp,a,c,b,go_sem,e]
theorem Jw(a:o.op= .binOp .add 3 x y u)(c:ev x= .i m)(b:ev y= .i n):(execOp ev o).run lT w= .ok (.value (.i (Q4.wrap (m+n)))) w:=by simp[execOp,a,c,b,go_sem]
end
def zh:ByteArray:=⟨#[76,78,84,76]⟩
theorem PD:zh.size=4:=rfl
def OH(ver:Int)(sg:Nat)(en:Int)(at_ ln:Nat)(ex:Int)(key:ByteArray):ByteArray:=zh++ob (wv ver) 2++ob (wv sg) 4++ob (wv (4*(eo en 300:Nat))) 4++ob (wv at_) 4++ob (wv (Q4.wrap (ln+ex))) 4++key
theorem H8(b:Int)(c:Nat)(en:Int)(at_ ln:Nat)(ex:Int)(a:ByteArray):(OH b c en at_ ln ex a).size=22+a.size:=by simp only[OH,Tg,cE,PD]
section
variable{ch qi ver en gap ex sa sw sc aa aw ac:Int}{seed body sm am:ByteArray}{b2 b6:Nat}{bd:ByteArray}{sg at_ ln:Nat}
theorem M8(b:w.heap[b3]?=some (.cells (BD ch qi seed ver en gap ex body sa sw sc sm aa aw ac am) 41))(c: -9223372036854775808<=en/\en<9223372036854775808)(g:key.size<=3000)
 (d:Has [(2, .pt b2),(3, .pt b3),(6, .pt b6),(7, .s bd),(8, .i sg),(9, .i at_),(10, .i ln),(11, .s key)] 110 [] a)
 (next:∀a w',(Bw w w'/\Has [(12, .s (OH ver sg en at_ ln ex key)),(2, .pt b2),(3, .pt b3),(6, .pt b6),(7, .s bd),(8, .i sg),(9, .i at_),(10, .i ln),(11, .s key)] 110 [] a)->Rn lT Goal (fr.atR a K) cs w'):
 Rn lT Goal (fr.atR a (.code (rD Tryz.f16 9)::K)) cs w:=by
 have f:=mY en (n:=300) d_;have e:=(gA b).1;exact Rn.tab d [(52, .pk b3 3),(53, .i ver),(54, .s (ob (wv ver) 2)),(55, .s (zh++ob (wv ver) 2)),(56, .i sg),(57, .s (ob (wv sg) 4)),(58, .s (zh++ob (wv ver) 2++ob (wv sg) 4)),(59, .pk b3 4),(60, .i en),(61, .i (eo en 300:Nat)),(62, .i (4*(eo en 300:Nat))),(63, .s (ob (wv (4*(eo en 300:Nat))) 4)),(64, .s (zh++ob (wv ver) 2++ob (wv sg) 4++ob (wv (4*(eo en 300:Nat))) 4)),(65, .i at_),(66, .s (ob (wv at_) 4)),(67, .s (zh++ob (wv ver) 2++ob (wv sg) 4++ob (wv (4*(eo en 300:Nat))) 4++ob (wv at_) 4)),(68, .i ln),(69, .pk b3 6),(70, .i ex),(71, .i (Q4.wrap (ln+ex))),(72, .s (ob (wv (Q4.wrap (ln+ex))) 4)),(73, .s (zh++ob (wv ver) 2++ob (wv sg) 4++ob (wv (4*(eo en 300:Nat))) 4++ob (wv at_) 4++ob (wv (Q4.wrap (ln+ex))) 4)),(74, .s key),(75, .s (zh++ob (wv ver) 2++ob (wv sg) 4++ob (wv (4*(eo en 300:Nat))) 4++ob (wv at_) 4++ob (wv (Q4.wrap (ln+ex))) 4++key)),(12, .s (zh++ob (wv ver) 2++ob (wv sg) 4++ob (wv (4*(eo en 300:Nat))) 4++ob (wv at_) 4++ob (wv (Q4.wrap (ln+ex))) 4++key))] [56,65,68,74,12] 12
  ⟨λz=>dv (mF 3 3 d_ z.e (z.k 3)),
   tq,
   λz=>z.c2 (z.k 53) kc (ju ver (wv ver) 2 _ d_ (xU _)),
   λz=>dv (eF (z.e (p:= .binOp .add 9 (.const (.string ⟨#[76,78,84,76]⟩)) (.tmp 54) 9)) rfl (z.k 54) (by simp only[cE,PD];omega)),
   λz=>z.c2 (z.k 56) kc (ju sg (wv sg) 4 _ d_ (xU _)),
   λz=>dv (eF (z.e (p:= .binOp .add 9 (.tmp 55) (.tmp 57) 9)) (z.k 55) (z.k 57) (by simp only[Tg,cE,PD];omega)),
   λz=>dv (mF 4 4 d_ z.e (z.k 3)),
   tq,
   λz=>z.c2 (z.k 60) kc ((nX en 300 c d_ _).mono λ_ _ h=>⟨h.1,by rw[h.2];exact bR⟩),
   λz=>dv (xh (z.e (p:= .binOp .mul 3 (.const (.i 4)) (.tmp 61) 3)) rfl (z.k 61) o_),
   λz=>z.c2 (z.k 62) kc (ju (4*(eo en 300:Nat)) (wv (4*(eo en 300:Nat))) 4 _ d_ (xU _)),
   λz=>dv (eF (z.e (p:= .binOp .add 9 (.tmp 58) (.tmp 63) 9)) (z.k 58) (z.k 63) (by simp only[Tg,cE,PD];omega)),
   λz=>z.c2 (z.k 65) kc (ju at_ (wv at_) 4 _ d_ (xU _)),
   λz=>dv (eF (z.e (p:= .binOp .add 9 (.tmp 64) (.tmp 66) 9)) (z.k 64) (z.k 66) (by simp only[Tg,cE,PD];omega)),
   λz=>dv (mF 6 6 d_ z.e (z.k 3)),
   tq,
   λz=>dv (Jw (u:=3) z.e (z.k 68) (z.k 70)),
   λz=>z.c2 (z.k 71) kc (ju (Q4.wrap (ln+ex)) (wv (Q4.wrap (ln+ex))) 4 _ d_ (xU _)),
   λz=>dv (eF (z.e (p:= .binOp .add 9 (.tmp 67) (.tmp 72) 9)) (z.k 67) (z.k 72) (by simp only[Tg,cE,PD];omega)),
   λz=>dv (eF (z.e (p:= .binOp .add 9 (.tmp 73) (.tmp 74) 9)) (z.k 73) (z.k 74) (by simp only[Tg,cE,PD];omega)),
   trivial⟩ next
theorem Kv(e:KS.length=64)(d:iU KS){s:Sc}{text Xn:ByteArray}(t:Xn=⟨(dU KS seed.data.toList).toArray⟩)(r:Xn.size=32)(l:FD s)(f:s.sh<=8)(i:1<=s.n)(h:s.n<=34*(8/s.wd))(n:s.t<1000)(q:s.c<1000)(p:s.id.size=16)(o:s.path.size<=1000)(g:seed.size<=140737488351232)(m:text.size<=10000)(k:kZ KS cv w)(j:w.heap[b2]?=some (.cells cv 26))(c:w.heap[b3]?=some (.cells (BD ch qi seed ver en gap ex body sa sw sc sm aa aw ac am) 41))(b:w.heap[b6]?=some (.cells s.cells 31))
 (u:Has [(2, .pt b2),(3, .pt b3),(6, .pt b6),(8, .i sg),(9, .i at_),(11, .s key),(13, .s text)] 110 [] a)
 (next:∀a w',(Bw w w'/\Has [(14, .s (AC KS s Xn text)),(2, .pt b2),(3, .pt b3),(6, .pt b6),(8, .i sg),(9, .i at_),(11, .s key),(13, .s text)] 110 [] a)->Rn lT Goal (fr.atR a K) cs w'):
 Rn lT Goal (fr.atR a (.code (rD Tryz.f16 11)::K)) cs w:=by
 exact Rn.tab u [(79, .agg cv),(80, .agg s.cells),(81, .agg cv),(82, .pk b3 2),(83, .s seed),(84, .s Xn),(85, .s text),(86, .s (AC KS s Xn text)),(14, .s (AC KS s Xn text))] [85,14] 14
  ⟨tq,
   λz=>dv (sP z.e (z.k 6) ((z.b.block _ (gA b).1).trans b)),
   tq,
   λz=>dv (mF 2 2 d_ z.e (z.k 3)),
   λz=>dv (aN bA z.e (z.k 82) ((aH ((z.b.block _ (gA c).1).trans c) 2).trans rfl)).1,
   λz=>z.c2 (z.k 81) (z.k 83) (gP KS e d cv seed _ (k.mono z.b) o_) (congrArg Value.string t.symm),
   λz=>z.c4 (z.k 79) (z.k 80) (z.k 84) (z.k 85) (G2 e d s Xn text l f i h n q o o_ o_ _ (k.mono z.b)),
   trivial⟩ next
end
def Ot(b3 sg at_ r N:Nat)(text sig sm:ByteArray)(sa sw sc:Int):Nat->Value->World->Prop
 |0,v,_=>v= .string text
 |1,v,_=>v= .int .i64 at_
 |2,v,_=>v= .int .i64 sg
 |3,v,_=>v= .int .i64 r
 |4,v,w=>∃g,v= .sk g r r/\w.heap[g]?=some (.cells (madeCells #[.int .u8 0] r) 5)
 |5,v,_=>v= .string (wP r)
 |6,v,_=>v= .string (text++wP r)
 |7,v,_=>v= .string sig
 |8,v,_=>v= .pk b3 8
 |9,v,_=>v= .agg #[.int .i64 sa, .int .i64 sw, .int .i64 sc, .string sm]
 |10,v,_=>∃t,v= .string t/\t.size<=sig.size+sm.size
 |_,v,_=>∃t,v= .string t/\t.size<=N
theorem Ot.mono{i c a r:Nat}{text sm:ByteArray}{f b d:Int}(n:Nat)(v:Value)(w w':World)(h:Ot i c a r N text sig sm f b d n v w)(k:Bw w w'):Ot i c a r N text sig sm f b d n v w':=by
 match n,h with
 |0,h|1,h|2,h|3,h|5,h|6,h|7,h|8,h|9,h|10,h=>exact h
 |4,h=>
  obtain⟨g,e,j⟩:=h;exact⟨g,e,bk k j⟩
 |n+11,h=>exact h
def G13(b3 N:Nat)(t key:ByteArray)(aa aw:Int):Nat->Value->World->Prop
 |0,v,_=>v= .string t
 |1,v,_=>∃r,v= .string r/\r.size<=N
 |2,v,_=>v= .pk b3 12
 |3,v,_=>v= .pk b3 12
 |4,v,_=>v= .int .i64 aa
 |5,v,_=>v= .pk b3 12
 |6,v,_=>v= .pk b3 13
 |7,v,_=>v= .int .i64 aw
 |8,v,_=>v= .agg #[.int .i64 aa, .int .i64 aw, .int .i64 0, .string ⟨#[]⟩]
 |9,v,_=>∃r,v= .string r/\r.size<=N
 |10,v,_=>v= .string key
 |11,v,_=>∃r,v= .string r/\r.size<=N
 |_,v,_=>v= .string key
section
variable{ch qi ver en gap ex sa sw sc aa aw ac:Int}{seed body sm am:ByteArray}{text t:ByteArray}{sg at_ r:Nat}
theorem Ku(him:w.heap[b3]?=some (.cells (BD ch qi seed ver en gap ex body sa sw sc sm aa aw ac am) 41))(hat:at_=sg+r)(hr:r<=8)(htx:text.size<=10000)(hsig:sig.size<=10000)(hsm:sm.size<=1125899906842624)(hsa: -9223372036854775808<=sa/\sa<9223372036854775808)(hsc: -9223372036854775808<=sc/\sc<9223372036854775808)
 (hF:Has [(3, .pt b3),(8, .i sg),(9, .i at_),(11, .s key),(13, .s text),(14, .s sig)] 110 [] a)
 (next:∀a w' t,t.size<=20100+sm.size->Bw w w'->Has [(15, .s t),(3, .pt b3),(8, .i sg),(9, .i at_),(11, .s key),(13, .s text),(14, .s sig)] 110 [] a->Rn lT Goal (fr.atR a K) cs w'):
 Rn lT Goal (fr.atR a (.code (rD Tryz.f16 12)::K)) cs w:=by
 have l3:=(gA him).1;have e1:(at_:Int)-(sg:Int)=(r:Int):=o_
 refine Rn.ptab hF [87,88,89,90,91,92,93,94,95,96,97,98,15] (Ot b3 sg at_ r (20100+sm.size) text sig sm sa sw sc) Ot.mono (λn o a w' hn z=> ?_) (λa w' hb hF hs=> ?_)
 ·match n,hn,z with
  |0,_,z=>exact aF (by rw[bF (.inl (z.e (p:= .move (.tmp 13)))),z.f 13]) ⟨rfl,bR⟩
  |1,_,z=>exact aF (by rw[bF (.inl (z.e (p:= .move (.tmp 9)))),z.f 9]) ⟨rfl,bR⟩
  |2,_,z=>exact aF (by rw[bF (.inl (z.e (p:= .move (.tmp 8)))),z.f 8]) ⟨rfl,bR⟩
  |3,_,z=>
   obtain⟨_,h1,rfl⟩:=z.k 1 (d:=88);obtain⟨_,h2,rfl⟩:=z.k 2 (d:=89);exact aF (lZ (z.e (p:= .binOp .sub 3 (.tmp 88) (.tmp 89) 3)) h1 h2 o_) ⟨by rw[e1];rfl,bR⟩
  |4,_,z=>
   obtain⟨_,h1,rfl⟩:=z.k 3 (d:=90);exact aF (yX o_ (z.e (p:= .makeSlice 83 (.tmp 90) (.tmp 90))) h1 h1) ⟨⟨_,rfl,aP _ _⟩,PK _ _⟩
  |5,_,z=>
   obtain⟨_,h1,g,rfl,hg⟩:=z.k 4 (d:=91);exact aF (sW (z.e (p:= .convert 83 9 (.tmp 91))) h1 hg) ⟨rfl,bR⟩
  |6,_,z=>
   obtain⟨_,h1,rfl⟩:=z.k 0 (d:=87);obtain⟨_,h2,rfl⟩:=z.k 5 (d:=92);exact aF (eF (z.e (p:= .binOp .add 9 (.tmp 87) (.tmp 92) 9)) h1 h2 (by rw[iV];omega)) ⟨rfl,bR⟩
  |7,_,z=>exact aF (by rw[bF (.inl (z.e (p:= .move (.tmp 14)))),z.f 14]) ⟨rfl,bR⟩
  |8,_,z=>exact aF (mF 8 8 d_ (z.e (p:= .fieldAddr 41 (.tmp 3) 8)) (z.f 3)) ⟨rfl,bR⟩
  |9,_,z=>
   obtain⟨_,h1,rfl⟩:=z.k 8 (d:=95);exact aF (Gf (z.e (p:= .load 23 (.tmp 95))) h1 ((z.b.block _ l3).trans him)) ⟨rfl,bR⟩
  |10,_,z=>
   obtain⟨_,h1,rfl⟩:=z.k 7 (d:=94);obtain⟨_,h2,rfl⟩:=z.k 9 (d:=96);exact z.calls (f:=14) (xs:=#[.tmp 94, .tmp 96]) (vs:=#[.s sig, .agg #[.i sa, .i sw, .i sc, .s sm]]) (by simp[h1,h2]) ((rp sig sa sw sc sm o_ hsm hsa hsc w').mono λe w'' ⟨r,q1,q2,q3⟩=>⟨_,q1,⟨r,rfl,q2⟩,q3⟩)
  |11,_,z=>
   obtain⟨_,h1,rfl⟩:=z.k 6 (d:=93);obtain⟨_,h2,t,rfl,ht⟩:=z.k 10 (d:=97);exact aF (eF (z.e (p:= .binOp .add 9 (.tmp 93) (.tmp 97) 9)) h1 h2 (by rw[Tg,iV];omega)) ⟨⟨_,rfl,by rw[Tg,Tg,iV];omega⟩,bR⟩
  |12,_,z=>
   obtain⟨_,h1,t,rfl,ht⟩:=z.k 11 (d:=98);exact aF (by rw[bF (.inr (z.e (p:= .assign (.tmp 98)))),h1]) ⟨⟨t,rfl,ht⟩,bR⟩
  |n+13,h,_=>exact absurd h s_
 ·obtain⟨_,h1,t,rfl,ht⟩:=hs 12 15 rfl;exact next a w' t ht hb (hF.more h1)
theorem Kt(c:w.heap[b3]?=some (.cells (BD ch qi seed ver en gap ex body sa sw sc sm aa aw ac am) 41))(N:Nat)(D:N<=1125899906842624)(C:t.size+8192<=N)(m: -9223372036854775808<=aa/\aa<9223372036854775808)
 (q:Has [(3, .pt b3),(11, .s key),(15, .s t)] 110 [] a)
 (next:∀a w' r,r.size<=N->Bw w w'->Has [(4, .s r),(5, .s key)] 110 [] a->Rn lT Goal (fr.atR a K) cs w'):
 Rn lT Goal (fr.atR a (.code (rD Tryz.f16 13)::K)) cs w:=by
 have u:=(gA c).1;refine Rn.ptab q [99,100,101,102,103,104,105,106,107,108,109,4,5] (G13 b3 N t key aa aw) (λn v w w' h _=> ?_) (λn o a w' A z=> ?_) (λa w' B q x=> ?_)
 ·match n,h with
  |0,h|1,h|2,h|3,h|4,h|5,h|6,h|7,h|8,h|9,h|10,h|11,h|n+12,h=>exact h
 ·match n,A,z with
  |0,_,z=>exact aF (by rw[bF (.inl (z.e (p:= .move (.tmp 15)))),z.f 15]) ⟨rfl,bR⟩
  |1,_,z=>
   obtain⟨_,b,rfl⟩:=z.k 0 (d:=99);exact z.calls (f:=39) (xs:=#[.tmp 99]) (vs:=#[.s t]) (by simp[b]) ((BJ t w').mono λe j ⟨r,l,s,k⟩=>⟨_,l,⟨r,rfl,o_⟩,k⟩)
  |2,_,z=>exact aF (mF 9 12 d_ (z.e (p:= .fieldAddr 41 (.tmp 3) 9)) (z.f 3)) ⟨rfl,bR⟩
  |3,_,z=>
   obtain⟨_,b,rfl⟩:=z.k 2 (d:=101);exact aF (Gb 0 d_ (z.e (p:= .fieldAddr 23 (.tmp 101) 0)) b) ⟨rfl,bR⟩
  |4,_,z=>
   obtain⟨_,b,rfl⟩:=z.k 3 (d:=102);exact aF (aN (v:= .i aa) cq (z.e (p:= .load 3 (.tmp 102))) b ((aH ((z.b.block _ u).trans c) 12).trans rfl)).1 ⟨rfl,bR⟩
  |5,_,z=>exact aF (mF 9 12 d_ (z.e (p:= .fieldAddr 41 (.tmp 3) 9)) (z.f 3)) ⟨rfl,bR⟩
  |6,_,z=>
   obtain⟨_,b,rfl⟩:=z.k 5 (d:=104);exact aF (Gb 1 d_ (z.e (p:= .fieldAddr 23 (.tmp 104) 1)) b) ⟨rfl,bR⟩
  |7,_,z=>
   obtain⟨_,b,rfl⟩:=z.k 6 (d:=105);exact aF (aN (v:= .i aw) cq (z.e (p:= .load 3 (.tmp 105))) b ((aH ((z.b.block _ u).trans c) 13).trans rfl)).1 ⟨rfl,bR⟩
  |8,_,z=>
   obtain⟨_,b,rfl⟩:=z.k 4 (d:=103);obtain⟨_,i,rfl⟩:=z.k 7 (d:=106);exact aF (Jv (z.e (p:= .build 23 #[(0, .tmp 103),(1, .tmp 106)])) b i) ⟨rfl,bR⟩
  |9,_,z=>
   obtain⟨_,b,r,rfl,g⟩:=z.k 1 (d:=100);obtain⟨_,i,rfl⟩:=z.k 8 (d:=107);exact z.calls (f:=14) (xs:=#[.tmp 100, .tmp 107]) (vs:=#[.s r, .agg #[.i aa, .i aw, .i 0, .string ⟨#[]⟩]]) (by simp[b,i]) ((rp r aa aw 0 ⟨#[]⟩ o_ d_ m d_ w').mono λe j ⟨y,l,s,k⟩=>⟨_,l,⟨y,rfl,By s g⟩,k⟩)
  |10,_,z=>exact aF (by rw[bF (.inl (z.e (p:= .move (.tmp 11)))),z.f 11]) ⟨rfl,bR⟩
  |11,_,z=>
   obtain⟨_,b,r,rfl,g⟩:=z.k 9 (d:=108);exact aF (by rw[bF (.inr (z.e (p:= .assign (.tmp 108)))),b]) ⟨⟨r,rfl,g⟩,bR⟩
  |12,_,z=>
   obtain⟨_,b,rfl⟩:=z.k 10 (d:=109);exact aF (by rw[bF (.inr (z.e (p:= .assign (.tmp 109)))),b]) ⟨rfl,bR⟩
  |n+13,h,_=>exact absurd h s_
 ·obtain⟨_,b,r,rfl,g⟩:=x 11 4 rfl;obtain⟨_,i,rfl⟩:=x 12 5 rfl;exact next a w' r g B (((q.more i).more b).only ⟨rfl,rfl,trivial⟩)
end
theorem KB:Tryz.f16.body=some (.seq (rG Tryz.f16 0) (.seq (rG Tryz.f16 1) (.seq (rG Tryz.f16 2) (.seq (.seq (rG Tryz.f16 3) (.cond (.tmp 28) (rG Tryz.f16 4) .skip)) (.seq (rG Tryz.f16 5) (.seq (rG Tryz.f16 6) (.seq (rG Tryz.f16 7) (.seq (rG Tryz.f16 8) (.seq (rD Tryz.f16 9) (.seq (rG Tryz.f16 10) (.seq (rD Tryz.f16 11) (.seq (rD Tryz.f16 12) (.seq (rD Tryz.f16 13) .ret))))))))))))):=k_
theorem Nt(ch I:Int)(seed:ByteArray)(q en x ex:Int)(body:ByteArray)(K sw J:Int)(V:ByteArray)(S aw ac:Int)(am:ByteArray)(a5: -9223372036854775808<=ch/\ch<9223372036854775808)(a2: -9223372036854775808<=I/\I<9223372036854775808)(a4: -9223372036854775808<=en/\en<9223372036854775808)(M: -9223372036854775808<=x/\x<9223372036854775808)(a1: -9223372036854775808<=K/\K<9223372036854775808)(a0: -9223372036854775808<=J/\J<9223372036854775808)(a6: -9223372036854775808<=S/\S<9223372036854775808)(j:seed.size<=140737488351232)(a9:V.size<=140737488351232)(w:World)(hC:kZ et cv w):
 Calls lT 16 #[.agg cv, .agg (BD ch I seed q en x ex body K sw J V S aw ac am)] w λe w'=>∃r i:ByteArray,e= .returned (.tuple #[.s r, .s i])/\r.size<=281474976000000/\i.size<=3000/\Bw w w':=by
 refine jm (t:=4) (u:=5) Lf.func16 rfl λcs=> ?_;rw[bP (N:=110) [.agg cv, .agg (BD ch I seed q en x ex body K sw J V S aw ac am)] Lf.func16 KB rfl];have b:=aY [.agg cv, .agg (BD ch I seed q en x ex body K sw J V S aw ac am)] 110 s_;refine Rn.zz b λw0 a b0 p z0 b=> ?_;refine Rn.zz b λU a b1 f _ b=> ?_;have p:=(b1.block _ o_).trans p;have W:Bw w U:=aE b0 b0.size b1;rw[z0]at b f;refine Rn.C b 4 (.string ⟨#[]⟩) λa b=>Rn.C b 5 (.string ⟨#[]⟩) λa b=>Rn.vv b (λo c=>gg hC.two c (b.G 2) p) λa b=> ?_;refine Rn.vv b (λo c=>mF 0 0 d_ c (b.G 3)) λa b=> ?_;refine Rn.uu b λa b=> ?_;refine Rn.vv b (λo c=>mF 1 1 d_ c (b.G 3)) λa b=> ?_;refine Rn.uu b λa b=> ?_;refine Rn.vv b (λo c=>mF 2 2 d_ c (b.G 3)) λa b=> ?_;refine Rn.uu b λa b=> ?_;refine Rn.cl b Lf.func9 (R:=λv w'=>∃s:Sc,Ag s/\s.seed=seed/\v= .agg (eE et s).cells/\Bw U w') ((yr dQ sM ch I seed a5 a2 j U (hC.mono W)).mono λe w' ⟨s,h1,h2,h3,h4⟩=>⟨_,h3,s,h1,h2,rfl,h4⟩) λv G hv a b=> ?_;obtain⟨s,kd,rfl,rfl,C⟩:=hv;have B4:Bw w G:=aE W W.size C;have p:=bk C p;have f:=bk C f;refine Rn.al b (λo c=>xn c) λY a P h7 _ b=> ?_;refine Rn.nn b (λo c=>cd (cells:=(eE et s).cells) c (b.G 6) (b.G 23) h7 oc rfl (by simp[Sc.cells,Value.oneCell'])) λa b=> ?_;have d:=setRow_heap Y G.heap.size _ (eE et s).cells _ _ h7;have l:Bw G (Y.setRow G.heap.size (eE et s).cells):=P.trans (bT _ _ _ (T6 _));revert d l;generalize Y.setRow G.heap.size (eE et s).cells=X;intro d l;have B6:Bw w X:=aE B4 B4.size l;have p:=bk l p;have f:=bk l f;clear h7 P l C B4 W b0 b1;obtain⟨f1,f2,f3,f4,f5,f6,f7,f8⟩:=AF kd j;have a3:(eE et s).id.size=16:=kd.id;refine Rn.vv b (λo c=>mF 7 7 d_ c (b.G 3)) λa b=> ?_
 iterate 2 refine Rn.uu b λa b=> ?_
 have E:∀(a:Act) (m:ByteArray),m.size<=600->Has [(7, .s m),(2, .pt w.heap.size),(3, .pt (w.heap.size+1)),(6, .pt G.heap.size)] 110 [] a->Rn lT (λg w'=>∃(a:Act) (k:List Item) (v v':Value),g=dN {(base 16).atR a k with mode:= .returning} cs/\a.defers=[]/\a.tmps[4]?=some v/\a.tmps[5]?=some v'/\∃r i:ByteArray,Ending.returned (.tuple #[v,v'])= .returned (.tuple #[.s r, .s i])/\r.size<=281474976000000/\i.size<=3000/\Bw w w') ((base 16).atR a [.code (.seq (rG Tryz.f16 5) (.seq (rG Tryz.f16 6) (.seq (rG Tryz.f16 7) (.seq (rG Tryz.f16 8) (.seq (rD Tryz.f16 9) (.seq (rG Tryz.f16 10) (.seq (rD Tryz.f16 11) (.seq (rD Tryz.f16 12) (.seq (rD Tryz.f16 13) .ret)))))))))]) cs X:=by
  intro a m ab b
  iterate 2 refine Rn.uu b λa b=> ?_
  refine Rn.O b 33 (.binOp .add 3 (.const (.i 78)) (.tmp 32) 3) (λo c=>iA c rfl (b.G 32) o_) λa b=> ?_;rw[show(78:Int)+(m.size:Int)=((78+m.size:Nat):Int)from o_]at b
  iterate 2 refine Rn.uu b λa b=> ?_
  refine Rn.vv b (λo c=>mF 5 5 d_ c (b.G 3)) λa b=> ?_;refine Rn.uu b λa b=> ?_;refine Rn.pick b 37 36 8 rfl M d_ λr hr a b=>Rn.uu b λa b=> ?_;rw[show((78+m.size:Nat):Int)+(r:Int)=((78+m.size+r:Nat):Int)from o_]at b;refine Rn.uu b λa b=> ?_;have hn:=f1.n;have hh:=f1.h
  iterate 3 refine Rn.uu b λa b=> ?_
  refine Rn.O b 42 (.binOp .mul 3 (.const (.i 32)) (.tmp 41) 3) (λo c=>xh c rfl (b.G 41) o_) λa b=> ?_;refine Rn.O b 43 (.binOp .add 3 (.const (.i 40)) (.tmp 42) 3) (λo c=>iA c rfl (b.G 42) o_) λa b=> ?_;refine Rn.O b 44 (.binOp .add 3 (.tmp 43) (.const (.i 4)) 3) (λo c=>iA c (b.G 43) rfl o_) λa b=> ?_
  iterate 3 refine Rn.uu b λa b=> ?_
  refine Rn.O b 48 (.binOp .mul 3 (.const (.i 32)) (.tmp 47) 3) (λo c=>xh c rfl (b.G 47) o_) λa b=> ?_;refine Rn.uu b λa b=> ?_;rw[show(40:Int)+32*((eE et s).n:Int)+4+32*((eE et s).h:Int)=((44+32*(eE et s).n+32*(eE et s).h:Nat):Int)from o_]at b;refine Rn.uu b λa b=> ?_;refine Rn.uu b λa b=> ?_;refine Rn.cw b Lf.func10 ((JO (eE et s) f5 f6 o_ f8 X)) λw7 B a b=> ?_;have z:(H1 (eE et s)).size<=3000:=by unfold H1;simp only[Tg,cE];omega
  have B7:Bw w w7:=aE B6 B6.size B;have p:=bk B p;have f:=bk B f;have d:=bk B d;refine Rn.uu b λa b=> ?_;refine Rn.p rfl (Rn.p rfl ?_);refine M8 f a4 z (b.only ⟨rfl,rfl,rfl,rfl,rfl,rfl,rfl,rfl,trivial⟩) λa w8 ⟨A,b⟩=> ?_;have L:=H8 q (78+m.size) en (78+m.size+r) (44+32*(eE et s).n+32*(eE et s).h) ex (H1 (eE et s));revert L z b;generalize OH q (78+m.size) en (78+m.size+r) (44+32*(eE et s).n+32*(eE et s).h) ex (H1 (eE et s))=hd;generalize H1 (eE et s)=i;intro z b L;have B8:Bw w w8:=aE B7 B7.size A;have p:=bk A p;have f:=bk A f;have d:=bk A d
  iterate 4 refine Rn.uu b λa b=> ?_
  have y:(hd++m).size<=10000:=by rw[Tg];omega
  revert y b;generalize hd++m=D;intro b y;refine Rn.p rfl (Rn.p rfl ?_);refine Kv (s:=eE et s) (Xn:=⟨(dU et s.seed.data.toList).toArray⟩) dQ sM rfl (eH et _) f1 f2 f3 f4 f5 f6 a3 f7 j y (hC.mono B8) p f d (b.only ⟨rfl,rfl,rfl,rfl,rfl,rfl,rfl,trivial⟩) λa w9 ⟨O,b⟩=> ?_;have H:(AC et (eE et s) ⟨(dU et s.seed.data.toList).toArray⟩ D).size<=10000:=by unfold AC;simp only[Tg,cE,nZ,eH];omega
  revert H b;generalize AC et (eE et s) ⟨(dU et s.seed.data.toList).toArray⟩ D=a8;intro b H;have B9:Bw w w9:=aE B8 B8.size O;have f:=bk O f;refine Rn.p rfl ?_;refine Ku (r:=r) f rfl o_ y H o_ a1 a0 (b.only ⟨rfl,rfl,rfl,rfl,rfl,rfl,trivial⟩) λa Z t ht F b=> ?_;have T:Bw w Z:=aE B9 B9.size F;have f:=bk F f;refine Rn.p rfl ?_;refine Kt f 281474976000000 d_ o_ a6 (b.only ⟨rfl,rfl,rfl,trivial⟩) λa a7 r hr Q b=> ?_;exact Rn.fj b ⟨r,i,rfl,hr,z,aE T T.size Q⟩
 iterate 2 refine Rn.uu b λa b=> ?_
 refine Rn.vv b (λo c=>AJ c (b.G 27) rfl) λa b=> ?_;refine Rn.p rfl (Rn.cond _ (b.G 28) ?_);by_cases h:600<body.size
 ·rw[decide_eq_true o_];refine Rn.uu b λa b=> ?_;refine Rn.vv b (λo c=>nT (n:=600) c (b.G 29) rfl o_) λa b=> ?_;refine Rn.uu b λa b=> ?_;exact Rn.p rfl (E a _ (by rw[ByteArray.size_extract];omega) (b.only ⟨rfl,rfl,rfl,rfl,trivial⟩))
 ·rw[decide_eq_false o_];exact Rn.p rfl (E a body o_ (b.only ⟨rfl,rfl,rfl,rfl,trivial⟩))
def zf(f:Func):Code:= .seq (.seq (rG f 21) (.cond (.tmp 135) .skip (.exit 0))) (.seq (.block 1 (rG f 23)) (rG f 22))
section
variable{st le:Int}{pu ph:Option Addr}{nu nh cu ch cu' ch':Nat}{au ah:Addr}{n:Int}
theorem EH(hf:w.heap[b]?=some (.cells (dO st le (.slice pu nu cu) (.slice ph nh ch)) 45))(hu:∀i,i<4->w.cell? (au.add (nu+i))=some (.bool false))(hh:∀i,i<4->w.cell? (ah.add (nh+i))=some (.string ⟨#[]⟩))(hnu:nu<4611686018427387904)(hnh:nh<4611686018427387904)
 (next:∀a,Has [(16, .bool true),(12, .i n),(13, .i c),(14, .i n),(15, .i c)] 172 [] a->Rn lT Goal ((base 4).atR a K) cs w):
 ∀(m i:Nat) (a:Act),4- i=m->i<=4->Has [(10, .pt b),(16, .bool true),(17, .slice (some au) (nu+4) cu'),(18, .slice (some ah) (nh+4) ch'),(19, .i i),(12, .i n),(13, .i c),(14, .i n),(15, .i c)] 172 [] a->
  Rn lT Goal ((base 4).atR a (.code (zf Tryz.f4):: .inLoop (zf Tryz.f4):: .inBlock 0::K)) cs w:=by
 intro m;induction m with
 |zero=>
  intro i a hm hi hF
  iterate 2 refine Rn.uu hF λa hF=> ?_
  refine Rn.p rfl (Rn.cond _ (hF.G 135) ?_);rw[decide_eq_false o_];exact Rn.p rfl (next a (hF.only ⟨rfl,rfl,rfl,rfl,rfl,trivial⟩))
 |succ m ih=>
  intro i a hm hi hF
  iterate 2 refine Rn.uu hF λa hF=> ?_
  refine Rn.p rfl (Rn.cond _ (hF.G 135) ?_);rw[decide_eq_true o_]
  iterate 2 refine Rn.uu hF λa hF=> ?_
  iterate 6 refine Rn.uu hF λa hF=> ?_
  rw[show(nu:Int)+(i:Int)=((nu+i:Nat):Int)from o_]at hF;refine Rn.G hF 146 (.indexAddr 42 (.tmp 140) (.tmp 145)) 1 139 true (λv=>v= .pointer (some (au.add (nu+i)))) rfl s_ (λ_ o ho=>aF ((dx (e:=4) (n:=nu+i) k_ (λw=>k_) ho (hF.G 140) (hF.G 145) o_).1) ⟨rfl,rfl⟩) λv a hv1 hF=> ?_;obtain rfl:=hv1 rfl;refine Rn.G hF 147 (.load 4 (.tmp 146)) 1 139 true (λv=>v= .bool false) rfl s_ (λ_ o ho=>aF ((aN (v:= .bool false) lq ho (hF.G 146) (hu i o_)).1) ⟨rfl,rfl⟩) λv a hv1 hF=> ?_;obtain rfl:=hv1 rfl;refine Rn.uu hF λa hF=> ?_
  iterate 2 refine Rn.uu hF λa hF=> ?_
  iterate 6 refine Rn.uu hF λa hF=> ?_
  rw[show(nh:Int)+(i:Int)=((nh+i:Nat):Int)from o_]at hF;refine Rn.G hF 157 (.indexAddr 43 (.tmp 151) (.tmp 156)) 12 150 true (λv=>v= .pointer (some (ah.add (nh+i)))) rfl s_ (λ_ o ho=>aF ((dx (e:=9) (n:=nh+i) k_ (λw=>k_) ho (hF.G 151) (hF.G 156) o_).1) ⟨rfl,rfl⟩) λv a hv1 hF=> ?_;obtain rfl:=hv1 rfl;refine Rn.G hF 158 (.load 9 (.tmp 157)) 12 150 true (λv=>v= .string ⟨#[]⟩) rfl s_ (λ_ o ho=>aF ((aN (v:= .string ⟨#[]⟩) bA ho (hF.G 157) (hh i o_)).1) ⟨rfl,rfl⟩) λv a hv1 hF=> ?_;obtain rfl:=hv1 rfl;refine Rn.uu hF λa hF=> ?_;rw[show((⟨#[]⟩:ByteArray).data.toList==(⟨#[]⟩:ByteArray).data.toList)=true from s_]at hF
  iterate 5 refine Rn.uu hF λa hF=> ?_
  exact Rn.p rfl (Rn.p rfl (ih (i+1) a o_ o_ (hF.only ⟨rfl,rfl,rfl,rfl,rfl,rfl,rfl,rfl,rfl,trivial⟩)))
theorem O7(fin:∀a d,Has [(6, .bool true)] 172 [] a->Rn lT Goal ((base 4).atR a (.code .ret::d)) cs w)(b:Has [(16, .bool true),(12, .i n),(13, .i c),(14, .i n),(15, .i c)] 172 [] a):
 Rn lT Goal ((base 4).atR a (.code (.seq (rG Tryz.f4 24) .ret)::K)) cs w:=by
 iterate 2 refine Rn.uu b λa b=> ?_
 iterate 3 refine Rn.uu b λa b=> ?_
 rw[show(n==n)=true from s_]at b
 iterate 2 refine Rn.uu b λa b=> ?_
 iterate 3 refine Rn.uu b λa b=> ?_
 rw[show(c==c)=true from s_]at b
 iterate 2 refine Rn.uu b λa b=> ?_
 exact Rn.p rfl (fin a _ (b.only ⟨rfl,trivial⟩))
end
end L1
section
open Go.Conc Go.RowKit
theorem iw{cs:Array Value}(h:w.heap[b]?=some (.cells cs t)):(w.setCell ⟨b,i,none⟩ v).heap[b]?=some (.cells (cs.setIfInBounds i v) t):=by simp only[Q6];rw[Array.getElem?_modify,h];simp
theorem pG{s:Sem Value}(h:s.run P w= .ok v w'):(do pure (.value (←s)):Sem Next).run P w= .ok (.value v) w':=by simp[h]
end
namespace L1
open Go.Conc Go.RowKit
section
variable{y:Operand}{m n:Int}
theorem Lv(a:o.op= .build 45 #[(0,x),(2,y)])(c:ev x= .i m)(b:ev y= .i n):(execOp ev o).run lT w= .ok (.value (.agg (dO m n (.slice none 0 0) (.slice none 0 0)))) w:=by
 have e:execOp ev o=(do pure (.value (←Instr.build 45 #[(0, .i m),(2, .i n)]))):=by simp[execOp,a,c,b]
 have d:(do pure (.value (←Instr.build 45 #[(0, .i m),(2, .i n)])):Sem Next).run lT w= .ok (.value (.agg (dO m n (.slice none 0 0) (.slice none 0 0)))) w:=k_
 rw[e,d]
theorem O2(a:o.op= .alloc 45):(execOp ev o).run lT w= .ok (.value (.pk w.heap.size 0)) (w.alloc (.cells (dO 0 0 (.slice none 0 0) (.slice none 0 0)) 45)):=by
 have e:execOp ev o=(do pure (.value (←Qz 45 true (.tuple #[])))):=by simp only[execOp,a]
 have b:(do pure (.value (←Qz 45 true (.tuple #[]))):Sem Next).run lT w= .ok (.value (.pk w.heap.size 0)) (w.alloc (.cells (dO 0 0 (.slice none 0 0) (.slice none 0 0)) 45)):=k_
 rw[e,b]
theorem LM:(lT.info? 45).map (·.size)=some 4:=k_
theorem GL{n:Nat}(d:n<=140737488351240)(a:o.op= .makeSlice 42 x y)(c:ev x= .i n)(b:ev y= .i n):
 (execOp ev o).run lT w= .ok (.value (.sk w.heap.size n n)) (w.alloc (.cells (madeCells #[Value.bool false] n) 4)):=by
 have h:=run_make_row' (P:=lT) 42 4 (Value.bool false) 1 k_ k_ rfl .i64 .i64 n o_ o_ w;have e:execOp ev o=(do pure (.value (←R6 42 (.i n) (.i n)))):=by simp only[execOp,a,c,b]
 rw[e];simp[h]
theorem Ns{g:Addr}{len cap n:Nat}(a:o.op= .slice 42 x none (some y) none)(d:ev x= .slice (some g) len cap)(c:ev y= .i n)(h:n<=cap):(execOp ev o).run lT w= .ok (.value (.slice (some g) n cap)) w:=by
 have e:lT.underlying 42=some (.slice 4):=k_
 have b:(sizeOf 4).run lT w= .ok 1 w:=k_
 simp[execOp,a,d,c,QG,R0,Qq,run_underlying e,Qx,asIntOf,h,b,QM]
theorem BX{g:Nat}{L:List Bool}(hx:ev (.tmp k)= .sk g (L.length+4) (L.length+4))(hy:ev (.tmp j)=v)(hs:dP w v (L.map Value.bool))(hg:w.heap[g]?=some (.cells (madeCells #[Value.bool false] (L.length+4)) 4))(hN:N<=g):
 ∃w',(∀o:Oper,o.op= .call {callee:= .builtin .copy,args:=#[.tmp k, .tmp j],argTypes:=#[42,42]}->(execOp ev o).run lT w= .ok (.value (.i L.length)) w')/\w'.heap[g]?=some (.cells ((L.map Value.bool)++OF 4 (Value.bool false)).toArray 4)/\Below N w w'/\∀b,b≠g->w'.heap[b]?=w.heap[b]?:=by
 obtain⟨p,cap,rfl,hc⟩:=hs;rw[dt]at hg;have hinfo:(lT.info? 4).map (·.size)=some 1:=k_
 have e:∀o:Oper,o.op= .call {callee:= .builtin .copy,args:=#[.tmp k, .tmp j],argTypes:=#[42,42]}->execOp ev o=(do pure (.value (←Builtin.copy_ #[42,42] o.type #[.sk g (L.length+4) (L.length+4), .slice p (L.map Value.bool).length cap]))):=λo hop=>by simp[execOp,hop,resolve,hx,hy,invoke,builtin]
 clear hx hy;cases L with
 |nil=>
  have h:=λty=>run_copy_none (P:=lT) w 42 42 ty 4 (some ⟨g,0,none⟩) p 4 4 0 cap k_ hinfo rfl;exact⟨w,λo ho=>by rw[e o ho];exact pG (h o.type),by simpa using hg,bR,λ_ _=>rfl⟩
 |cons q L=>
  obtain⟨a,rfl,_⟩:=hc 0 (Value.bool q) s_;have h:=λty=>run_copy_row (P:=lT) w 42 42 ty 4 g 0 ((q::L).length+4) ((q::L).length+4) a (((q::L).map Value.bool).length) cap _ _ ((q::L).map Value.bool) k_ hinfo hg s_ (λi u hu=>by obtain⟨a',e,h⟩:=hc i u hu;cases e;exact h) s_ (by intro v hv;obtain⟨_,_,rfl⟩:=Rs.1 hv;rfl);have h1:=λo:Oper=>pG (h o.type);simp only[show goInt (((q::L).map Value.bool).length:Nat)= .i ((q::L).length:Nat)from by rw[Qg];rfl]at h1;refine⟨_,λo ho=>by rw[e o ho];exact h1 o, ?_,bT _ _ _ hN,λb hb=>setRow_other w g b _ hb⟩;rw[setRow_heap w g _ _ _ _ hg];simp
theorem GH{n:Nat}(d:n<=8796093022000)(a:o.op= .makeSlice 43 x y)(c:ev x= .i n)(b:ev y= .i n):
 (execOp ev o).run lT w= .ok (.value (.sk w.heap.size n n)) (w.alloc (.cells (madeCells #[Value.string ⟨#[]⟩] n) 9)):=by
 have h:=run_make_row' (P:=lT) 43 9 (Value.string ⟨#[]⟩) 16 k_ k_ rfl .i64 .i64 n o_ o_ w;have e:execOp ev o=(do pure (.value (←R6 43 (.i n) (.i n)))):=by simp only[execOp,a,c,b]
 rw[e];simp[h]
theorem Nr{g:Addr}{len cap n:Nat}(a:o.op= .slice 43 x none (some y) none)(d:ev x= .slice (some g) len cap)(c:ev y= .i n)(h:n<=cap):(execOp ev o).run lT w= .ok (.value (.slice (some g) n cap)) w:=by
 have e:lT.underlying 43=some (.slice 9):=k_
 have b:(sizeOf 9).run lT w= .ok 1 w:=k_
 simp[execOp,a,d,c,QG,R0,Qq,run_underlying e,Qx,asIntOf,h,b,QM]
theorem BW{g:Nat}{L:List ByteArray}(hx:ev (.tmp k)= .sk g (L.length+4) (L.length+4))(hy:ev (.tmp j)=v)(hs:dP w v (L.map Value.string))(hg:w.heap[g]?=some (.cells (madeCells #[Value.string ⟨#[]⟩] (L.length+4)) 9))(hN:N<=g):
 ∃w',(∀o:Oper,o.op= .call {callee:= .builtin .copy,args:=#[.tmp k, .tmp j],argTypes:=#[43,43]}->(execOp ev o).run lT w= .ok (.value (.i L.length)) w')/\w'.heap[g]?=some (.cells ((L.map Value.string)++OF 4 (Value.string ⟨#[]⟩)).toArray 9)/\Below N w w'/\∀b,b≠g->w'.heap[b]?=w.heap[b]?:=by
 obtain⟨p,cap,rfl,hc⟩:=hs;rw[dt]at hg;have hinfo:(lT.info? 9).map (·.size)=some 1:=k_
 have e:∀o:Oper,o.op= .call {callee:= .builtin .copy,args:=#[.tmp k, .tmp j],argTypes:=#[43,43]}->execOp ev o=(do pure (.value (←Builtin.copy_ #[43,43] o.type #[.sk g (L.length+4) (L.length+4), .slice p (L.map Value.string).length cap]))):=λo hop=>by simp[execOp,hop,resolve,hx,hy,invoke,builtin]
 clear hx hy;cases L with
 |nil=>
  have h:=λty=>run_copy_none (P:=lT) w 43 43 ty 9 (some ⟨g,0,none⟩) p 4 4 0 cap k_ hinfo rfl;exact⟨w,λo ho=>by rw[e o ho];exact pG (h o.type),by simpa using hg,bR,λ_ _=>rfl⟩
 |cons q L=>
  obtain⟨a,rfl,_⟩:=hc 0 (Value.string q) s_;have h:=λty=>run_copy_row (P:=lT) w 43 43 ty 9 g 0 ((q::L).length+4) ((q::L).length+4) a (((q::L).map Value.string).length) cap _ _ ((q::L).map Value.string) k_ hinfo hg s_ (λi u hu=>by obtain⟨a',e,h⟩:=hc i u hu;cases e;exact h) s_ (by intro v hv;obtain⟨_,_,rfl⟩:=Rs.1 hv;rfl);have h1:=λo:Oper=>pG (h o.type);simp only[show goInt (((q::L).map Value.string).length:Nat)= .i ((q::L).length:Nat)from by rw[Qg];rfl]at h1;refine⟨_,λo ho=>by rw[e o ho];exact h1 o, ?_,bT _ _ _ hN,λb hb=>setRow_other w g b _ hb⟩;rw[setRow_heap w g _ _ _ _ hg];simp
end
structure Mw (w0 w:World) (b7 b10:Nat) (cv:Array Value) (st le:Int) (vu vh:Value):Prop where
 old:Bw w0 w
 c7:w.heap[b7]?=some (.cells cv 26)
 c10:w.heap[b10]?=some (.cells (dO st le vu vh) 45)
theorem Mw.go{w0:World}{b7 b10:Nat}{st le:Int}{c d:Value}(h:Mw w0 w b7 b10 cv st le c d)(e:b7<w0.heap.size)(b:b10<w0.heap.size)(a:Below w0.heap.size w w'):Mw w0 w' b7 b10 cv st le c d:=
 ⟨h.old.trans a,(a.block _ e).trans h.c7,(a.block _ b).trans h.c10⟩
theorem tu{L:List Value}(h:dP w v L):∃p c,v= .slice p L.length c:=by obtain⟨p,c,e,_⟩:=h;exact⟨p,c,e⟩
theorem O3{b7 b10:Nat}{st le:Int}{Q S:Value}{us:List Bool}{hs:List ByteArray}
 (c7:w.heap[b7]?=some (.cells cv 26)) (a3:w.heap[b10]?=some (.cells (dO st le Q S) 45)) (hU:dP w Q (us.map .bool)) (hH:dP w S (hs.map .string)) (a7:us.length<=140737488351232) (a8:hs.length<=8796093021952) (a0:s.size<=281474976000000) (hC:kZ et cv w) (hK:w.rangeAt 0 0 (aM et)) (h0:0<w.heap.size)
 (fin:∀a k' w',Bw w w'->Has [(6, .bool true)] 172 [] a->Rn (aJ true tP) Goal ((base 4).atR a (.code .ret::k')) cs w')
 (f:Has [(7, .pt b7),(8, .s s),(10, .pt b10)] 172 [] a):
 Rn (aJ true tP) Goal ((base 4).atR a (.code (.seq (rG Tryz.f4 8) (.seq (rG Tryz.f4 9) (.seq (rG Tryz.f4 10) (.seq (rG Tryz.f4 11) (.seq (rG Tryz.f4 12) (.seq (rG Tryz.f4 13) (.seq (rG Tryz.f4 14) (.seq (rG Tryz.f4 15) (.seq (rG Tryz.f4 16) (.seq (rG Tryz.f4 17) (.seq (rG Tryz.f4 18) (.seq (rG Tryz.f4 19) (.seq (.seq (rG Tryz.f4 20) (.block 0 (.loop (zf Tryz.f4)))) (.seq (rG Tryz.f4 24) .ret))))))))))))))::K)) cs w:=by
 have C:=(gA c7).1;have q:=(gA a3).1;obtain⟨pu,cu,eu⟩:=tu hU;obtain⟨ph,ch,eh⟩:=tu hH;rw[Qg]at eu eh
 iterate 4 refine Rn.uu f λa f=> ?_
 refine Rn.vv f (λo l=>Lv l (f.get (d:=64) rfl) (f.get (d:=66) rfl)) λa f=> ?_;refine Rn.al f (λo l=>O2 l) λw1 a J I _ f=> ?_;refine Rn.nn f (λo l=>cd (cells:=dO st le (.slice none 0 0) (.slice none 0 0)) l (f.get (d:=11) rfl) (f.get (d:=67) rfl) I LM rfl (by simp[dO,Value.oneCell'])) λa f=> ?_;have g:=setRow_heap w1 w.heap.size _ (dO st le (.slice none 0 0) (.slice none 0 0)) _ _ I;have B2:Bw w (w1.setRow w.heap.size (dO st le (.slice none 0 0) (.slice none 0 0))):=J.trans (bT _ _ _ (T6 _));revert g B2;generalize w1.setRow w.heap.size (dO st le (.slice none 0 0) (.slice none 0 0))=w2;intro g B2;have k:Mw w w2 b7 b10 cv st le Q S:=⟨B2,(B2.block _ C).trans c7,(B2.block _ q).trans a3⟩;obtain⟨j,a2⟩:∃b,b=w.heap.size:=⟨_,rfl⟩;rw[←a2]at f g;have P:w.heap.size<=j:=o_
 clear I J B2 a2;refine Rn.uu f λa f=> ?_;refine Rn.vv f (λo l=>(aN (v:=Q) fV l (f.get (d:=68) rfl) ((aH k.c10 1).trans rfl)).1) λa f=> ?_;refine Rn.vv f (λo l=>eb (e:=4) k_ l ((f.get (d:=69) rfl).trans eu)) λa f=> ?_;refine Rn.uu f λa f=> ?_;rw[show(us.length:Int)+4=((us.length+4:Nat):Int)from o_]at f;refine Rn.al f (λo l=>GL o_ l (f.get (d:=71) rfl) (f.get (d:=71) rfl)) λw3 a J I _ f=> ?_;obtain⟨p,e1⟩:∃b,b=w2.heap.size:=⟨_,rfl⟩;rw[←e1]at f I;have W:w.heap.size<=p:=by have:=k.old.size;omega
 have E:j≠p:=by have:=(gA g).1;omega
 have g:=bk J g;have k:=k.go C q (J.mono k.old.size);clear J e1;refine Rn.uu f λa f=> ?_;refine Rn.nn f (λo l=>(dH (v:=(.sk p (us.length+4) (us.length+4))) (v0:=(.slice none 0 0)) rfl rfl k_ l (f.get (d:=73) rfl) (f.get (d:=72) rfl) ((aH g 1).trans rfl) (by simp[Qa,g])).1) λa f=> ?_;have m:(w3.setCell ⟨j,1,none⟩ (.sk p (us.length+4) (us.length+4))).heap[j]?=some (.cells (dO st le (.sk p (us.length+4) (us.length+4)) (.slice none 0 0)) 45):=iw g;have M:=(bO w3 (a:=⟨j,1,none⟩) (.sk p (us.length+4) (us.length+4)) (show p≠j from QF E)).trans I;have k:=k.go C q (cP w3 ⟨j,1,none⟩ (.sk p (us.length+4) (us.length+4)) P);clear g I;revert m M k;generalize w3.setCell ⟨j,1,none⟩ (.sk p (us.length+4) (us.length+4))=w4;intro m M k
 iterate 3 refine Rn.uu f λa f=> ?_
 refine Rn.vv f (λo l=>(aN (v:=Q) fV l (f.get (d:=76) rfl) ((aH k.c10 1).trans rfl)).1) λa f=> ?_;obtain⟨a4,G,F,H,B⟩:=BX (N:=w.heap.size) (ev:=a.eval) (L:=us) (f.get (d:=75) rfl) (f.get (d:=77) rfl) (hU.below k.old) M W;refine Rn.vv f (λo l=>G o l) λa f=> ?_;have k:=k.go C q H;have g:=(B j E).trans m;have t:=F;clear m M F H B G;refine Rn.uu f λa f=> ?_;refine Rn.vv f (λo l=>(aN (v:=S) eI l (f.get (d:=79) rfl) ((aH k.c10 3).trans rfl)).1) λa f=> ?_;refine Rn.vv f (λo l=>eb (e:=9) k_ l ((f.get (d:=80) rfl).trans eh)) λa f=> ?_;refine Rn.uu f λa f=> ?_;rw[show(hs.length:Int)+4=((hs.length+4:Nat):Int)from o_]at f;refine Rn.al f (λo l=>GH o_ l (f.get (d:=82) rfl) (f.get (d:=82) rfl)) λw5 a J I _ f=> ?_;obtain⟨r,e1⟩:∃b,b=a4.heap.size:=⟨_,rfl⟩;rw[←e1]at f I;have X:w.heap.size<=r:=by have:=k.old.size;omega
 have O:j≠r:=by have:=(gA g).1;omega
 have a6:p≠r:=by have:=(gA t).1;omega
 have t:=bk J t;have g:=bk J g;have k:=k.go C q (J.mono k.old.size);clear J e1;refine Rn.uu f λa f=> ?_;refine Rn.nn f (λo l=>(dH (v:=(.sk r (hs.length+4) (hs.length+4))) (v0:=(.slice none 0 0)) rfl rfl k_ l (f.get (d:=84) rfl) (f.get (d:=83) rfl) ((aH g 3).trans rfl) (by simp[Qa,g])).1) λa f=> ?_;have m:(w5.setCell ⟨j,3,none⟩ (.sk r (hs.length+4) (hs.length+4))).heap[j]?=some (.cells (dO st le (.sk p (us.length+4) (us.length+4)) (.sk r (hs.length+4) (hs.length+4))) 45):=iw g;have M:=(bO w5 (a:=⟨j,3,none⟩) (.sk r (hs.length+4) (hs.length+4)) (show r≠j from QF O)).trans I;have k:=k.go C q (cP w5 ⟨j,3,none⟩ (.sk r (hs.length+4) (hs.length+4)) P);have T:=(bO w5 (a:=⟨j,3,none⟩) (.sk r (hs.length+4) (hs.length+4)) (show p≠j from QF E)).trans t;clear g I t;revert m M k T;generalize w5.setCell ⟨j,3,none⟩ (.sk r (hs.length+4) (hs.length+4))=w6;intro m M k T
 iterate 3 refine Rn.uu f λa f=> ?_
 refine Rn.vv f (λo l=>(aN (v:=S) eI l (f.get (d:=87) rfl) ((aH k.c10 3).trans rfl)).1) λa f=> ?_;obtain⟨D,G,F,H,B⟩:=BW (N:=w.heap.size) (ev:=a.eval) (L:=hs) (f.get (d:=86) rfl) (f.get (d:=88) rfl) (hH.below k.old) M X;refine Rn.vv f (λo l=>G o l) λa f=> ?_;have k:=k.go C q H;have g:=(B j O).trans m;have t:=(B p a6).trans T;have z:=F;clear m M T F H B G
 iterate 3 refine Rn.uu f λa f=> ?_
 refine Rn.vv f (λo l=>(aN (v:=Q) fV l (f.get (d:=92) rfl) ((aH k.c10 1).trans rfl)).1) λa f=> ?_;refine Rn.vv f (λo l=>eb (e:=4) k_ l ((f.get (d:=93) rfl).trans eu)) λa f=> ?_
 iterate 2 refine Rn.uu f λa f=> ?_
 refine Rn.nn f (λo l=>(dH (v:=(.sk p us.length (us.length+4))) (v0:=(.sk p (us.length+4) (us.length+4))) rfl rfl k_ l (f.get (d:=96) rfl) (f.get (d:=95) rfl) ((aH g 1).trans rfl) (by simp[Qa,g])).1) λa f=> ?_;have m:(D.setCell ⟨j,1,none⟩ (.sk p us.length (us.length+4))).heap[j]?=some (.cells (dO st le (.sk p us.length (us.length+4)) (.sk r (hs.length+4) (hs.length+4))) 45):=iw g;have T:=(bO D (a:=⟨j,1,none⟩) (.sk p us.length (us.length+4)) (show p≠j from QF E)).trans t;have qt:=(bO D (a:=⟨j,1,none⟩) (.sk p us.length (us.length+4)) (show r≠j from QF O)).trans z;have k:=k.go C q (cP D ⟨j,1,none⟩ (.sk p us.length (us.length+4)) P);clear g t z;revert m T qt k;generalize D.setCell ⟨j,1,none⟩ (.sk p us.length (us.length+4))=w7;intro g t z k
 iterate 3 refine Rn.uu f λa f=> ?_
 refine Rn.vv f (λo l=>(aN (v:=S) eI l (f.get (d:=99) rfl) ((aH k.c10 3).trans rfl)).1) λa f=> ?_;refine Rn.vv f (λo l=>eb (e:=9) k_ l ((f.get (d:=100) rfl).trans eh)) λa f=> ?_
 iterate 2 refine Rn.uu f λa f=> ?_
 refine Rn.nn f (λo l=>(dH (v:=(.sk r hs.length (hs.length+4))) (v0:=(.sk r (hs.length+4) (hs.length+4))) rfl rfl k_ l (f.get (d:=103) rfl) (f.get (d:=102) rfl) ((aH g 3).trans rfl) (by simp[Qa,g])).1) λa f=> ?_;have m:(w7.setCell ⟨j,3,none⟩ (.sk r hs.length (hs.length+4))).heap[j]?=some (.cells (dO st le (.sk p us.length (us.length+4)) (.sk r hs.length (hs.length+4))) 45):=iw g;have T:=(bO w7 (a:=⟨j,3,none⟩) (.sk r hs.length (hs.length+4)) (show p≠j from QF E)).trans t;have qt:=(bO w7 (a:=⟨j,3,none⟩) (.sk r hs.length (hs.length+4)) (show r≠j from QF O)).trans z;have k:=k.go C q (cP w7 ⟨j,3,none⟩ (.sk r hs.length (hs.length+4)) P);clear g t z;revert m T qt k;generalize w7.setCell ⟨j,3,none⟩ (.sk r hs.length (hs.length+4))=w8;intro g t z k;have Y:dP w8 (.sk p us.length (us.length+4)) (us.map .bool):=⟨some ⟨p,0,none⟩,us.length+4,by rw[Qg],λi u hu=>⟨_,rfl,by rw[QV,IS,aH t i];have:i<(us.map Value.bool).length:=(Tf.1 hu).1;rw[R1,Q9 this];exact hu⟩⟩
 have Z:dP w8 (.sk r hs.length (hs.length+4)) (hs.map .string):=⟨some ⟨r,0,none⟩,hs.length+4,by rw[Qg],λi u hu=>⟨_,rfl,by rw[QV,IS,aH z i];have:i<(hs.map Value.string).length:=(Tf.1 hu).1;rw[R1,Q9 this];exact hu⟩⟩
 iterate 2 refine Rn.uu f λa f=> ?_
 refine Rn.cl f Lf.func18 (R:=λx w'=>∃n c,x= .tuple #[.int .i64 n, .int .i64 c]/\Cr et s le us hs n c/\Bw w8 w') ((C1 et dQ s st le _ _ us hs w8 Y Z o_ a0 (Pq h0 k.old hK) (T7 h0 k.old.size)).mono λe w' ⟨n,c,h,hp,hb⟩=>⟨_,h,n,c,rfl,hp,hb⟩) λx w9 hx a f=> ?_;obtain⟨n,c,rfl,hp,b9⟩:=hx;have g:=bk b9 g;have t:=bk b9 t;have z:=bk b9 z;have Y:=Y.below b9;have Z:=Z.below b9;have k:=k.go C q (b9.mono k.old.size)
 iterate 5 refine Rn.uu f λa f=> ?_
 refine Rn.vv f (λo l=>gg hC.two l (f.get (d:=7) rfl) k.c7) λa f=> ?_;refine Rn.uu f λa f=> ?_;refine Rn.vv f (λo l=>tI l (f.get (d:=10) rfl) k.c10) λa f=> ?_;refine Rn.cl f Lf.func19 (R:=λx w'=>x= .tuple #[.int .i64 n, .int .i64 c]/\Bw w9 w') ((C0 et dQ sM cv s st le Q S us hs w9 (hU.below k.old) (hH.below k.old) o_ a0 (hC.mono k.old)).mono λe w' ⟨n',c',h,a1,hb⟩=>⟨_,h,by rw[(Dk hp a1).1,(Dk hp a1).2],hb⟩) λx V hx a f=> ?_;obtain⟨rfl,y⟩:=hx;have g:=bk y g;have t:=bk y t;have z:=bk y z;have Y:=Y.below y;have Z:=Z.below y;have k:=k.go C q (y.mono k.old.size)
 iterate 5 refine Rn.uu f λa f=> ?_
 refine Rn.uu f λa f=> ?_;refine Rn.vv f (λo l=>tI l (f.get (d:=10) rfl) k.c10) λa f=> ?_;refine Rn.cl f Lf.func20 (R:=λx w'=>x= .bool true/\Bw V w') ((Ef V Y Z (hU.below k.old) (hH.below k.old) o_ o_).mono λe w' h=>⟨_,h.1,rfl,h.2⟩) λx a5 hx a f=> ?_;obtain⟨rfl,A⟩:=hx;have g:=bk A g;have t:=bk A t;have z:=bk A z;have k:=k.go C q (A.mono k.old.size);refine Rn.uu f λa f=> ?_
 iterate 3 refine Rn.uu f λa f=> ?_
 refine Rn.vv f (λo l=>(aN (v:=Q) fV l (f.get (d:=122) rfl) ((aH k.c10 1).trans rfl)).1) λa f=> ?_;refine Rn.vv f (λo l=>eb (e:=4) k_ l ((f.get (d:=123) rfl).trans eu)) λa f=> ?_;refine Rn.uu f λa f=> ?_;rw[show(us.length:Int)+4=((us.length+4:Nat):Int)from o_]at f
 iterate 2 refine Rn.uu f λa f=> ?_
 iterate 3 refine Rn.uu f λa f=> ?_
 refine Rn.vv f (λo l=>(aN (v:=S) eI l (f.get (d:=129) rfl) ((aH k.c10 3).trans rfl)).1) λa f=> ?_;refine Rn.vv f (λo l=>eb (e:=9) k_ l ((f.get (d:=130) rfl).trans eh)) λa f=> ?_;refine Rn.uu f λa f=> ?_;rw[show(hs.length:Int)+4=((hs.length+4:Nat):Int)from o_]at f
 iterate 2 refine Rn.uu f λa f=> ?_
 have U:=k.c10;rw[eu,eh]at U;refine Rn.uu f λa f=> ?_;refine Rn.p rfl (Rn.p rfl (Rn.p rfl ?_));refine EH (au:=⟨p,0,none⟩) (ah:=⟨r,0,none⟩) (n:=n) (c:=c) U (λi hi=> ?_) (λi hi=> ?_) o_ o_ (λa f=>O7 (λa k' f=>fin a k' a5 k.old f) f) _ 0 a rfl o_ (f.only ⟨rfl,rfl,rfl,rfl,rfl,rfl,rfl,rfl,rfl,trivial⟩)
 ·rw[QV,IS,aH t (us.length+i),R1,PY s_,Qg,Nat.add_sub_cancel_left,QR,if_pos hi]
 ·rw[QV,IS,aH z (hs.length+i),R1,PY s_,Qg,Nat.add_sub_cancel_left,QR,if_pos hi]
def KO(w:World)(bh:Nat)(w':World):Prop:=w.heap.size<=w'.heap.size/\∀b,b<w.heap.size->b≠bh->w'.heap[b]?=w.heap[b]?
section
variable{b10 bh ch:Nat}{cells:Array Value}{st le at_:Int}{vu:Value}{us:List Bool}{hs:List ByteArray}{z:Nat×Nat}
theorem LS(C:w.heap[b7]?=some (.cells cv 26))(f:w.heap[b10]?=some (.cells (dO st le vu (.sk bh hs.length ch)) 45))(u: -9223372036854775808<=at_/\at_<9223372036854775808)(i:0<hs.length)(E:key.size<=3000)(x:kZ et cv w)
 (c:∀w',Bw w w'->∃v0,w'.cell? ⟨bh,eo at_ hs.length,none⟩=some v0/\w'.frozen? ⟨bh,eo at_ hs.length,none⟩=false)
 (d:Has [(2, .i at_),(7, .pt b7),(8, .s s),(9, .s key),(10, .pt b10)] 172 [] a)
 (next:∀a b,Bw w b->Has [(2, .i at_),(7, .pt b7),(8, .s s),(9, .s key),(10, .pt b10)] 172 [] a->Rn lT Goal ((base 4).atR a K) cs (b.setCell ⟨bh,eo at_ hs.length,none⟩ (.string ⟨(dU et key.data.toList).toArray⟩))):
 Rn lT Goal ((base 4).atR a (.code (rD Tryz.f4 7)::K)) cs w:=by
 have D:=(gA C).1;have g:=(gA f).1;have q:=mY at_ i;refine Rn.tab1 (R:=λa w'=>∃b,Bw w b/\w'=b.setCell ⟨bh,eo at_ hs.length,none⟩ (.string ⟨(dU et key.data.toList).toArray⟩)/\Has [(2, .i at_),(7, .pt b7),(8, .s s),(9, .s key),(10, .pt b10)] 172 [] a) (λa w' ⟨b,B,A,y⟩=>A▸next a b B y) d
  [(52, .pk b10 3),(53,(.sk bh hs.length ch)),(54, .i at_),(55, .pk b10 3),(56,(.sk bh hs.length ch)),(57, .i hs.length),(58, .i (eo at_ hs.length:Nat)),(59, .agg cv),(60, .s key),(61, .string ⟨(dU et key.data.toList).toArray⟩),(62, .pk bh (eo at_ hs.length))] [54,60] [(61, .string ⟨(dU et key.data.toList).toArray⟩),(62, .pk bh (eo at_ hs.length))]
  ⟨tq,
   λz=>dv (aN eI z.e (z.k 52) ((aH ((z.b.block _ g).trans f) 3).trans rfl)).1,
   tq,
   λz=>dv (aN eI z.e (z.k 55) ((aH ((z.b.block _ g).trans f) 3).trans rfl)).1,
   λz=>dv (eb (ty:=43) (e:=9) k_ z.e (z.k 56)),
   λz=>z.c2 (z.k 54) (z.k 57) ((nX at_ hs.length u i _).mono λ_ _ h=>⟨h.1,by rw[h.2];exact bR⟩),
   tq,
   λz=>z.c2 (z.k 59) (z.k 60) (gP et dQ sM cv key _ (x.mono z.b) o_),
   λz=>pv (dx (t:=43) (e:=9) (n:=eo at_ hs.length) k_ (λw=>k_) z.e (z.k 53) (z.k 58) q).1 (by rw[QV,IS]),
   trivial⟩ (λa w' k l d j=> ?_)
 obtain⟨v0,p,m⟩:=c w' l;exact Rn.does0 d (.store 9 (.tmp 62) (.tmp 61)) k_ s_ (λo r=>(dH (v:= .string ⟨(dU et key.data.toList).toArray⟩) (v0:=v0) rfl rfl k_ r (d.G 62) (d.G 61) p m).1) λa d=>j a _ ⟨w',l,rfl,d.only ⟨rfl,rfl,rfl,rfl,rfl,trivial⟩⟩
end
theorem xw{p:Addr}(b:Bw w w')(a:p.block<w.heap.size)(h:w.frozen? p=false):w'.frozen? p=false:=by unfold Qa at h⊢;rw[b.block _ a];exact h
section
variable{b10 bh ch:Nat}{st le at_:Int}{vu vh:Value}{us:List Bool}{hs:List ByteArray}
theorem sixC(F:w.heap[b7]?=some (.cells cv 26))(g:w.heap[b10]?=some (.cells (dO st le vu vh) 45))(ha: -9223372036854775808<=at_/\at_<9223372036854775808)(hk:key.size<=3000)(N:∀w',KO w bh w'->kZ et cv w')(S:∀w',KO w bh w'->dP w' vu (us.map .bool))(M:dP w vh (hs.map .string))
 (A:0<hs.length->vh=(.sk bh hs.length ch)/\bh<w.heap.size/\bh≠0/\bh≠b7/\bh≠b10/\∀i,i<hs.length->w.frozen? ⟨bh,i,none⟩=false)
 (B:us.length<=140737488351232) (C:hs.length<=8796093021952) (z:s.size<=281474976000000) (T:w.rangeAt 0 0 (aM et)) (O:0<w.heap.size)
 (fin:∀a x w',Has [(6, .bool true)] 172 [] a->Rn lT Goal ((base 4).atR a (.code .ret::x)) cs w')
 (d:Has [(2, .i at_),(7, .pt b7),(8, .s s),(9, .s key),(10, .pt b10)] 172 [] a):
 Rn lT Goal ((base 4).atR a (.code (.seq (.seq (rG Tryz.f4 6) (.cond (.tmp 51) (rD Tryz.f4 7) .skip)) (.seq (rG Tryz.f4 8) (.seq (rG Tryz.f4 9) (.seq (rG Tryz.f4 10) (.seq (rG Tryz.f4 11) (.seq (rG Tryz.f4 12) (.seq (rG Tryz.f4 13) (.seq (rG Tryz.f4 14) (.seq (rG Tryz.f4 15) (.seq (rG Tryz.f4 16) (.seq (rG Tryz.f4 17) (.seq (rG Tryz.f4 18) (.seq (rG Tryz.f4 19) (.seq (.seq (rG Tryz.f4 20) (.block 0 (.loop (zf Tryz.f4)))) (.seq (rG Tryz.f4 24) .ret)))))))))))))))::K)) cs w:=by
 have l7:=(gA F).1;have G:=(gA g).1;have H:KO w bh w:=⟨T6 _,λ_ _ _=>rfl⟩;have f:∀a,Has [(7, .pt b7),(8, .s s),(10, .pt b10)] 172 [] a->Rn lT Goal ((base 4).atR a (.code (.seq (rG Tryz.f4 8) (.seq (rG Tryz.f4 9) (.seq (rG Tryz.f4 10) (.seq (rG Tryz.f4 11) (.seq (rG Tryz.f4 12) (.seq (rG Tryz.f4 13) (.seq (rG Tryz.f4 14) (.seq (rG Tryz.f4 15) (.seq (rG Tryz.f4 16) (.seq (rG Tryz.f4 17) (.seq (rG Tryz.f4 18) (.seq (rG Tryz.f4 19) (.seq (.seq (rG Tryz.f4 20) (.block 0 (.loop (zf Tryz.f4)))) (.seq (rG Tryz.f4 24) .ret))))))))))))))::K)) cs w:=λa d=>O3 F g (S w H) M B C z (N w H) T O (λa x w' _ d=>fin a x w' d) d;obtain⟨ph,a0,U⟩:=tu M;rw[Qg]at U
 iterate 2 refine Rn.uu d λa d=> ?_
 refine Rn.vv d (λo I=>eb (e:=9) k_ I ((d.G 45).trans U)) λa d=> ?_
 iterate 2 refine Rn.uu d λa d=> ?_
 by_cases h:0<hs.length
 ·rw[show decide ((hs.length:Int)>0)=true from decide_eq_true o_]at d
  iterate 2 refine Rn.uu d λa d=> ?_
  refine Rn.uu d λa d=> ?_;refine Rn.p rfl (Rn.cond (decide (at_≥0)) (d.G 51) ?_);cases decide (at_≥0)with
  |false=>exact Rn.p rfl (f a (d.only ⟨rfl,rfl,rfl,trivial⟩))
  |true=>
   obtain⟨E,q1,q2,q3,Z,Y⟩:=A h;subst E;have n:=mY at_ h;have P:∀i,i<hs.length->∀u,hs[i]?=some u->w.cell? ⟨bh,i,none⟩=some (.s u):=λi R u D=>by obtain⟨p,c,e,hc⟩:=M;injection e with E e2 e3;obtain⟨a',V,h1⟩:=hc i (.s u) (by rw[R2,D];rfl);rw[←E]at V;cases V;rwa [QV,IS]at h1
   refine LS F g ha h hk (N w H) (λw' l=>⟨_,fO l (P _ n _ (Q0 n)),xw l q1 (Y _ n)⟩) (d.only ⟨rfl,rfl,rfl,rfl,rfl,trivial⟩) λa Q l d=> ?_;have m:KO w bh (Q.setCell ⟨bh,eo at_ hs.length,none⟩ (.string ⟨(dU et key.data.toList).toArray⟩)):=⟨by have:=l.size;simpa[Q6]using this,λb L J=>(bO Q (a:=⟨bh,eo at_ hs.length,none⟩) _ J).trans (l.block b L)⟩;refine O3 (hs:=hs.set (eo at_ hs.length) ⟨(dU et key.data.toList).toArray⟩) ((m.2 b7 l7 (QF q3)).trans F) ((m.2 b10 G (QF Z)).trans g) (S _ m) ?_ B (by rw[List.length_set];exact C) z (N _ m) ?_ (T7 O m.1) (λa x w' _ d=>fin a x w' d) (d.only ⟨rfl,rfl,rfl,trivial⟩)
   ·refine⟨some ⟨bh,0,none⟩,ch,s_,λi u D=>⟨_,rfl, ?_⟩⟩;rw[QV,IS];rw[R2]at D;obtain⟨t,y,rfl⟩:=Qh.1 D;have R:i<hs.length:=(by have:=(Tf.1 y).1;simpa using this);by_cases k:i=eo at_ hs.length
    ·subst k;rw[List.getElem?_set_self n]at y;cases y;exact World.cell?_setCell_same _ _ _ (fO l (P _ n _ (Q0 n)))
    ·rw[List.getElem?_set_ne (QF k)]at y;rw[Qs _ _ _ _ (by intro e;injection e with E e2;exact k e2.symm)];exact fO l (P i R t y)
   ·intro j v hv;have:=T j v hv;unfold Qe at this⊢;rw[m.2 0 O (QF q2)];exact this
 ·rw[show decide ((hs.length:Int)>0)=false from decide_eq_false o_]at d;refine Rn.G d 49 (.move (.tmp 2)) 4 48 false (λ_=>True) rfl s_ (λh=>by cases h) λX a _ d=>Rn.G d 50 (.binOp .geq 3 (.tmp 49) (.const (.i 0)) 3) 4 48 false (λ_=>True) rfl s_ (λh=>by cases h) λW a _ d=>Rn.vv d (λo I=>sQ (q:=false) (r:=false) I (d.G 48) (λh=>by cases h) rfl) λa d=> ?_;refine Rn.p rfl (Rn.cond false (d.G 51) ?_);exact Rn.p rfl (f a (d.only ⟨rfl,rfl,rfl,trivial⟩))
end
end L1
section
open Go.Conc Go.RowKit
def Bv(L:List Int):Array (Nat×Operand):=(L.zipIdx.map λp=>(p.2,Operand.const (.int .i64 p.1))).toArray
theorem db{S:Nat->Prop}{B:Nat}(h:es=#[]):∀e∈es,EvL (dq S) B e:=λe a=>by rw[h]at a;simp at a
theorem iE{S:Nat->Prop}{B:Nat}(h:∀e∈es,∃(a:Addr) (c:Bool),e=⟨.cell a,c,false⟩/\a.block<B/\¬S a.block):∀e∈es,EvL (dq S) B e:=λe d=>by obtain⟨a,c,rfl,g,f⟩:=h e d;exact sS (V:=λb=>b<B/\¬S b) (RO:=λ_=>False) (λb h=>h) (λb h=>h.elim) ⟨rfl, .inl ⟨g,f⟩⟩
theorem q8(a:o.op= .alloc 26):Mk tP ev o w #[.slice none 0 0, .slice none 0 0] 26:=by
 have e:execOp ev o=(do pure (.value (←Qz 26 true (.tuple #[])))):=by simp only[execOp,a]
 unfold Mk;rw[e];constructor<;>kernel_rfl
theorem LK(a:Act)(L:List Int):(Bv L).map (λp=>(p.1,a.eval p.2))=(L.zipIdx.map λp=>(p.2,Value.i p.1)).toArray:=by unfold Bv;rw[Rk,List.map_map];rfl
theorem GY{L:List Int}(b:o.op= .buildSlice 24 n (Bv L)):execOp a.eval o=(do pure (.value (←Instr.buildSlice 24 n (L.zipIdx.map λp=>(p.2,Value.i p.1)).toArray))):=by rw[←LK a L];simp only[execOp,b]
theorem KW(b:o.op= .buildSlice 24 8 (Bv H0)):(execOp a.eval o).run tP w= .ok (.value (.sk w.heap.size 8 8)) (w.alloc (.cells (PN H0).toArray 3))/\(execOp a.eval o).events tP w #[]=#[]:=by rw[GY b];constructor<;>kernel_rfl
theorem O8(b:o.op= .buildSlice 24 64 (Bv et)):(execOp a.eval o).run tP w= .ok (.value (.sk w.heap.size 64 64)) (w.alloc (.cells (PN et).toArray 3))/\(execOp a.eval o).events tP w #[]=#[]:=by rw[GY b];constructor<;>kernel_rfl
section
variable{y:Operand}
theorem Dg(a:o.op= .move x\/o.op= .assign x):(execOp ev o).events P w #[]=#[]:=by rcases a with h|h<;>simp[execOp,h,go_sem]
theorem zm{p q:Option Addr}{c a c':Nat}(b:o.op= .build 26 #[(0,x),(1,y)])(f:ev x= .slice p l c)(d:ev y= .slice q a c'):Yl tP ev o w (.agg #[.slice p l c, .slice q a c']) #[]:=by
 have e:execOp ev o=(do pure (.value (←Instr.build 26 #[(0, .slice p l c),(1, .slice q a c')]))):=by simp[execOp,b,f,d]
 unfold Yl;rw[e];constructor<;>kernel_rfl
theorem zl{u f v0:Value}(c:u.oneCell'=true)(hv:v.oneCell'=true)(a:o.op= .store 26 x y)(i:ev x= .pk b 0)(g:ev y= .agg #[u,v])(h:w.heap[b]?=some (.cells #[f,v0] 26)):
 (execOp ev o).run tP w= .ok .skip (w.setRow b #[u,v])/\∀e∈(execOp ev o).events tP w #[],∃k,e=⟨.cell ⟨b,k,none⟩,true,false⟩:=by
 have l:(sizeOf 26).run tP w= .ok 2 w:=k_
 have d:(sizeOf 26).events tP w #[]=#[]:=k_
 constructor
 ·exact cd a i g h k_ rfl (by simp[c,hv])
 ·have q:w.cell? ⟨b,0,none⟩=some f:=(aH h 0).trans rfl;have p:(w.setCell ⟨b,0,none⟩ u).cell? ⟨b,1,none⟩=some v0:=by rw[Qs _ _ _ _ s_];exact(aH h 1).trans rfl
  have n:w.frozen? ⟨b,0,none⟩=false:=by simp[Qa,h]
  have m:w.frozen? ⟨b,1,none⟩=false:=by simp[Qa,h]
  intro e j;simp[execOp,a,i,g,Rc,storeVar,Value.cells,l,d,storeCells,QM,run_store _ _ _ _ _ c,events_store (hv:=c),events_store (hv:=hv),q,p,n,m,go_sem]at j;rcases j with rfl|rfl
  ·exact⟨0,rfl⟩
  ·exact⟨1,rfl⟩
end
theorem LJ{tmps:Array Value}{u:Value}(a:fn.results=#[.cell 0 26])(c:tmps[0]?=some (.pk b 0))(h:w.heap[b]?=some (.cells #[u,v] 26)):
 (results fn tmps).run tP w= .ok (.agg #[u,v]) w/\∀e∈(results fn tmps).events tP w #[],∃k,e=⟨.cell ⟨b,k,none⟩,false,false⟩:=by
 have f:(isAgg 26).run tP w= .ok true w:=k_
 have j:(isAgg 26).events tP w #[]=#[]:=k_
 have i:w.cell? ⟨b,0,none⟩=some u:=(aH h 0).trans rfl;have g:w.cell? ⟨b,1,none⟩=some v:=(aH h 1).trans rfl;constructor
 ·simp[results,a,c,loadVar,f,loadCells,loadCellsFrom,QM,i,g,go_sem]
 ·intro e d;simp[results,a,c,loadVar,f,j,loadCells,loadCellsFrom,QM,i,g,go_sem]at d;rcases d with rfl|rfl
  ·exact⟨0,rfl⟩
  ·exact⟨1,rfl⟩
theorem cK.mv{Post:Value->World->Prop}{S:Nat->Prop}{b:Frame}{k:List Item}(g:Has F N ds a)(d x:Nat){p:Op}(f:p= .move (.tmp x)\/p= .assign (.tmp x))(j:F.lookup x=some v)
 (next:∀a',Has ((d,v)::F) N ds a'->cK P Post S (dN (b.atR a' (.inRegion ops rest::k)) cs) w) (n:d<N:=by decide) (h:(ops[m]?).map (λo=>(o.dst,o.op,o.guard))=some (some d,p,none):=by kernel_rfl):cK P Post S (dN (b.atR a (.inRegion ops (m::rest)::k)) cs) w:=by
 refine cK.oO g d p (λo c l=> ?_) n h (λc e=>by rcases f with f|f<;>rw[f]at e<;>cases e);have i:o.op= .move (.tmp x)\/o.op= .assign (.tmp x):=by rwa [l]
 exact⟨v,w.at c,by rw[bF i,g.get j],Nat.le_refl _,db (Dg i),λa g=>(next a g).at c⟩
theorem ea(w:World)(c:Nat):Below N w (w.at c):=⟨rfl,rfl,rfl,T6 _,λ_ _=>rfl⟩
theorem Mb:Tryz.f8.body=some (.seq (rG Tryz.f8 0) (.seq (rG Tryz.f8 1) (.seq (rG Tryz.f8 2) (.seq (rG Tryz.f8 3) .ret)))):=k_
theorem GX{Post:Value->World->Prop}{S:Nat->Prop}{c':Frame}{cs':List Frame}(M:∀r,S r->r<w.heap.size)
 (next:∀w',Bw w w'->w'.heap[w.heap.size+1]?=some (.cells (PN H0).toArray 3)->w'.heap[w.heap.size+2]?=some (.cells (PN et).toArray 3)->w'.heap.size=w.heap.size+3->cK tP Post S (dN (c'.finish (.agg #[.sk (w.heap.size+1) 8 8, .sk (w.heap.size+2) 64 64])) cs') w'):
 cK tP Post S (bS tP 8 #[] (c'::cs')) w:=by
 show cK tP Post S (dN (Frame.enter tP 8 ([]:List Value).toArray .normal) (c'::cs')) w;rw[bP (N:=8) [] Tryz.func8 Mb rfl];have b:=aY [] 8 s_;refine cK.plain rfl (cK.region (L:=[0]) rfl ?_);refine cK.oO b 0 (.alloc 26) λo c i=>⟨_,_,(q8 i).1,by rw[aI];exact RQ _,db (q8 i).2,λa b=> ?_⟩;have z:Bw w ((w.at c).alloc (.cells #[.slice none 0 0, .slice none 0 0] 26)):=(ea w c).trans (PK (w.at c) _);have l:((w.at c).alloc (.cells #[.slice none 0 0, .slice none 0 0] 26)).heap[w.heap.size]?=_:=aP (w.at c) (.cells #[.slice none 0 0, .slice none 0 0] 26);have B:((w.at c).alloc (.cells #[.slice none 0 0, .slice none 0 0] 26)).heap.size=w.heap.size+1:=aI (w.at c) _;have b:Has [(0, .pt w.heap.size)] 8 [] a:=b;revert z l B;generalize (w.at c).alloc (.cells #[.slice none 0 0, .slice none 0 0] 26)=g;intro z l B;refine cK.plain rfl (cK.plain rfl (cK.region (L:=[0,1]) rfl ?_));refine cK.oO b 3 (.buildSlice 24 8 (Bv H0)) λo c i=>⟨_,_,(KW i).1,by rw[aI];exact RQ _,db (KW i).2,λa b=> ?_⟩;have q:Bw g ((g.at c).alloc (.cells (PN H0).toArray 3)):=(ea g c).trans (PK (g.at c) _);have s:((g.at c).alloc (.cells (PN H0).toArray 3)).heap[g.heap.size]?=_:=aP (g.at c) (.cells (PN H0).toArray 3);have x:((g.at c).alloc (.cells (PN H0).toArray 3)).heap.size=g.heap.size+1:=aI (g.at c) _;have b:Has [(3, .sk g.heap.size 8 8),(0, .pt w.heap.size)] 8 [] a:=b;rw[B]at b s x;revert q s x;generalize (g.at c).alloc (.cells (PN H0).toArray 3)=f;intro q s x;have l:=(q.block _ o_).trans l;have q:Bw w f:=aE z z.size q;refine cK.mv b 1 3 (p:= .assign (.tmp 3)) (.inr rfl) rfl λa b=>cK.plain rfl (cK.plain rfl (cK.region (L:=[0,1]) rfl ?_));refine cK.oO b 4 (.buildSlice 24 64 (Bv et)) λo c i=>⟨_,_,(O8 i).1,by rw[aI];exact RQ _,db (O8 i).2,λa b=> ?_⟩;have n:Bw f ((f.at c).alloc (.cells (PN et).toArray 3)):=(ea f c).trans (PK (f.at c) _);have y:((f.at c).alloc (.cells (PN et).toArray 3)).heap[f.heap.size]?=_:=aP (f.at c) (.cells (PN et).toArray 3);have A:((f.at c).alloc (.cells (PN et).toArray 3)).heap.size=f.heap.size+1:=aI (f.at c) _;have b:Has [(4, .sk f.heap.size 64 64),(1, .sk (w.heap.size+1) 8 8),(0, .pt w.heap.size)] 8 [] a:=b.only ⟨rfl,rfl,rfl,trivial⟩;rw[x]at b y A;revert n y A;generalize (f.at c).alloc (.cells (PN et).toArray 3)=j;intro n y A;have l:=(n.block _ o_).trans l;have s:=(n.block _ o_).trans s;have n:Bw w j:=aE q q.size n;refine cK.mv b 2 4 (p:= .assign (.tmp 4)) (.inr rfl) rfl λa b=>cK.plain rfl (cK.plain rfl (cK.region (L:=[0,1,2,3]) rfl ?_));refine cK.mv b 5 1 (p:= .move (.tmp 1)) (.inl rfl) rfl λa b=>cK.mv b 6 2 (p:= .move (.tmp 2)) (.inl rfl) rfl λa b=>cK.oO b 7 (.build 26 #[(0, .tmp 5),(1, .tmp 6)]) λo c i=>⟨_,_,(zm i (b.G 5) (b.G 6)).1,T6 _,db (zm i (b.G 5) (b.G 6)).2,λa b=>cK.at ?_ c⟩;have J:¬S w.heap.size:=λh=>Sp _ (M _ h);refine cK.o0 b (.store 26 (.tmp 0) (.tmp 7)) λo c i=> ?_;have m:=zl (w:=j.at c) (u:= .sk (w.heap.size+1) 8 8) (v:= .sk (w.heap.size+1+1) 64 64) rfl rfl i (b.G 0) (b.G 7) l;have K:=bT (N:=w.heap.size) (j.at c) w.heap.size #[.sk (w.heap.size+1) 8 8, .sk (w.heap.size+1+1) 64 64] (T6 _);have E:=setRow_heap (j.at c) w.heap.size _ #[.sk (w.heap.size+1) 8 8, .sk (w.heap.size+1+1) 64 64] _ _ l;have D:=(setRow_other (j.at c) w.heap.size (w.heap.size+1) #[.sk (w.heap.size+1) 8 8, .sk (w.heap.size+1+1) 64 64] o_).trans s;have C:=(setRow_other (j.at c) w.heap.size (w.heap.size+1+1) #[.sk (w.heap.size+1) 8 8, .sk (w.heap.size+1+1) 64 64] o_).trans y;have t:((j.at c).setRow w.heap.size #[.sk (w.heap.size+1) 8 8, .sk (w.heap.size+1+1) 64 64]).heap.size=j.heap.size:=by simp[World.setRow,SD]
 refine⟨_,m.1,Sg t.symm,iE λe F=>let ⟨k,hk⟩:=m.2 e F;⟨_,_,hk,by show w.heap.size<_;rw[t];omega,J⟩,λa b=> ?_⟩;have G:Bw w ((j.at c).setRow w.heap.size #[.sk (w.heap.size+1) 8 8, .sk (w.heap.size+1+1) 64 64]):=n.trans ((ea j c).trans K);clear m K;revert E D C t G;generalize (j.at c).setRow w.heap.size #[.sk (w.heap.size+1) 8 8, .sk (w.heap.size+1+1) 64 64]=H;intro E D C t G;refine cK.plain rfl (cK.ends rfl (.inr ⟨_,rfl⟩) (cK.leaveE _ rfl b.defers Tryz.func8 (λd=> ?_) (next H G D C o_)));have I:=LJ (w:=H.at d) (fn:=Tryz.f8) k_ (b.slot 0 _ rfl) E;exact⟨I.1,iE λe F=>let ⟨k,hk⟩:=I.2 e F;⟨_,_,hk,by show w.heap.size<_;omega,J⟩⟩
section
variable{y:Operand}
theorem zv(a:o.op= .alloc 45):Mk tP ev o w (dO 0 0 (.slice none 0 0) (.slice none 0 0)) 45:=by
 have e:execOp ev o=(do pure (.value (←Qz 45 true (.tuple #[])))):=by simp only[execOp,a]
 unfold Mk;rw[e];constructor<;>kernel_rfl
theorem Ho{m n:Int}(a:o.op= .build 45 #[(0,x),(2,y)])(c:ev x= .i m)(b:ev y= .i n):Yl tP ev o w (.agg (dO m n (.slice none 0 0) (.slice none 0 0))) #[]:=by
 have e:execOp ev o=(do pure (.value (←Instr.build 45 #[(0, .i m),(2, .i n)]))):=by simp[execOp,a,c,b]
 unfold Yl;rw[e];constructor<;>kernel_rfl
theorem j1(j:Nat)(d:j<4)(a:o.op= .fieldAddr 45 x j)(c:ev x= .pk b 0):Yl tP ev o w (.pk b j) #[]:=by
 have e:execOp ev o=(do pure (.value (←BY 45 (.pk b 0) j))):=by simp only[execOp,a,c]
 unfold Yl;rw[e];rcases(o_:j=0\/j=1\/j=2\/j=3)with rfl|rfl|rfl|rfl<;>constructor<;>kernel_rfl
theorem I2{u:Value}(a:o.op= .load 26 x)(c:ev x= .pk b 0)(h:w.heap[b]?=some (.cells #[u,v] 26)):
 (execOp ev o).run tP w= .ok (.value (.agg #[u,v])) w/\∀e∈(execOp ev o).events tP w #[],∃k,e=⟨.cell ⟨b,k,none⟩,false,false⟩:=by
 have f:(isAgg 26).run tP w= .ok true w:=k_
 have j:(isAgg 26).events tP w #[]=#[]:=k_
 have i:w.cell? ⟨b,0,none⟩=some u:=(aH h 0).trans rfl;have g:w.cell? ⟨b,1,none⟩=some v:=(aH h 1).trans rfl;constructor
 ·simp[execOp,a,c,AT,loadVar,f,loadCells,loadCellsFrom,QM,i,g,go_sem]
 ·intro e d;simp[execOp,a,c,AT,loadVar,f,j,loadCells,loadCellsFrom,QM,i,g,go_sem]at d;rcases d with rfl|rfl
  ·exact⟨0,rfl⟩
  ·exact⟨1,rfl⟩
theorem Hk{st le:Int}{p q:Option Addr}{c m c':Nat}{j i g f:Value}(a:o.op= .store 45 x y)(s:ev x= .pk b 0)(r:ev y= .agg (dO st le (.slice p l c) (.slice q m c')))(h:w.heap[b]?=some (.cells #[j,i,g,f] 45)):
 (execOp ev o).run tP w= .ok .skip (w.setRow b (dO st le (.slice p l c) (.slice q m c')))/\∀e∈(execOp ev o).events tP w #[],∃k,e=⟨.cell ⟨b,k,none⟩,true,false⟩:=by
 have u:(sizeOf 45).run tP w= .ok 4 w:=k_
 have n:(sizeOf 45).events tP w #[]=#[]:=k_
 constructor
 ·exact cd a s r h k_ rfl (by simp[dO,Value.oneCell'])
 ·have d:∀k,w.cell? ⟨b,k,none⟩=(#[j,i,g,f]:Array Value)[k]?:=λk=>aH h k;have C:w.cell? ⟨b,0,none⟩=some j:=(d 0).trans rfl;have B:(w.setCell ⟨b,0,none⟩ (.i st)).cell? ⟨b,1,none⟩=some i:=by rw[Qs _ _ _ _ s_];exact(d 1).trans rfl
  have A:((w.setCell ⟨b,0,none⟩ (.i st)).setCell ⟨b,1,none⟩ (.slice p l c)).cell? ⟨b,2,none⟩=some g:=by rw[Qs _ _ _ _ s_,Qs _ _ _ _ s_];exact(d 2).trans rfl
  have z:(((w.setCell ⟨b,0,none⟩ (.i st)).setCell ⟨b,1,none⟩ (.slice p l c)).setCell ⟨b,2,none⟩ (.i le)).cell? ⟨b,3,none⟩=some f:=by rw[Qs _ _ _ _ s_,Qs _ _ _ _ s_,Qs _ _ _ _ s_];exact(d 3).trans rfl
  have v:∀k,w.frozen? ⟨b,k,none⟩=false:=λk=>by simp[Qa,h]
  intro e t;simp[execOp,a,s,r,dO,Rc,storeVar,Value.cells,u,n,storeCells,QM,events_store (hv:=(rfl:(Value.slice p l c).oneCell'=true)),events_store (hv:=(rfl:(Value.slice q m c').oneCell'=true)),C,B,A,z,v,go_sem]at t;rcases t with rfl|rfl|rfl|rfl
  ·exact⟨0,rfl⟩
  ·exact⟨1,rfl⟩
  ·exact⟨2,rfl⟩
  ·exact⟨3,rfl⟩
end
theorem JP{ev:Operand->Value}{ch s a en c ex r n q y t v:Int}{seed body p u:ByteArray}(d:o.op= .load 41 x)(z:ev x= .pk b 0)(h:w.heap[b]?=some (.cells (BD ch s seed a en c ex body r n q p y t v u) 41)):
 (execOp ev o).run tP w= .ok (.value (.agg (BD ch s seed a en c ex body r n q p y t v u))) w/\∀e∈(execOp ev o).events tP w #[],∃k,e=⟨.cell ⟨b,k,none⟩,false,false⟩:=by
 have B:(isAgg 41).run tP w= .ok true w:=k_
 have M:(isAgg 41).events tP w #[]=#[]:=k_
 have L:w.cell? ⟨b,0,none⟩=some (.i ch):=(aH h 0).trans rfl;have K:w.cell? ⟨b,1,none⟩=some (.i s):=(aH h 1).trans rfl;have J:w.cell? ⟨b,2,none⟩=some (.s seed):=(aH h 2).trans rfl;have I:w.cell? ⟨b,3,none⟩=some (.i a):=(aH h 3).trans rfl;have H:w.cell? ⟨b,4,none⟩=some (.i en):=(aH h 4).trans rfl;have G:w.cell? ⟨b,5,none⟩=some (.i c):=(aH h 5).trans rfl;have F:w.cell? ⟨b,6,none⟩=some (.i ex):=(aH h 6).trans rfl;have E:w.cell? ⟨b,7,none⟩=some (.s body):=(aH h 7).trans rfl;have D:w.cell? ⟨b,8,none⟩=some (.i r):=(aH h 8).trans rfl;have C:w.cell? ⟨b,9,none⟩=some (.i n):=(aH h 9).trans rfl;have m:w.cell? ⟨b,10,none⟩=some (.i q):=(aH h 10).trans rfl;have l:w.cell? ⟨b,11,none⟩=some (.s p):=(aH h 11).trans rfl;have j:w.cell? ⟨b,12,none⟩=some (.i y):=(aH h 12).trans rfl;have i:w.cell? ⟨b,13,none⟩=some (.i t):=(aH h 13).trans rfl;have g:w.cell? ⟨b,14,none⟩=some (.i v):=(aH h 14).trans rfl;have f:w.cell? ⟨b,15,none⟩=some (.s u):=(aH h 15).trans rfl;constructor
 ·simp[execOp,d,z,AT,loadVar,B,loadCells,loadCellsFrom,QM,L,K,J,I,H,G,F,E,D,C,m,l,j,i,g,f,BD,go_sem]
 ·intro e A;simp[execOp,d,z,AT,loadVar,B,M,loadCells,loadCellsFrom,QM,L,K,J,I,H,G,F,E,D,C,m,l,j,i,g,f,go_sem]at A;rcases A with rfl|rfl|rfl|rfl|rfl|rfl|rfl|rfl|rfl|rfl|rfl|rfl|rfl|rfl|rfl|rfl<;>exact⟨_,rfl⟩
theorem zA(a:Addr):∀(n i:Nat) (b:Array Value) (w:World) (es:Array Event),(∀j,j<n->(w.cell? (a.add (i+j))).isSome)->∀ev∈(loadCellsFrom a i n b).events P w es,ev∈es\/∃ad:Addr,ad.block=a.block/\ev=⟨.cell ad,false,false⟩
 |0,_,_,_,_,_=>λev h=> .inl (by simpa[loadCellsFrom]using h)
 |n+1,i,b,w,es,hc=>λev h=>by
  simp only[loadCellsFrom,Sem.events_bind]at h;obtain⟨u,c⟩:=Option.isSome_iff_exists.1 (hc 0 o_);simp only[Nat.add_zero]at c;have d:(load (a.add i)).run P w= .ok u w:=by simp[c]
  rw[d]at h;rcases zA a n (i+1) (b.push u) w _ (λj e=>by have:=hc (j+1) o_;rwa [show i+(j+1)=i+1+j by omega]at this) ev h with h|h
  ·rw[events_load,c]at h;rcases Sx.1 h with h|rfl
   ·exact .inl h
   ·exact .inr ⟨_,addBlock a i,rfl⟩
  ·exact .inr h
theorem JW:∀ev∈(askRoom b).events P w es,ev∈es\/ev=⟨.mark .noRoom,false,true⟩:=by
 intro ev h;unfold askRoom at h;split at h
 ·rw[events_mark]at h;exact Sx.1 h
 ·exact .inl (by simpa using h)
theorem Ao(z:Value)(n:Nat):Rm #[z] n=(OF n z).toArray:=by
 apply Array.ext
 ·simp[Rm]
 ·intro i b a;simp[Rm,Nat.mod_one]
theorem KG{y:Operand}{e:TypeId}{i:TypeInfo}{z:Value}{L:List Value}{S:Nat->Prop}(C:P.underlying t=some (.slice e))(E:P.info? e=some i)(N:i.zero=some z)(M:i.size=1)(J:z.cells=#[z])
 (l:o.op= .call {callee:= .builtin .append,args:=#[x,y],argTypes:=#[t,t]}) (Q:a.eval x= .slice none 0 0) (O:a.eval y=v) (hv:dP w v L) (hb:L.length*i.bytes<=140737488355328) (W:L.length<=140737488355328) (X:∀(p:Addr) n c,v= .slice (some p) n c->L≠[]->¬S p.block):
 ∃v' w',(execOp a.eval o).run P w= .ok (.value v') w'/\(∀e∈(execOp a.eval o).events P w #[],EvL (dq S) w'.heap.size e)/\
  ((L=[]/\v'= .slice none 0 0/\w'=w)\/(0<L.length/\∃k c,v'= .sk w.heap.size L.length c/\w'=w.drew.alloc (.cells (L++OF k z).toArray e))):=by
 have g:∀v' w',(RG #[t,t] o.type #[.slice none 0 0,v]).run P w= .ok v' w'->(execOp a.eval o).run P w= .ok (.value v') w':=λv' w' h=>by unfold execOp;simp only[l,resolve,invoke,builtin,Sem.run_bind,Sem.run_pure,Result.andThen_ok,Rk,List.map_cons,List.map_nil,Q,O,h]
 have m:=events_append_op (P:=P) (w:=w) x y t l Q O #[];obtain⟨p,A,rfl,T⟩:=hv;by_cases F:L=[]
 ·subst F;refine⟨.slice none 0 0,w,g _ _ ?_, ?_, .inl ⟨rfl,rfl,rfl⟩⟩
  ·cases p<;>simp[RG,run_underlying C,sizeOf,typeInfo,E,RZ,Rj,loadCells,loadCellsFrom]
  ·rw[m];refine db ?_;cases p<;>simp[RG,run_underlying C,sizeOf,typeInfo,E,RZ,Rj,loadCells,loadCellsFrom]
 ·have f:0<L.length:=Su.2 F;obtain⟨q,rfl,_⟩:=T 0 L[0] (Q0 f);have d:∀j u,L[j]?=some u->w.cell? (q.add j)=some u:=λj u D=>by obtain⟨Z,H,Y⟩:=T j u D;cases H;exact Y
  have K:q.block<w.heap.size:=by
   have h:=d 0 L[0] (Q0 f);unfold Qe at h;rw[addBlock]at h;split at h
   ·exact(gA ‹_›).1
   ·cases h
  have R:=run_append_nil (P:=P) w t o.type e i z C E N q L.length A L (by rw[M,Ss]) d f o_ o_;rw[J,Ao]at R;refine⟨_,_,g _ _ R, ?_, .inr ⟨f,grownCap w L.length 0 e- L.length,grownCap w L.length 0 e,rfl,by rw[List.append_toArray]⟩⟩;rw[m];have hn:L.length≠0:=o_
  have r:¬(9223372036854775807<(L.length:Int)):=o_
  have s:¬(281474976710656<Builtin.nextslicecap L.length 0*i.bytes):=by rw[nextslicecap_zero f];omega
  have U:=run_firstCells_some (P:=P) w.drew i.size L.length q L.length A L (by rw[M,Ss]) (by simpa using d);intro G h;simp[RG,run_underlying C,sizeOf,typeInfo,zeroValue,E,N,RZ,F,r,s,Question.forced,run_firstCells_none,U,newRow]at h;have I:(∃B:Addr,B.block=q.block/\G=⟨.cell B,false,false⟩)\/G=⟨.mark .noRoom,false,true⟩:=by
   simp only[Rj,loadCells]at h;rcases zA q _ 0 _ _ _ (λj D=>by rw[M,Ss]at D;rw[IS];show(w.cell? (q.add j)).isSome=true;rw[d j L[j] (Q0 D)];rfl) G h with h|h
   ·rcases JW G (by simpa using h)with h|h
    ·simp at h
    ·exact .inr h
   ·exact .inl h
  rcases I with⟨B,H,rfl⟩|rfl
  ·exact sS (V:=λb=>b<(w.drew.alloc (.cells (L.toArray++(OF (grownCap w L.length 0 e- L.length) z).toArray) e)).heap.size/\¬S b) (RO:=λ_=>False) (λb h=>h) (λb h=>h.elim) ⟨rfl, .inl ⟨by
    show B.block<_;rw[H,aI];exact Nat.lt_succ_of_lt K,by show¬S B.block;rw[H];exact X _ _ _ rfl F⟩⟩
  ·exact sS (V:=λ_=>False) (RO:=λ_=>False) (λb h=>h.elim) (λb h=>h.elim) (rfl:fD .noRoom=true)
end
section
open Go.Conc
structure kX (F:List (Nat×Value)) (N:Nat) (ds:List Deferred) (a:Act):Prop extends Has F N ds a where
 rest:∀d v,F.lookup d=none->a.tmps[d]?=some v->v=undef
theorem kX.putU(h:kX F N ds a){d:Nat}(g:d<N)(v:Value):kX ((d,v)::F) N ds (a.put (some d) v):=by
 refine⟨h.toHas.put g v,λe u f c=> ?_⟩;by_cases b:e=d
 ·subst b;simp[IT]at f
 ·have i:(e==d)=false:=by simpa using b
  simp only[IT,i]at f;have c:(a.tmps.setIfInBounds d v)[e]?=some u:=c;rw[sN (QF b)]at c;exact h.rest e u f c
theorem ou:∀(L:List Value) (k d:Nat),(fJ k L).lookup d=none->d<k\/k+L.length<=d
 |[],k,d,_=>by simp;omega
 |u::L,k,d,h=>by
  by_cases a:d=k
  ·subst a;simp[fJ]at h
  ·have b:(d==k)=false:=(by simpa using a);simp only[fJ,IT,b]at h;have:=ou L (k+1) d h;simp only[List.length_cons];omega
theorem BF(L:List Value)(N:Nat)(h:L.length<=N):kX (fJ 0 L) N [] ⟨L.toArray++Td (N- L.toArray.size) undef,[]⟩:=by
 refine⟨aY L N h,λd v b a=> ?_⟩;have c:=ou L 0 d b;have a:(L.toArray++Td (N- L.toArray.size) undef)[d]?=some v:=a;rw[Array.getElem?_append_right (by simp;omega),Array.getElem?_replicate]at a;split at a
 ·exact(Option.some.inj a).symm
 ·cases a
theorem JS{D0:Nat->Prop}(j:kX F N [] a)(c:dX f=2)(h:∀p∈F,pr 2 p.1=true\/∀b,aR 2 D0 id b->PI b p.2=p.2)(n:∀b,K.map (dr b)=K):∀b,aR 2 D0 id b->(base f).atR a K=bU b ((base f).atR a K):=by
 intro b o;have l:ig b f a.tmps=a.tmps:=by
  apply Array.ext_getElem?;intro i;cases d:pr 2 i with
  |true=>rw[ku b f a.tmps i (by rw[c];exact d),c];cases a.tmps[i]?<;>rfl
  |false=>
   rw[ek b f a.tmps i (by rw[c];exact d)];cases k:a.tmps[i]? with
   |none=>rfl
   |some v=>
    show some (PI b v)=some v;cases g:F.lookup i with
    |none=>rw[j.rest i v g k,fq]
    |some u=>
     have e:=j.slot i u g;rw[k]at e;cases e;rcases h _ (p8 g)with h|h
     ·rw[d]at h;cases h
     ·rw[h b o]
 have m:=j.defers;unfold bU Frame.atR;show _=({fn:=f,tmps:=ig b f a.tmps,todo:=K.map (dr b),defers:=a.defers.map (mJ b),mode:= .run,kind:= .normal,roundOf:=none}:Frame);rw[l,n,m];rfl
section
variable{S:Nat->Prop}{b:Frame}{k:List Item}
theorem cK.vU(t:kX F N ds a)(d:Tmp)(p:Op)(r:∀(o:Oper) (c:Nat),o.op=p->∃v w',(execOp a.eval o).run P (w.at c)= .ok (.value v) w'/\w.heap.size<=w'.heap.size/\(∀e∈(execOp a.eval o).events P (w.at c) #[],EvL (dq S) w'.heap.size e)/\∀a',kX ((d,v)::F) N ds a'->cK P Post S (dN (b.atR a' (.inRegion ops rest::k)) cs) w')
 (s:d<N:=by decide) (h:(ops[m]?).map (λo=>(o.dst,o.op,o.guard))=some (some d,p,none):=by kernel_rfl) (g:∀c,p≠ .defer c:=by simp):cK P Post S (dN (b.atR a (.inRegion ops (m::rest)::k)) cs) w:=by
 cases f:ops[m]? with
 |none=>rw[f]at h;simp at h
 |some o=>
  rw[f]at h;simp only[Option.map_some,Option.some.injEq,Prod.mk.injEq]at h;obtain⟨x,i,u⟩:=h;refine cK.oper f (by simp[Region.wanted,u]) (λc=>by rw[i];exact g c) λc=> ?_;obtain⟨v,w',q,n,l,j⟩:=r o c i;refine⟨.value v,w',q,rfl,n,l, ?_⟩;show cK P Post S (dN ((b.atR a (.inRegion ops (m::rest)::k)).finish v) cs) w';rw[Frame.finish_atR,f,Option.bind_some,x];exact j _ (t.putU s v)
theorem cK.nU(r:kX F N ds a)(p:Op)(q:∀(o:Oper) (c:Nat),o.op=p->∃w',(execOp a.eval o).run P (w.at c)= .ok .skip w'/\w.heap.size<=w'.heap.size/\(∀e∈(execOp a.eval o).events P (w.at c) #[],EvL (dq S) w'.heap.size e)/\∀a',kX F N ds a'->cK P Post S (dN (b.atR a' (.inRegion ops rest::k)) cs) w')
 (h:(ops[m]?).map (λo=>(o.dst,o.op,o.guard))=some (none,p,none):=by kernel_rfl) (f:∀c,p≠ .defer c:=by simp):cK P Post S (dN (b.atR a (.inRegion ops (m::rest)::k)) cs) w:=by
 cases d:ops[m]? with
 |none=>rw[d]at h;simp at h
 |some o=>
  rw[d]at h;simp only[Option.map_some,Option.some.injEq,Prod.mk.injEq]at h;obtain⟨t,g,s⟩:=h;refine cK.oper d (by simp[Region.wanted,s]) (λc=>by rw[g];exact f c) λc=> ?_;obtain⟨w',n,l,j,i⟩:=q o c g;refine⟨.skip,w',n,rfl,l,j, ?_⟩;show cK P Post S (dN ((b.atR a (.inRegion ops (m::rest)::k)).finish undef) cs) w';rw[Frame.finish_atR,d,Option.bind_some,t];exact i _ r
theorem cK.yU(i:kX F N ds a)(d:Tmp)(p:Op)(j:∀(o:Oper) (c:Nat),o.op=p->Yl P a.eval o (w.at c) v es)(g:∀e∈es,EvL (dq S) w.heap.size e)(next:∀a',kX ((d,v)::F) N ds a'->cK P Post S (dN (b.atR a' (.inRegion ops rest::k)) cs) w)
 (q:d<N:=by decide) (h:(ops[m]?).map (λo=>(o.dst,o.op,o.guard))=some (some d,p,none):=by kernel_rfl) (f:∀c,p≠ .defer c:=by simp):cK P Post S (dN (b.atR a (.inRegion ops (m::rest)::k)) cs) w:=
 cK.vU i d p (λo c l=>⟨v,w.at c,(j o c l).1,Nat.le_refl _,λe n=>g e (by rw[(j o c l).2]at n;exact n),λa i=>(next a i).at c⟩) q h f
theorem cK.mU(g:kX F N ds a)(d:Nat)(x:Operand){p:Op}(f:p= .move x\/p= .assign x)(j:a.eval x=v)
 (next:∀a',kX ((d,v)::F) N ds a'->cK P Post S (dN (b.atR a' (.inRegion ops rest::k)) cs) w) (n:d<N:=by decide) (h:(ops[m]?).map (λo=>(o.dst,o.op,o.guard))=some (some d,p,none):=by kernel_rfl):cK P Post S (dN (b.atR a (.inRegion ops (m::rest)::k)) cs) w:=by
 refine cK.vU g d p (λo c l=> ?_) n h (λc e=>by rcases f with f|f<;>rw[f]at e<;>cases e);have i:o.op= .move x\/o.op= .assign x:=by rwa [l]
 exact⟨v,w.at c,by rw[bF i,j],Nat.le_refl _,db (Dg i),λa g=>(next a g).at c⟩
theorem zS(f:kX F N ds a)(d:Nat){p:Op}(h:(ops[m]?).map (λo=>(o.dst,o.op,o.guard))=some (some d,p,none))(e:d<N)
 (next:∀a',kX ((d,v)::F) N ds a'->cK P Post S (dN (b.atR a' (.inRegion ops rest::k)) cs) w):cK P Post S (dN ((b.atR a (.inRegion ops (m::rest)::k)).finish v) cs) w:=by
 cases c:ops[m]? with
 |none=>rw[c]at h;simp at h
 |some o=>
  rw[c]at h;simp only[Option.map_some,Option.some.injEq,Prod.mk.injEq]at h;rw[Frame.finish_atR,c,Option.bind_some,h.1];exact next _ (f.putU e v)
theorem cK.low(h:(∀r,S r->r<w.heap.size)->cK P Post S g w):cK P Post S g w:=λe d b t q a=>h (λr c=>a.low r c) e d b t q a
theorem nv{ad:Addr}{a:Bool}{B:Nat}(d:ad.block<B)(c:¬S ad.block):∀e∈(#[⟨.cell ad,a,false⟩]:Array Event),EvL (dq S) B e:=iE λe b=>⟨ad,a,by simpa using b,d,c⟩
end
end
section
open Go.Conc Go.RowKit
def nm(v:Value)(b:Nat):Prop:=∃n c,v= .sk b n c
def uA(w:World)(lo:Nat)(e:TypeId)(z:Value)(L:List Value)(v:Value):Prop:=
 (L=[]/\v= .slice none 0 0)\/(0<L.length/\∃b k c,lo<=b/\b<w.heap.size/\v= .sk b L.length c/\w.heap[b]?=some (.cells (L++OF k z).toArray e))
section
variable{lo:Nat}{e:TypeId}{z:Value}{L:List Value}
theorem uA.slice(h:uA w lo e z L v):∃p n c,v= .slice p n c:=by rcases h with⟨_,rfl⟩|⟨_,b,k,c,_,_,rfl,_⟩<;>exact⟨_,_,_,rfl⟩
theorem uA.low{a:Nat}(h:uA w lo e z L v)(d:a<=lo):uA w a e z L v:=by
 rcases h with h|⟨i,b,k,c,g,f⟩
 ·exact .inl h
 ·exact .inr ⟨i,b,k,c,By d g,f⟩
theorem uA.at(h:uA w lo e z L v)(a:nm v b):lo<=b/\b<w.heap.size:=by
 obtain⟨n,c,e⟩:=a;rcases h with⟨_,rfl⟩|⟨_,i,k,g,f,d,rfl,_⟩
 ·cases e
 ·cases e;exact⟨f,d⟩
theorem uA.keep(h:uA w lo e z L v)(g:∀b,nm v b->lo<=b->b<w.heap.size->w'.heap[b]?=w.heap[b]?):uA w' lo e z L v:=by
 rcases h with h|⟨l,b,k,c,f,j,d,i⟩
 ·exact .inl h
 ·have a:=(g b ⟨_,_,d⟩ f j).trans i;exact .inr ⟨l,b,k,c,f,(gA a).1,d,a⟩
theorem uA.sl(h:uA w lo e z L v):dP w v L:=by
 rcases h with⟨rfl,rfl⟩|⟨d,b,k,c,_,_,rfl,a⟩
 ·exact⟨none,0,rfl,λi u h=>by simp at h⟩
 ·refine⟨_,_,rfl,λi u h=>⟨_,rfl, ?_⟩⟩;rw[ka,IS,aH a i,R1,Q9 (Tf.1 h).1];exact h
theorem dP.old{p:Addr}{c:Nat}(h:dP w v L)(e:v= .slice (some p) n c)(d:L≠[]):p.block<w.heap.size:=by
 obtain⟨q,i,g,f⟩:=h;obtain⟨a,rfl,b⟩:=f 0 _ (Q0 (Su.2 d));rw[g]at e;cases e;unfold Qe at b;rw[addBlock]at b;split at b
 ·exact(gA ‹_›).1
 ·cases b
theorem zQ{B:Nat}(h:Below B w w')(c:Nat):Below B w (w'.at c):=h.trans (ea w' c)
theorem Du{y:Operand}{S:Nat->Prop}{bytes:Nat}(s:P.underlying t=some (.slice e))(g:(P.info? e).map (λi=>(i.zero,i.size,i.bytes))=some (some z,1,bytes))(d:z.cells=#[z])
 (f:o.op= .call {callee:= .builtin .append,args:=#[x,y],argTypes:=#[t,t]}) (r:a.eval x= .slice none 0 0) (m:a.eval y=v) (hv:dP w v L) (u:L.length*bytes<=140737488355328) (h:L.length<=140737488355328) (A:∀(p:Addr) n c,v= .slice (some p) n c->L≠[]->¬S p.block):
 ∃v' w',(execOp a.eval o).run P w= .ok (.value v') w'/\(∀e∈(execOp a.eval o).events P w #[],EvL (dq S) w'.heap.size e)/\Bw w w'/\uA w' w.heap.size e z L v':=by
 obtain⟨i,g,q⟩:=Qh.1 g;simp only[Prod.mk.injEq]at q;obtain⟨v',w',C,B,b⟩:=KG s g q.1 q.2.1 d f r m hv (by rw[q.2.2];exact u) h A;refine⟨v',w',C,B, ?_⟩;rcases b with⟨b,j,rfl⟩|⟨b,k,c,j,rfl⟩
 ·exact⟨bR, .inl ⟨b,j⟩⟩
 ·have l:w.drew.heap.size=w.heap.size:=rfl;exact⟨(gw w).trans (PK w.drew _), .inr ⟨b,w.heap.size,k,c,T6 _,by rw[aI,l];exact Nat.lt_succ_self _,j,aP w.drew _⟩⟩
end
def Am(bh bk:Nat):Array Value:=#[.sk bh 8 8, .sk bk 64 64]
structure FB (W w:World) (S:Nat->Prop) (b3 b4 b7 b10 bh bk:Nat) (im c4:Array Value):Prop where
 old:Bw W w
 q3:W.heap.size<=b3/\b3<b10/\¬S b3
 q4:W.heap.size<=b4/\b4<b10/\¬S b4
 q7:W.heap.size<=b7/\b7<b10/\¬S b7
 qh:W.heap.size<=bh/\bh<b10/\¬S bh
 qk:W.heap.size<=bk/\bk<b10/\¬S bk
 l4:b4<w.heap.size
 h3:w.heap[b3]?=some (.cells im 41)
 h4:w.heap[b4]?=some (.cells c4 45)
 h7:w.heap[b7]?=some (.cells (Am bh bk) 26)
 hh:w.heap[bh]?=some (.cells (PN H0).toArray 3)
 hk:w.heap[bk]?=some (.cells (PN et).toArray 3)
section
variable{W:World}{S:Nat->Prop}{b10 bh bk:Nat}{im c4:Array Value}
theorem kz{o:Obj}(h:w.heap[b]?=some o):b<w.heap.size:=(gA h).1
theorem FB.to(M:FB W w S b3 b4 b7 b10 bh bk im c4)(h:Below W.heap.size w w')(k:∀b,b≠b10->b<w.heap.size->w'.heap[b]?=w.heap[b]?):FB W w' S b3 b4 b7 b10 bh bk im c4:=
 ⟨M.old.trans h,M.q3,M.q4,M.q7,M.qh,M.qk,T7 M.l4 h.size,(k _ (Si M.q3.2.1) (kz M.h3)).trans M.h3,(k _ (Si M.q4.2.1) M.l4).trans M.h4,(k _ (Si M.q7.2.1) (kz M.h7)).trans M.h7,(k _ (Si M.qh.2.1) (kz M.hh)).trans M.hh,(k _ (Si M.qk.2.1) (kz M.hk)).trans M.hk⟩
theorem FB.go(M:FB W w S b3 b4 b7 b10 bh bk im c4)(h:Bw w w'):FB W w' S b3 b4 b7 b10 bh bk im c4:=M.to (h.mono M.old.size) λb _ a=>h.block b a
theorem FB.set(M:FB W w S b3 b4 b7 b10 bh bk im c4)(h:Below W.heap.size w w')(k:∀b,b≠b10->w'.heap[b]?=w.heap[b]?):FB W w' S b3 b4 b7 b10 bh bk im c4:=M.to h λb a _=>k b a
end
theorem NE{Post:Value->World->Prop}{S:Nat->Prop}{W:World}{b3 b4 b7 b10 bh U:Nat}{T:Array Value}{st le at_:Int}{I K:Value}{us:List Bool}{hs:List ByteArray}{c6:Code}
 (M:FB W w S b3 b4 b7 b10 bh U T (dO st le I K)) (f:w.heap[b10]?=some (.cells (dO st le (.slice none 0 0) (.slice none 0 0)) 45)) (a0:W.heap.size<=b10) (l:∀r,S r->r<b10) (hS:∀r,S r->W.heap.size<=r)
 (hU:dP W I (us.map .bool)) (hH:dP W K (hs.map .string)) (a1:us.length<=140737488351232) (a2:hs.length<=8796093021952)
 (Z:∀(a:Act) (w:World) (B C:Value),FB W w S b3 b4 b7 b10 bh U T (dO st le I K)->w.heap[b10]?=some (.cells (dO st le B C) 45)->uA w (b10+1) 4 (.bool false) (us.map .bool) B->uA w (b10+1) 9 (.string ⟨#[]⟩) (hs.map .string) C->(∀b,nm B b->nm C b->False)->
   kX [(43, .pk b10 3),(42,C),(41,K),(40, .pk b4 3),(39, .slice none 0 0),(38, .pk b10 3),(37, .pk b10 1),(36,B),(35,I),(34, .pk b4 1),(33, .slice none 0 0),(32, .pk b10 1),(10, .pt b10),(31, .agg (dO st le (.slice none 0 0) (.slice none 0 0))),(30, .i le),(29, .pk b4 2),(28, .i st),(27, .pt b4),(9, .s key),(8, .s s),(26, .s key),(25, .s s),(21, .tuple #[.s s, .s key]),(24, .tuple #[.s s, .s key]),(23, .agg T),(22, .agg (Am bh U)),(7, .pt b7),(20, .agg (Am bh U)),(6, .bool false),(4, .pt b4),(3, .pt b3),(0, .agg T),(1, .agg (dO st le I K)),(2, .i at_)] 172 [] a->cK tP Post S (dN ((base 4).atR a [.code c6]) []) w)
 (d:kX [(10, .pt b10),(31, .agg (dO st le (.slice none 0 0) (.slice none 0 0))),(30, .i le),(29, .pk b4 2),(28, .i st),(27, .pt b4),(9, .s key),(8, .s s),(26, .s key),(25, .s s),(21, .tuple #[.s s, .s key]),(24, .tuple #[.s s, .s key]),(23, .agg T),(22, .agg (Am bh U)),(7, .pt b7),(20, .agg (Am bh U)),(6, .bool false),(4, .pt b4),(3, .pt b3),(0, .agg T),(1, .agg (dO st le I K)),(2, .i at_)] 172 [] a):
 cK tP Post S (dN ((base 4).atR a [.code (.seq (rG Tryz.f4 4) (.seq (rG Tryz.f4 5) c6))]) []) w:=by
 have g:=kz f;have l:¬S b10:=λh=>Sp _ (l _ h);refine cK.plain rfl (cK.region (L:=[0,1,2,3,4,5,6]) rfl ?_);refine cK.yU d 32 (.fieldAddr 45 (.tmp 10) 1) (λo c j=>j1 1 d_ j (d.G 10)) (db rfl) λa d=>cK.yU d 33 (.load 42 (.tmp 32)) (λo c j=>aN (w:=w.at c) (v:= .slice none 0 0) (λw=>⟨k_,k_⟩) j (d.G 32) ((aH f 1).trans rfl)) (nv g l) λa d=>cK.yU d 34 (.fieldAddr 45 (.tmp 4) 1) (λo c j=>j1 1 d_ j (d.G 4)) (db rfl) λa d=>cK.yU d 35 (.load 42 (.tmp 34)) (λo c j=>aN (w:=w.at c) (v:=I) (λw=>⟨k_,k_⟩) j (d.G 34) ((aH M.h4 1).trans rfl)) (nv M.l4 M.q4.2.2) λa d=>cK.vU d 36 (.call {callee:= .builtin .append,args:=#[.tmp 33, .tmp 35],argTypes:=#[42,42]}) λo c j=> ?_;obtain⟨V,i,Y,X,k,m⟩:=Du (P:=tP) (w:=w.at c) (S:=S) (t:=42) (e:=4) (z:=(.bool false)) (bytes:=1) k_ k_ rfl j (d.G 33) (d.G 35) (hU.below (zQ M.old c)) (by rw[Qg];omega) (by rw[Qg];omega) (λp n c e Q h=>RS.2 (hS _ h) (hU.old e Q));refine⟨V,i,Y,k.size,X,λa d=> ?_⟩;have k:Bw w i:=(ea w c).trans k;have m:uA i (b10+1) 4 (.bool false) (us.map .bool) V:=m.low g;obtain⟨q,u,y,rfl⟩:=m.slice;have hw:=k.size;have M:=M.go k;have f:=(k.block _ g).trans f;have g:=T7 g hw;refine cK.yU d 37 (.fieldAddr 45 (.tmp 10) 1) (λo c j=>j1 1 d_ j (d.G 10)) (db rfl) λa d=>cK.nU d (.store 42 (.tmp 37) (.tmp 36)) λo c j=> ?_;have O:=dH (w:=i.at c) (v:=(.slice q u y)) (v0:= .slice none 0 0) rfl rfl k_ j (d.G 37) (d.G 36) ((aH f 1).trans rfl) (by simp only[Qa,SD,f];rfl);have A:((i.at c).setCell ⟨b10,1,none⟩ (.slice q u y)).heap.size=i.heap.size:=by simp[Q6,SD]
 refine⟨_,O.1,Sg A.symm,by rw[O.2,A];exact nv g l,λa d=> ?_⟩;have f:((i.at c).setCell ⟨b10,1,none⟩ (.slice q u y)).heap[b10]?=some (.cells (dO st le (.slice q u y) (.slice none 0 0)) 45):=iw f;have F:∀b,b≠b10->((i.at c).setCell ⟨b10,1,none⟩ (.slice q u y)).heap[b]?=i.heap[b]?:=λb G=>bO (i.at c) (.slice q u y) G;have M:=M.set ((ea i c).trans (cP (N:=W.heap.size) (i.at c) ⟨b10,1,none⟩ (.slice q u y) a0)) F;have x:=m.keep λb _ G _=>F b o_;rw[←A]at g;clear O Y X k m F A;revert f M x g;generalize (i.at c).setCell ⟨b10,1,none⟩ (.slice q u y)=R;intro g f M x;refine cK.plain rfl (cK.plain rfl (cK.region (L:=[0,1,2,3,4,5,6]) rfl ?_));refine cK.yU d 38 (.fieldAddr 45 (.tmp 10) 3) (λo c j=>j1 3 d_ j (d.G 10)) (db rfl) λa d=>cK.yU d 39 (.load 43 (.tmp 38)) (λo c j=>aN (w:=R.at c) (v:= .slice none 0 0) (λw=>⟨k_,k_⟩) j (d.G 38) ((aH f 3).trans rfl)) (nv g l) λa d=>cK.yU d 40 (.fieldAddr 45 (.tmp 4) 3) (λo c j=>j1 3 d_ j (d.G 4)) (db rfl) λa d=>cK.yU d 41 (.load 43 (.tmp 40)) (λo c j=>aN (w:=R.at c) (v:=K) (λw=>⟨k_,k_⟩) j (d.G 40) ((aH M.h4 3).trans rfl)) (nv M.l4 M.q4.2.2) λa d=>cK.vU d 42 (.call {callee:= .builtin .append,args:=#[.tmp 39, .tmp 41],argTypes:=#[43,43]}) λo c j=> ?_;obtain⟨J,i,Y,X,k,m⟩:=Du (P:=tP) (w:=R.at c) (S:=S) (t:=43) (e:=9) (z:=(.string ⟨#[]⟩)) (bytes:=16) k_ k_ rfl j (d.G 39) (d.G 41) (hH.below (zQ M.old c)) (by rw[Qg];omega) (by rw[Qg];omega) (λp n c e Q h=>RS.2 (hS _ h) (hH.old e Q));refine⟨J,i,Y,k.size,X,λa d=> ?_⟩;have k:Bw R i:=(ea R c).trans k;have dj:∀b,nm (.slice q u y) b->nm J b->False:=λb h1 h2=>Sp _ (T7 (x.at h1).2 (m.at h2).1);have m:uA i (b10+1) 9 (.string ⟨#[]⟩) (hs.map .string) J:=m.low g;obtain⟨D,E,H,rfl⟩:=m.slice;have hw:=k.size;have M:=M.go k;have f:=(k.block _ g).trans f;have g:=T7 g hw;have x:=x.keep λb _ _ G=>k.block b G;refine cK.yU d 43 (.fieldAddr 45 (.tmp 10) 3) (λo c j=>j1 3 d_ j (d.G 10)) (db rfl) λa d=>cK.nU d (.store 43 (.tmp 43) (.tmp 42)) λo c j=> ?_;have O:=dH (w:=i.at c) (v:=(.slice D E H)) (v0:= .slice none 0 0) rfl rfl k_ j (d.G 43) (d.G 42) ((aH f 3).trans rfl) (by simp only[Qa,SD,f];rfl);have A:((i.at c).setCell ⟨b10,3,none⟩ (.slice D E H)).heap.size=i.heap.size:=by simp[Q6,SD]
 refine⟨_,O.1,Sg A.symm,by rw[O.2,A];exact nv g l,λa d=> ?_⟩;have f:((i.at c).setCell ⟨b10,3,none⟩ (.slice D E H)).heap[b10]?=some (.cells (dO st le (.slice q u y) (.slice D E H)) 45):=iw f;have F:∀b,b≠b10->((i.at c).setCell ⟨b10,3,none⟩ (.slice D E H)).heap[b]?=i.heap[b]?:=λb G=>bO (i.at c) (.slice D E H) G;have M:=M.set ((ea i c).trans (cP (N:=W.heap.size) (i.at c) ⟨b10,3,none⟩ (.slice D E H) a0)) F;have g3:=m.keep λb _ G _=>F b o_;have x:=x.keep λb _ G _=>F b o_;rw[←A]at g;clear O Y X k m F A;revert f M x g3 g;generalize (i.at c).setCell ⟨b10,3,none⟩ (.slice D E H)=w3;intro g f M g3 x;exact cK.plain rfl (Z a w3 _ _ M f x g3 dj d)
def sB(fn:Func)(vs:List Value)(tmps:Array Value):Prop:=
 (∃r v,fn.results=#[.tmp r]/\vs=[v]/\tmps[r]?=some v)\/(∃r s v u,fn.results=#[.tmp r, .tmp s]/\vs=[v,u]/\tmps[r]?=some v/\tmps[s]?=some u)
def Co(fn:Func):Prop:=(∃r,fn.results=#[.tmp r])\/∃r s,fn.results=#[.tmp r, .tmp s]
def yA:List Value->Value
 |[v]=>v
 |vs=> .tuple vs.toArray
theorem Gn{vs:List Value}{tmps:Array Value}(h:sB fn vs tmps)(w:World):(results fn tmps).run P w= .ok (yA vs) w/\(results fn tmps).events P w #[]=#[]:=by
 rcases h with⟨r,v,b,rfl,a⟩|⟨r,s,v,u,b,rfl,a,c⟩
 ·exact nV b a w
 ·have e:results fn tmps=pure (.tuple #[v,u]):=by simp[results,b,a,c]
  rw[e];exact⟨rfl,rfl⟩
theorem qM{tmps:Array Value}{r:Nat}(h:tmps[r]?.getD undef=v)(b:v≠undef):tmps[r]?=some v:=by
 cases a:tmps[r]? with
 |none=>rw[a]at h;exact absurd h.symm b
 |some x=>rw[a]at h;exact congrArg some h
theorem Gp{vs:List Value}{tmps:Array Value}(d:Co fn)(b:vs.length=fn.results.size)(c:∀v∈vs,v≠undef)(h:(results fn tmps).run P w= .ok (yA vs) w'):sB fn vs tmps:=by
 rcases d with⟨r,a⟩|⟨r,s,a⟩
 ·rw[a]at b
  match vs,b with
  |[v],_=>
   rw[results_tmp a]at h;have e:tmps[r]?.getD undef=v:=(by simp[yA]at h;exact h.1);exact .inl ⟨r,v,a,rfl,qM e (c v s_)⟩
 ·rw[a]at b
  match vs,b with
  |[v,u],_=>
   have e:tmps[r]?.getD undef=v/\tmps[s]?.getD undef=u:=(by simp[results,a,yA]at h;exact h.1);exact .inr ⟨r,s,v,u,a,rfl,qM e.1 (c v s_),qM e.2 (c u s_)⟩
theorem Jy{vs:List Value}{tmps:Array Value}(b:Nat->Nat)(c:dX f=0)(h:sB fn vs tmps):sB fn (vs.map (PI b)) (ig b f tmps):=by
 have a:∀r v,tmps[r]?=some v->(ig b f tmps)[r]?=some (PI b v):=λr v e=>by rw[ek b _ _ r (by rw[c];rfl),e];rfl
 rcases h with⟨r,v,g,rfl,d⟩|⟨r,s,v,u,g,rfl,d,i⟩
 ·exact .inl ⟨r,_,g,rfl,a r v d⟩
 ·exact .inr ⟨r,s,_,_,g,rfl,a r v d,a s u i⟩
theorem Jz{vs:List Value}{tmps:Array Value}(h:sB fn vs tmps)(hv:v∈vs):∃r:Nat,tmps[r]?=some v:=by
 rcases h with⟨r,u,c,rfl,a⟩|⟨r,s,u,x,c,rfl,a,b⟩
 ·simp at hv;subst hv;exact⟨r,a⟩
 ·simp at hv;rcases hv with rfl|rfl
  ·exact⟨r,a⟩
  ·exact⟨s,b⟩
def DJ(D0:Nat->Prop)(Q:List Value->World->Prop):Prop:=
 ∀(D:Nat->Prop) (ρ:Nat->Nat) (w w':World) (vs:List Value),cT 2 0 D ρ w w'->(∀b,D0 b->D b/\ρ b=b)->(∀v∈vs,∀ρ',aR 2 D ρ ρ'->PI ρ' v=PI ρ v)->Q vs w->Q (vs.map (PI ρ)) w'
def Ae(f:FuncId)(fn:Func)(Q:List Value->World->Prop)(g:Goroutine)(w:World):Prop:=
 g.frame.fn=f/\g.frame.mode= .returning/\g.frame.defers=[]/\g.callers=[]/\g.dying=none/\g.frame.kind= .normal/\g.status= .running/\∃vs,sB fn vs g.frame.tmps/\Q vs w
def oF(D0:Nat->Prop)(o:Obj):Prop:=cJ o=true/\∀ρ',aR 2 D0 id ρ'->em ρ' o=o
theorem Az{Q:List Value->World->Prop}(o:P.funcs[f]?=some fn)(p:P.inits.idxOf? f=none)(h:Ae f fn Q g w):∃v,stepG P true g w'= .ended (.done v) w' #[]:=by obtain⟨j,i,e,d,c,b,l,k,a,_⟩:=h;obtain⟨s,u,q,t,r⟩:=g;simp only at j i e d c b l a;subst j d c;obtain⟨n,m⟩:=Gn (P:=P) a w';exact⟨yA k,by simp[stepG,unwind,doReturn,i,e,b,o,p,n,m,seen,GStep.after]⟩
theorem vr{Q:List Value->World->Prop}(hne:dX f=0){D0:Nat->Prop}{ρ:Nat->Nat}(hQ:DJ D0 Q){base:List Frame}{g':Goroutine}(h1:cT 2 0 D ρ w w')(h2:eN 2 D ρ base g g')(h3:∀b,D0 b->D b/\ρ b=b)(hs:Ae f fn Q g w):
 g'.frame.fn=f/\g'.frame.mode= .returning/\g'.frame.defers=[]/\g'.callers=base/\g'.dying=none/\g'.frame.kind= .normal/\g'.status= .running/\∃vs,sB fn vs g'.frame.tmps/\Q vs w':=by
 obtain⟨s1,s2,s3,s4,s5,s6,s7,vs,s8,s9⟩:=hs;have hfr:=h2.frame ρ h1.self;have hcs:=h2.callers ρ h1.self;rw[s4]at hcs;refine⟨by rw[hfr];exact s1,by rw[hfr];exact s2,by rw[hfr];show g.frame.defers.map _=[];rw[s3];rfl,by simpa using hcs,h2.run.2.2.2,by rw[hfr];exact s6,h2.run.2.1,vs.map (PI ρ), ?_,hQ D ρ w w' vs h1 h3 (λv hv ρ' hA=> ?_) s9⟩
 ·rw[hfr];show sB fn _ (ig ρ g.frame.fn g.frame.tmps);rw[s1];exact Jy ρ hne s8
 ·obtain⟨r,hr⟩:=Jz s8 hv;have e:=congrArg (λfr:Frame=>fr.tmps[r]?) (hfr.symm.trans (h2.frame ρ' hA));have k:∀ρ2:Nat->Nat,(bU ρ2 g.frame).tmps[r]?=some (PI ρ2 v):=λρ2=>by show(ig ρ2 g.frame.fn g.frame.tmps)[r]?=_;rw[ek ρ2 _ _ r (by rw[s1,hne];rfl),hr];rfl
  simp only[k]at e;exact(Option.some.inj e).symm
section
variable{D0:Nat->Prop}
theorem nO(k:2<=w.heap.size)(g:∀b,D0 b->2<=b/\∃o,w.heap[b]?=some o/\oF D0 o){f:World}(j:2<=f.heap.size)(a:∀b,D0 b->f.heap[b]?=w.heap[b]?):cT 2 0 D0 id w f where
 inj:=λ_ _ e=>e
 obj:=λb c=>by obtain⟨_,o,h,n,m⟩:=g b c;exact⟨o,h,n,λd l=>by rw[m d l];exact(a b c).trans h⟩
 tape:=λi p=>o_
 glob:=λ_=>Iff.rfl
 far:=⟨T6 2,k,j⟩
 out:=λb c=>(g b c).1
theorem te(E:ko PL PL 2)(z:∀f (fn:Func) c,PL.funcs[f]?=some fn->fn.body=some c->rN f c=true){c:Code}(m:PL.funcs[f]?=some fn)(n:fn.body=some c)(a:Co fn){Q:List Value->World->Prop}(N:DJ D0 Q)
 (q:dX f=0)  (M:∀j,aR 2 D0 id j->args=args.map (PI j)) (y:2<=w.heap.size) (O:∀b,D0 b->2<=b/\∃o,w.heap[b]?=some o/\oF D0 o) (k:kj w w) (d:aT w)
 (P:∀p,Calls PL f args (jJ w p 0) λe w'=>∃vs,e= .returned (yA vs)/\vs.length=fn.results.size/\(∀v∈vs,v≠undef)/\Q vs w'):gn PL (Ae f fn Q) (bS PL f args []) w:=by
 have x:=nO y O y (λ_ _=>rfl);have K:eN 2 D0 id [] (bS PL f args []) (bS PL f args []):=pb x E.tab ⟨fn,fn,m,m,rfl,rfl,c,n,z f fn c m n⟩ (λi h=>M i h) (λi _=>rfl) λc L=>absurd L List.not_mem_nil;refine lN E z (D0:=D0) ni ⟨⟨D0,id,x,K,λb n=>⟨n,rfl⟩⟩,k,d⟩ ⟨rfl,λ_ e=>FrameMode.noConfusion e,rfl⟩ (λp=> ?_) λg X Y w' I G=> ?_
 ·obtain⟨e,w',U,⟨vs,rfl,J,F,H⟩,s,l,r⟩:=P p [];obtain⟨u,C,B,V,t,A⟩:=r;rw[l,m]at t;cases t;exact⟨U,w',u,ng E.inits (StepsIn.of_steps s) qE,l,u,C,rfl,rfl,B,rfl,vs,Gp a J F A,H⟩
 ·obtain⟨⟨D,W,T,S,R⟩,_,_⟩:=I;exact vr q N T S R G
end
end
end Go.Proofs.YtkmoglhgkcnalaaGreatDoor
