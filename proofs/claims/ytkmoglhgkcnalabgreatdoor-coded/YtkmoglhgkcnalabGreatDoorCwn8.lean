/- A part of what the last text of the claim imports: texts laid together, and made small, by a program. -/
import Derived.Deep.OwnRows
import Derived.StillTailTactics
import Derived.Test.YtkmoglhgkcnalabGreatDoorCwn7
set_option maxHeartbeats 16000000
set_option maxRecDepth 100000
open Array renaming getElem?_setIfInBounds_self_of_lt->a40,getElem?_modify->IN,length_toList->LO,ext_getElem?->Wl
open Bool renaming false_or->XA,or_eq_false_iff->YO
open ByteArray renaming size_extract->a52
open Go.Addr renaming add_mid->CH,add->Vu
open Go.Builtin renaming len_->Pr
open Go.ByteArray renaming toList_eq->WK
open Go.Frame renaming enter->a49,finish_atR->BR
open Go.Instr renaming fieldAt->a53,build->C9,alloc->Ee,buildSlice->Fi,sliceAt->JR,sliceBounds->Kg,sliceBound->LY,indexAt->M2,storeAt->Rl,slice->Vh
open Go.IntKind renaming wrap_i64->a5_,i64->A8,u64->LX,wrap_u64->PQ,wrap_u8->XK,u8->Yv
open Go.Operand renaming tmp->Ft
open Go.Region renaming wanted->a39
open Go.StepsIn renaming steps->Wu
open Go.Value renaming oneCell'->LN,agg->Wa
open Go.World renaming cell?->AB,frozen?->Hv
open Int renaming natCast_pow->LK,natCast_add->NY,natCast_ediv->Vw,tmod_eq_emod_of_nonneg->VR,natCast_emod->Ym,not_le->a83
open List renaming getElem?_eq_some_iff->a44,lookup->a51,range->Ak,replicate->C2,getElem?_append_left->G7,size_toArray->Gh,set_append_right->OF,length_map->VF,setIfInBounds_toArray->WI,drop_eq_getElem_cons->Y4,getElem_set->Yh,drop_of_length_le->Yx,set_cons_succ->Z6
open Nat renaming le_refl->a36,lt_of_lt_of_le->a38,zero_add->a46,le_trans->a56
open Ne renaming symm->LZ
open Option renaming map_some->a37,bind_some->Hk
namespace Go.Proofs.YtkmoglhgkcnalabGreatDoor
open Go
variable{n b i N l m k j b3 b4 b7 b9 Wg wd:Nat}{w w' w0 wL wM wE:World}{fr:Frame}{v:Value}{cs:List Frame}{args cv:Array Value}{V RO D V0:Nat->Prop}{q main listen ql:Bool}{g:Goroutine}{a:Act}{K:List Item}{P PL PM:Program}{x:Operand}{ops:Array Oper}{KS:List Int}{t u:TypeId}{o:Oper}{f:FuncId}{es:Array Event}{Goal:Goroutine->World->Prop}{fn:Func}{rest:List Nat}{ds:List Deferred}{X:bS}{F:List (Nat×Value)}{e:Event}{listed:Array Bool}{c:Int}{s msg key sig:ByteArray}{ρ:Nat->Nat}{ev:Operand->Value}{Post:Value->World->Prop}
namespace L1
open Go.Conc Go.RowKit
section
variable{y z u:Operand}{m n:Int}
theorem kG(a:o.op= .binOp .neq 3 x y t)(c:ev x= .i m)(b:ev y= .i n):(execOp ev o).run lT w= .ok (.value (.bool (m !=n))) w:=by simp[execOp,a,c,b,go_sem]
theorem RH(a:o.op= .binOp .eql 67 x y t)(c:ev x= .int .u64 m)(b:ev y= .int .u64 n):(execOp ev o).run lT w= .ok (.value (.bool (m==n))) w:=by simp[execOp,a,c,b,go_sem]
theorem Ck(a:o.op= .alloc 145):(execOp ev o).run lT w= .ok (.value (.pk w.heap.size 0)) (w.alloc (.cells gT 145)):=by
 have e:execOp ev o=(do pure (.value (←Ee 145 true (.tuple #[])))):=by simp only[execOp,a]
 have b:(do pure (.value (←Ee 145 true (.tuple #[]))):Sem Next).run lT w= .ok (.value (.pk w.heap.size 0)) (w.alloc (.cells gT 145)):=k_
 rw[e,b]
theorem Hp(a:o.op= .build 145 #[]):(execOp ev o).run lT w= .ok (.value (.agg gT)) w:=by
 have e:execOp ev o=(do pure (.value (←C9 145 #[]))):=by simp[execOp,a]
 have b:(do pure (.value (←C9 145 #[])):Sem Next).run lT w= .ok (.value (.agg gT)) w:=k_
 rw[e,b]
theorem Hu{a b c d:ByteArray}(f:o.op= .build 145 #[(0,x),(1,y),(2,z),(3,u)])(j:ev x= .s a)(g:ev y= .s b)(i:ev z= .s c)(h:ev u= .s d):
 (execOp ev o).run lT w= .ok (.value (.agg #[.s a, .s b, .s c, .s d, .i 0, .i 0, .i 0, .i 0])) w:=by
 have e:execOp ev o=(do pure (.value (←C9 145 #[(0, .s a),(1, .s b),(2, .s c),(3, .s d)]))):=by simp[execOp,f,j,g,i,h]
 have g:(do pure (.value (←C9 145 #[(0, .s a),(1, .s b),(2, .s c),(3, .s d)])):Sem Next).run lT w= .ok (.value (.agg #[.s a, .s b, .s c, .s d, .i 0, .i 0, .i 0, .i 0])) w:=k_
 rw[e,g]
end
theorem Ac:(lT.info? 145).map (·.size)=some 8:=k_
theorem jy{b:Frame}{k:List Item}{t:Nat}(u:aW F N ds a)(d x j:Nat)(c:Int)(A:d<N)(z:j<8){g:Array Value}(y:F.lookup x=some (.pk b4 0))
 (D:(ops[m]?).map (λo=>(o.dst,o.op,o.guard))=some (some d, .fieldAddr 145 (.tmp x) j,none)) (C:(ops[t]?).map (λo=>(o.dst,o.op,o.guard))=some (none, .store 3 (.tmp d) (.const (.i c)),none)) (f:w.heap[b4]?=some (.cells g 145)) {v0:Value} (h:g[j]?=some v0)
 (next:∀a' w',aW F N ds a'->w'.heap[b4]?=some (.cells (g.setIfInBounds j (.i c)) 145)->(∀M,M<=b4->Below M w w')->Rn lT Goal (b.atR a' (.inRegion ops rest::k)) cs w') (r:F.lookup d=none):Rn lT Goal (b.atR a (.inRegion ops (m::t::rest)::k)) cs w:=by
 refine Rn.op u d (.fieldAddr 145 (.tmp x) j) A D s_ (λo l=>ey j z l (u.get y)) λa i=> ?_;refine Rn.does0 i (.store 3 (.tmp d) (.const (.i c))) C s_ (λo l=>(eK (w:=w) (b:=b4) (k:=j) (v:= .i c) (v0:=v0) rfl rfl k_ l (i.get (d:=d) (by simp[a51])) rfl (by rw[aK f];exact h) (by simp[Hv,f])).1) λa s=> ?_;refine next a _ (s.sub λe v p=> ?_) (lr f) λM B=>ea w _ _ B
 have n:e≠d:=λq=>by rw[q,r]at p;cases p
 simp only[a51,show(e==d)=false from by simpa using n];exact p
def Sq(b:ByteArray)(M:Nat):Nat->Value->World->Prop
 |0,v,_=>v= .string b
 |1,v,_=>v= .string (b.extract 0 4)
 |2,v,_=>v= .string b
 |3,v,_=>v= .string (b.extract 4 8)
 |4,v,_=>v= .string b
 |5,v,_=>v= .string (b.extract 8 24)
 |6,v,_=>v= .string b
 |7,v,_=>v= .string (b.extract 24 b.size)
 |8,v,_=>v= .agg #[.string (b.extract 0 4), .string (b.extract 4 8), .string (b.extract 8 24), .string (b.extract 24 b.size), .int .i64 0, .int .i64 0, .int .i64 0, .int .i64 0]
 |_,v,w=>Bx M gT 145 v w
theorem IM{b:ByteArray}{M:Nat}(k:Nat)(v:Value)(w w':World)(h:Sq b M k v w)(a:Bw w w'):Sq b M k v w':=by
 match k,h with
 |0,h|1,h|2,h|3,h|4,h|5,h|6,h|7,h|8,h=>exact h
 |k+9,h=>exact Bx.mono h a
theorem OH{b:ByteArray}(E:b.size=56){p:Value}(g:aW [(0, .s b),(2,p)] 48 [] a)
 (next:∀a w' b4,w.heap.size<=b4->Bw w w'->w'.heap[b4]?=some (.cells #[.s (b.extract 0 4), .s (b.extract 4 8), .s (b.extract 8 24), .s (b.extract 24 b.size), .int .i64 0, .int .i64 0, .int .i64 0, .int .i64 0] 145)->aW [(4, .pt b4),(0, .s b),(2,p)] 48 [] a->Rn (aI true tP) Goal ((base 97).atR a K) cs w'):
 Rn (aI true tP) Goal ((base 97).atR a (.code (rD Tryz.f97 3)::K)) cs w:=by
 refine Rn.grows (fx:=[(0, .s b),(2,p)]) (ds:=[9,10,11,12,13,14,15,16,17,4]) (N:=48) (df:=[]) (G:=Sq b w.heap.size) k_ k_ IM (λm o a w' D f I A e=> ?_)
  (λm a w'=>(m=10/\∃b4,w.heap.size<=b4/\Bw w w'/\w'.heap[b4]?=some (.cells gT 145)/\aW [(4, .pt b4),(17, .agg #[.s (b.extract 0 4), .s (b.extract 4 8), .s (b.extract 8 24), .s (b.extract 24 b.size), .int .i64 0, .int .i64 0, .int .i64 0, .int .i64 0]),(0, .s b),(2,p)] 48 [] a)\/
    (m=11/\∃b4,w.heap.size<=b4/\Bw w w'/\w'.heap[b4]?=some (.cells #[.s (b.extract 0 4), .s (b.extract 4 8), .s (b.extract 8 24), .s (b.extract 24 b.size), .int .i64 0, .int .i64 0, .int .i64 0, .int .i64 0] 145)/\aW [(4, .pt b4),(0, .s b),(2,p)] 48 [] a))
  (λa w' r=> ?_) (λm o a w' C D f B z=> ?_) (λa w' B=> ?_) g.defers g.size (g.all s_)
 ·have t:=aD (A _ (mG (i:=0) rfl));have H:m<10:=D;rcases(o_:m=0\/m=1\/m=2\/m=3\/m=4\/m=5\/m=6\/m=7\/m=8\/m=9)with rfl|rfl|rfl|rfl|rfl|rfl|rfl|rfl|rfl|rfl
  ·have c:=oS f;exact aJ (by rw[cj (.inl c),t]) ⟨rfl,bR⟩
  ·have c:=oS f;obtain⟨u,j,rfl⟩:=nE e 0 9;exact aJ (t6 (n:=4) c (aD j) rfl o_) ⟨rfl,bR⟩
  ·have c:=oS f;exact aJ (by rw[cj (.inl c),t]) ⟨rfl,bR⟩
  ·have c:=oS f;obtain⟨u,j,rfl⟩:=nE e 2 11;exact aJ (fA (m:=4) (n:=8) c (aD j) rfl rfl o_ o_).1 ⟨rfl,bR⟩
  ·have c:=oS f;exact aJ (by rw[cj (.inl c),t]) ⟨rfl,bR⟩
  ·have c:=oS f;obtain⟨u,j,rfl⟩:=nE e 4 13;exact aJ (fA (m:=8) (n:=24) c (aD j) rfl rfl o_ o_).1 ⟨rfl,bR⟩
  ·have c:=oS f;exact aJ (by rw[cj (.inl c),t]) ⟨rfl,bR⟩
  ·have c:=oS f;obtain⟨u,j,rfl⟩:=nE e 6 15;exact aJ (pO (n:=24) c (aD j) rfl o_) ⟨rfl,bR⟩
  ·have c:=oS f;obtain⟨M,y,rfl⟩:=nE e 1 10;obtain⟨L,x,rfl⟩:=nE e 3 12;obtain⟨F,k,rfl⟩:=nE e 5 14;obtain⟨J,v,rfl⟩:=nE e 7 16;exact aJ (Hu c (aD y) (aD x) (aD k) (aD v)) ⟨rfl,bR⟩
  ·have c:=oS f;exact aJ (Ck c) ⟨⟨w'.heap.size,rfl,I.size,bJ w' _⟩,aZ w' _⟩
 ·obtain⟨u,j,b4,rfl,l,q⟩:=r.come 9 4 rfl trivial;obtain⟨F,k,rfl⟩:=r.come 8 17 rfl trivial;exact .inl ⟨rfl,b4,l,r.old,q,(r.base.more k).more j⟩
 ·rcases B with⟨rfl,b4,l,q,s,g⟩|⟨rfl,_⟩
  ·refine Rn.does0 g (.store 145 (.tmp 4) (.tmp 17)) k_ s_ (λo f=>db f (g.get (d:=4) rfl) (g.get (d:=17) rfl) s Ac rfl (by simp[LN])) λa g=>z a _ (.inr ⟨rfl,b4,l,q.trans (ei w' b4 _ l),setRow_heap w' b4 _ _ _ _ s,g.only ⟨rfl,rfl,rfl,trivial⟩⟩)
  ·exact absurd (gA f).1 d_
 ·rcases B with⟨h,_⟩|⟨_,b4,l,q,s,g⟩
  ·exact absurd h d_
  ·exact next a w' b4 l q s g
def AM(f:Func):Code:= .seq (.seq (rG f 10) (.block 1 (.seq (rG f 12) (.cond (.tmp 32) (rG f 13) (.seq (rG f 14) (.cond (.tmp 37) (rG f 15) (.seq (rG f 16) (.cond (.tmp 42) (rG f 17) (.seq (rG f 11) .ret))))))))) (.seq (rG f 18) .ret)
def TW(f:Func):Code:= .seq (.seq (rG f 4) (.block 0 (.seq (rG f 6) (.cond (.tmp 22) (rG f 7) (.seq (rG f 8) (.cond (.tmp 25) (rG f 9) (.seq (rG f 5) .ret))))))) (AM f)
theorem PI:Tryz.f97.body=some (.seq (rG Tryz.f97 0) (.seq (.seq (rG Tryz.f97 1) (.cond (.tmp 7) (.seq (rG Tryz.f97 2) .ret) .skip)) (.seq (rD Tryz.f97 3) (TW Tryz.f97)))):=k_
def N3(b:ByteArray)(w0:World)(e:Ending)(w':World):Prop:=((i2 b/\e= .returned (.tuple #[.agg (gP b).key, .bool true]))\/(¬i2 b/\e= .returned (.tuple #[.agg gT, .bool false])))/\Bw w0 w'
def rL(b:ByteArray)(w0:World)(cs:List Frame)(g:Goroutine)(w':World):Prop:=∃(a:Act) (k:List Item) (bk:Nat) (cells:Array Value) (tt:TypeId) (v:Value),g=gB {(base 97).atR a k with mode:= .returning} cs/\a.defers=[]/\a.tmps[2]?=some (.pk bk 0)/\w'.heap[bk]?=some (.cells cells tt)/\cells.size=8/\a.tmps[3]?=some v/\N3 b w0 (.returned (.tuple #[.agg cells,v])) w'
section
variable{b:ByteArray}{k:List Item}
theorem Jj(id d:Nat)(h:d<48/\d≠2)(f:¬i2 b)(c:aW [(2, .pt w0.heap.size)] 48 [] a)(i:w.heap[w0.heap.size]?=some (.cells gT 145))(e:Bw w0 w)(j:Ak (bX Tryz.f97 id).size=[0,1,2])
 (n:((bX Tryz.f97 id)[0]?).map (λo=>(o.dst,o.op,o.guard))=some (some d, .build 145 #[],none)) (m:((bX Tryz.f97 id)[1]?).map (λo=>(o.dst,o.op,o.guard))=some (none, .store 145 (.tmp 2) (.tmp d),none)) (l:((bX Tryz.f97 id)[2]?).map (λo=>(o.dst,o.op,o.guard))=some (some 3, .assign (.const (.bool false)),none)):
 Rn lT (rL b w0 cs) ((base 97).atR a (.code (.seq (rG Tryz.f97 id) .ret)::k)) cs w:=by
 refine Rn.p rfl (Rn.r j ?_);refine Rn.op c d (.build 145 #[]) h.1 n s_ (λo g=>Hp g) λa c=> ?_;have p:((d,Wa gT)::[(2, .pt w0.heap.size)]:List (Nat×Value)).lookup 2=some (.pk w0.heap.size 0):=by simp[a51,show(2==d)=false from by simpa using LZ h.2]
 refine Rn.does0 c (.store 145 (.tmp 2) (.tmp d)) m s_ (λo g=>db (cells:=gT) g (c.get (d:=2) p) (c.get (d:=d) (by simp[a51])) i Ac rfl (by simp[gT,LN])) λa c=> ?_;refine Rn.asc c 3 (.bool false) d_ l λa c=> ?_;refine Rn.p rfl (Rn.ends rfl (.inr ⟨_,rfl⟩) (Rn.now ⟨a,_,w0.heap.size,gT,145, .bool false,rfl,c.defers,c.slot 2 _ ?_,setRow_heap w _ _ _ _ _ i,rfl,c.slot 3 _ (by simp[a51]), .inr ⟨f,rfl⟩,e.trans (ei _ _ _ (a36 _))⟩));simp[a51,show(2==d)=false from by simpa using LZ h.2]
theorem Ox(f:i2 b)(c:aW [(2, .pt w0.heap.size),(4, .pt b4)] 48 [] a)(i:w.heap[w0.heap.size]?=some (.cells gT 145))(e:Bw w0 w)(h:w.heap[b4]?=some (.cells (gP b).key 145)):
 Rn (aI true tP) (rL b w0 cs) ((base 97).atR a (.code (.seq (rG Tryz.f97 18) .ret)::k)) cs w:=by refine Rn.vv c (λo g=>ir (s:=gP b) g (c.get (d:=4) rfl) h λ_ _=>rfl) λa c=> ?_;refine Rn.nn c (λo g=>db g (c.get (d:=2) rfl) (c.get (d:=47) rfl) i Ac rfl (by simp[dk.key,LN])) λa c=> ?_;refine Rn.uu c λa c=> ?_;exact Rn.p rfl (Rn.ends rfl (.inr ⟨_,rfl⟩) (Rn.now ⟨a,_,w0.heap.size,(gP b).key,145, .bool true,rfl,c.defers,c.slot 2 _ rfl,setRow_heap w _ _ _ _ _ i,rfl,c.slot 3 _ rfl, .inl ⟨f,rfl⟩,e.trans (ei _ _ _ (a36 _))⟩))
def RL(b:ByteArray)(h w c s:Int):Array Value:=#[.string (b.extract 0 4), .string (b.extract 4 8), .string (b.extract 8 24), .string (b.extract 24 b.size), .int .i64 h, .int .i64 w, .int .i64 c, .int .i64 s]
theorem HU(F:b.size=56)(G:i3 (cP b 0 4)≠0)(c:aW [(2, .pt w0.heap.size),(4, .pt b4)] 48 [] a)(L:w.heap[w0.heap.size]?=some (.cells gT 145))(l:Bw w0 w)(n:w.heap[b4]?=some (.cells (RL b (i3 (cP b 0 4)) 0 0 0) 145))(Q:w0.heap.size<b4):
 Rn lT (rL b w0 cs) ((base 97).atR a (.code (AM Tryz.f97)::k)) cs w:=by
 have D:(b.extract 4 8).size<=8:=by rw[a52];omega
 refine Rn.vv c (λo P=>ey 1 d_ P (c.G 4)) λa c=> ?_;refine Rn.uu c λa c=> ?_;refine Rn.cl c Lf.func81 (R:=λv K=>v= .int .u64 (cP b 4 8)/\K=w) ((eO (b.extract 4 8) w D).mono λe K h=>⟨_,h.1,rfl,h.2⟩) λv N O a c=> ?_;obtain⟨rfl,rfl⟩:=O;have q:∀(a:Act) (m:World),i2 b->(gP b).key=RL b (i3 (cP b 0 4)) (kD (cP b 4 8)) (nL (cP b 4 8)) (na (cP b 4 8))->m.heap[b4]?=some (.cells (RL b (i3 (cP b 0 4)) (kD (cP b 4 8)) (nL (cP b 4 8)) (na (cP b 4 8))) 145)->(∀M,M<=b4->Below M N m)->aW [(2, .pt w0.heap.size),(4, .pt b4)] 48 [] a->
  Rn lT (rL b w0 cs) ((base 97).atR a (.code (.seq (rG Tryz.f97 18) .ret)::k)) cs m:=by intro a m E s p S c;have t:=S (w0.heap.size+1) o_;exact Ox E c ((t.block _ o_).trans L) (l.trans (t.mono o_)) (by rw[s];exact p)
 iterate 2 refine Rn.uu c λa c=> ?_
 refine Rn.p rfl (Rn.cond _ (c.G 32) ?_);have I:∀(x y:Int) (h:x=y),(x==y)=true:=λx y h=>by simpa using h
 have H:∀(x y:Int) (h:x≠y),(x==y)=false:=λx y h=>by simpa using h
 by_cases C:cP b 4 8=2
 ·rw[I _ _ C];have c:aW [(2, .pt w0.heap.size),(4, .pt b4)] 48 [] a:=c.only ⟨rfl,rfl,trivial⟩;refine Rn.gr ?_;refine jy c 34 4 5 2 d_ d_ rfl k_ k_ n rfl (λa m c z j=> ?_) rfl;refine jy c 35 4 6 133 d_ d_ rfl k_ k_ z rfl (λa J c u i=> ?_) rfl;refine jy c 36 4 7 6 d_ d_ rfl k_ k_ u rfl (λa r c p g=> ?_) rfl;have d:kD (cP b 4 8)=2/\nL (cP b 4 8)=133/\na (cP b 4 8)=6:=by rw[C];decide
  refine Rn.p rfl (Rn.p rfl (q a r ⟨F,G,by rw[d.1];decide⟩ rfl ?_ (λM f=>((j M f).trans (i M f)).trans (g M f)) c));rw[d.1,d.2.1,d.2.2];exact p
 rw[H _ _ C]
 iterate 2 refine Rn.uu c λa c=> ?_
 refine Rn.p rfl (Rn.cond _ (c.G 37) ?_);by_cases B:cP b 4 8=3
 ·rw[I _ _ B];have c:aW [(2, .pt w0.heap.size),(4, .pt b4)] 48 [] a:=c.only ⟨rfl,rfl,trivial⟩;refine Rn.gr ?_;refine jy c 39 4 5 4 d_ d_ rfl k_ k_ n rfl (λa m c z j=> ?_) rfl;refine jy c 40 4 6 67 d_ d_ rfl k_ k_ z rfl (λa J c u i=> ?_) rfl;refine jy c 41 4 7 4 d_ d_ rfl k_ k_ u rfl (λa r c p g=> ?_) rfl;have d:kD (cP b 4 8)=4/\nL (cP b 4 8)=67/\na (cP b 4 8)=4:=by rw[B];decide
  refine Rn.p rfl (Rn.p rfl (q a r ⟨F,G,by rw[d.1];decide⟩ rfl ?_ (λM f=>((j M f).trans (i M f)).trans (g M f)) c));rw[d.1,d.2.1,d.2.2];exact p
 rw[H _ _ B]
 iterate 2 refine Rn.uu c λa c=> ?_
 refine Rn.p rfl (Rn.cond _ (c.G 42) ?_);by_cases A:cP b 4 8=4
 ·rw[I _ _ A];have c:aW [(2, .pt w0.heap.size),(4, .pt b4)] 48 [] a:=c.only ⟨rfl,rfl,trivial⟩;refine Rn.gr ?_;refine jy c 44 4 5 8 d_ d_ rfl k_ k_ n rfl (λa m c z j=> ?_) rfl;refine jy c 45 4 6 34 d_ d_ rfl k_ k_ z rfl (λa J c u i=> ?_) rfl;refine jy c 46 4 7 0 d_ d_ rfl k_ k_ u rfl (λa r c p g=> ?_) rfl;have d:kD (cP b 4 8)=8/\nL (cP b 4 8)=34/\na (cP b 4 8)=0:=by rw[A];decide
  refine Rn.p rfl (Rn.p rfl (q a r ⟨F,G,by rw[d.1];decide⟩ rfl ?_ (λM f=>((j M f).trans (i M f)).trans (g M f)) c));rw[d.1,d.2.1,d.2.2];exact p
 rw[H _ _ A];refine Jj 11 31 d_ (λh=>h.2.2 ?_) (c.only ⟨rfl,trivial⟩) L l rfl k_ k_ k_;simp[kD,C,B,A]
theorem F1(t:b.size=56)(c:aW [(2, .pt w0.heap.size),(4, .pt b4)] 48 [] a)(q:w.heap[w0.heap.size]?=some (.cells gT 145))(d:Bw w0 w)(j:w.heap[b4]?=some (.cells (RL b 0 0 0 0) 145))(i:w0.heap.size<b4):
 Rn lT (rL b w0 cs) ((base 97).atR a (.code (TW Tryz.f97)::k)) cs w:=by
 have p:(b.extract 0 4).size<=8:=by rw[a52];omega
 refine Rn.vv c (λo C=>ey 0 d_ C (c.G 4)) λa c=> ?_;refine Rn.uu c λa c=> ?_;refine Rn.cl c Lf.func81 (R:=λv s=>v= .int .u64 (cP b 0 4)/\s=w) ((eO (b.extract 0 4) w p).mono λe s h=>⟨_,h.1,rfl,h.2⟩) λv D B a c=> ?_;obtain⟨rfl,rfl⟩:=B;have z:∀(x y:Int) (h:x=y),(x==y)=true:=λx y h=>by simpa using h
 have u:∀(x y:Int) (h:x≠y),(x==y)=false:=λx y h=>by simpa using h
 iterate 2 refine Rn.uu c λa c=> ?_
 refine Rn.p rfl (Rn.cond _ (c.G 22) ?_);by_cases n:cP b 0 4=5
 ·rw[z _ _ n];have c:aW [(2, .pt w0.heap.size),(4, .pt b4)] 48 [] a:=c.only ⟨rfl,rfl,trivial⟩;refine Rn.gr ?_;refine jy c 24 4 4 5 d_ d_ rfl k_ k_ j rfl (λa A c r g=> ?_) rfl;have l:i3 (cP b 0 4)=5:=by rw[n];decide
  have f:=g (w0.heap.size+1) o_;refine Rn.p rfl (Rn.p rfl (HU t (by rw[l];decide) c ((f.block _ o_).trans q) (d.trans (f.mono o_)) ?_ i));rw[l];exact r
 rw[u _ _ n]
 iterate 2 refine Rn.uu c λa c=> ?_
 refine Rn.p rfl (Rn.cond _ (c.G 25) ?_);by_cases m:cP b 0 4=226
 ·rw[z _ _ m];have c:aW [(2, .pt w0.heap.size),(4, .pt b4)] 48 [] a:=c.only ⟨rfl,rfl,trivial⟩;refine Rn.gr ?_;refine jy c 27 4 4 2 d_ d_ rfl k_ k_ j rfl (λa A c r g=> ?_) rfl;have l:i3 (cP b 0 4)=2:=by rw[m];decide
  have f:=g (w0.heap.size+1) o_;refine Rn.p rfl (Rn.p rfl (HU t (by rw[l];decide) c ((f.block _ o_).trans q) (d.trans (f.mono o_)) ?_ i));rw[l];exact r
 rw[u _ _ m];refine Jj 5 21 d_ (λh=>h.2.1 ?_) (c.only ⟨rfl,trivial⟩) q d rfl k_ k_ k_;simp[i3,n,m]
end
theorem zC(b:ByteArray)(w:World):Calls lT 97 #[.s b] w (N3 b w):=by
 refine qz (t:=2) (u:=3) (ty:=145) (n:=8) Lf.func97 rfl Lf.underlying145 rfl Ac λi=> ?_;show Rn _ (rL b w i) _ i w;rw[aV (N:=48) [.s b] Lf.func97 PI rfl];have c:=aN [.s b] 48 s_;refine Rn.al c (λo k=>Ck k) λp a d f j c=> ?_
 iterate 4 refine Rn.uu c λa c=> ?_
 refine Rn.p rfl (Rn.cond _ (c.G 7) ?_);by_cases e:b.size=56
 ·rw[show((b.size:Int) !=56)=false from by simp;omega];refine Rn.p rfl (Rn.p rfl ?_);refine OH e (c.only ⟨rfl,rfl,trivial⟩) λa m r q g l c=> ?_;exact F1 e (c.only ⟨rfl,rfl,trivial⟩) ((g.block _ o_).trans f) (aB d o_ g) l o_
 ·rw[show((b.size:Int) !=56)=true from by simp;omega];exact Jj 2 8 d_ (λh=>e h.1) (c.only ⟨rfl,trivial⟩) f d rfl k_ k_ k_
end L1
section
open Go
def gS:Array Value:=#[.string ⟨#[]⟩, .string ⟨#[]⟩, .string ⟨#[]⟩, .string ⟨#[]⟩, .int .i64 0, .int .i64 0, .int .i64 0, .int .i64 0, .int .i64 0, .string ⟨#[]⟩, .string ⟨#[]⟩, .string ⟨#[]⟩]
def kl(k:dk)(h n:Nat)(b:ByteArray):Prop:=b.size=44+32*n+32*h/\cP b 0 4<2^h/\(b.extract 4 8).data.toList=k.chains.data.toList/\(b.extract (40+32*n) (44+32*n)).data.toList=k.tree.data.toList
def tI(k:dk)(n:Nat)(b:ByteArray):dk:={k with q:=cP b 0 4,salt:=b.extract 8 40,links:=b.extract 40 (40+32*n),path:=b.extract (44+32*n) b.size}
end
namespace L1
open Go.Conc Go.RowKit
section
variable{y z u v:Operand}{m n:Int}
theorem xS{a b:ByteArray}(c:o.op= .binOp .neq 9 x y t)(e:ev x= .s a)(d:ev y= .s b):(execOp ev o).run lT w= .ok (.value (.bool (a.data.toList !=b.data.toList))) w:=by have g:=WK a;have f:=WK b;simp[execOp,c,e,d,go_sem,g,f,bne]
theorem KE(a:o.op= .binOp .geq 67 x y t)(c:ev x= .int .u64 m)(b:ev y= .int .u64 n):(execOp ev o).run lT w= .ok (.value (.bool (decide (m≥n)))) w:=by simp[execOp,a,c,b,go_sem]
theorem Kv(a:o.op= .binOp .shl 67 x y t)(c:ev x= .int .u64 m)(b:ev y= .i k)(h:k<=64)(d:0<=m*2^k/\m*2^k<18446744073709551616):(execOp ev o).run lT w= .ok (.value (.int .u64 (m*2^k))) w:=by
 have e:LX.wrap (m*2^k)=m*2^k:=by rw[PQ];omega
 simp[execOp,a,c,b,go_sem,e]
theorem Hz(a:o.op= .convert 67 3 x)(b:ev x= .int .u64 m)(h:0<=m/\m<9223372036854775808):(execOp ev o).run lT w= .ok (.value (.i m)) w:=by
 have d:lT.underlying 67=some (.int .u64):=k_
 have c:lT.underlying 3=some (.int .i64):=k_
 have e:A8.wrap m=m:=by rw[a5_];omega
 simp[execOp,a,b,go_sem,d,c,e]
theorem Ho(a:o.op= .build 149 #[]):(execOp ev o).run lT w= .ok (.value (.agg gS)) w:=by
 have e:execOp ev o=(do pure (.value (←C9 149 #[]))):=by simp[execOp,a]
 have b:(do pure (.value (←C9 149 #[])):Sem Next).run lT w= .ok (.value (.agg gS)) w:=k_
 rw[e,b]
theorem Ig(a:o.op= .alloc 149):(execOp ev o).run lT w= .ok (.value (.pk w.heap.size 0)) (w.alloc (.cells gS 149)):=by
 have e:execOp ev o=(do pure (.value (←Ee 149 true (.tuple #[])))):=by simp only[execOp,a]
 have b:(do pure (.value (←Ee 149 true (.tuple #[]))):Sem Next).run lT w= .ok (.value (.pk w.heap.size 0)) (w.alloc (.cells gS 149)):=k_
 rw[e,b]
theorem NA{s:dk}(a:o.op= .build 149 #[(0,x),(1,y),(2,z),(3,u),(4,v)])(g:ev x= .agg s.key)(b:ev y= .i s.q)(f:ev z= .s s.salt)(d:ev u= .s s.links)(c:ev v= .s s.path):
 (execOp ev o).run lT w= .ok (.value (.agg s.cells)) w:=by
 have e:execOp ev o=(do pure (.value (←C9 149 #[(0, .agg s.key),(1, .i s.q),(2, .s s.salt),(3, .s s.links),(4, .s s.path)]))):=by simp[execOp,a,g,b,f,d,c]
 have b:(do pure (.value (←C9 149 #[(0, .agg s.key),(1, .i s.q),(2, .s s.salt),(3, .s s.links),(4, .s s.path)])):Sem Next).run lT w= .ok (.value (.agg s.cells)) w:=k_
 rw[e,b]
end
theorem Ej:(lT.info? 149).map (·.size)=some 12:=k_
end L1
section
open Go
theorem nY{tmps:Array Value}{g d:Nat}{a:Bool}(b:o.guard=some (g,a))(c:(ops[g]?).bind (·.dst)=some d)(hv:tmps[d]?=some (.bool q)):a39 o (yielded ops tmps)=(q==a):=by unfold a39 yielded;rw[b];simp[c,hv]
end
namespace L1
open Go.Conc Go.RowKit
def Sp(k:dk)(b:ByteArray)(N H2 h T:Nat)(c1 n1 n2:Bool):Nat->Value->World->Prop
 |0,v,_=>v= .int .u64 (cP b 0 4)
 |1,v,_=>v= .pk N 4
 |2,v,_=>v= .int .i64 h
 |3,v,_=>v= .int .u64 (H2:Int)
 |4,v,_=>v= .bool c1
 |5,v,_=>v= .bool c1
 |6,v,_=>c1=false->v= .string b
 |7,v,_=>c1=false->v= .string (b.extract 4 8)
 |8,v,_=>c1=false->v= .pk N 1
 |9,v,_=>c1=false->v= .string k.chains
 |10,v,_=>c1=false->v= .bool n1
 |11,v,_=>v= .bool (c1||n1)
 |12,v,_=>v= .bool (c1||n1)
 |13,v,_=>(c1||n1)=false->v= .string b
 |14,v,_=>(c1||n1)=false->v= .int .i64 T
 |15,v,_=>(c1||n1)=false->v= .int .i64 ((T+4:Nat):Int)
 |16,v,_=>(c1||n1)=false->v= .string (b.extract T (T+4))
 |17,v,_=>(c1||n1)=false->v= .pk N 0
 |18,v,_=>(c1||n1)=false->v= .string k.tree
 |19,v,_=>(c1||n1)=false->v= .bool n2
 |_,v,_=>v= .bool (c1||n1||n2)
theorem IL{k:dk}{b:ByteArray}{H2 h T:Nat}{c1 n1 n2:Bool}(m:Nat)(v:Value)(w w':World)(a:Sp k b N H2 h T c1 n1 n2 m v w):Sp k b N H2 h T c1 n1 n2 m v w':=by
 match m,a with
 |0,h|1,h|2,h|3,h|4,h|5,h|6,h|7,h|8,h|9,h|10,h|11,h|12,h|13,h|14,h|15,h|16,h|17,h|18,h|19,h|_+20,h=>exact h
section
variable{k:dk}{b:ByteArray}{H2 h T:Nat}{c1 n1 n2:Bool}
theorem OG(U:H2=2^h)(hh:k.height=h)(a2:h<=8)(a5:H2<=256)(hb:T+4<=b.size)(a4:8<=b.size)(Q:c1=decide (cP b 0 4≥(H2:Int)))(P:n1=((b.extract 4 8).data.toList !=k.chains.data.toList))(O:n2=((b.extract T (T+4)).data.toList !=k.tree.data.toList))
 (E:w.heap[N]?=some (.cells k.key 145)) (W:aW [(1, .s b),(2, .pt N),(6, .i T),(7, .i ((T+4:Nat):Int)),(8, .int .u64 (cP b 0 4)),(4, .pt (N+1))] 61 [] a)
 (next:∀a w',Bw w w'->aW [(47, .bool (c1||n1||n2)),(1, .s b),(2, .pt N),(6, .i T),(7, .i ((T+4:Nat):Int)),(8, .int .u64 (cP b 0 4)),(4, .pt (N+1))] 61 [] a->Rn lT Goal ((base 98).atR a K) cs w'):
 Rn lT Goal ((base 98).atR a (.code (rD Tryz.f98 6)::K)) cs w:=by
 refine Rn.growsG (fx:=[(1, .s b),(2, .pt N),(6, .i T),(7, .i ((T+4:Nat):Int)),(8, .int .u64 (cP b 0 4)),(4, .pt (N+1))]) (ds:=[27,28,29,30,31,32,33,34,35,36,37,38,39,40,41,42,43,44,45,46,47]) (N:=61) (df:=[]) (G:=Sp k b N H2 h T c1 n1 n2) k_ k_ (λm v w w' hg _=>IL m v w w' hg) (λm o a w' hm s S a0 D c=> ?_)
  (λm a w'=>m=21/\Bw w w'/\aW [(47, .bool (c1||n1||n2)),(1, .s b),(2, .pt N),(6, .i T),(7, .i ((T+4:Nat):Int)),(8, .int .u64 (cP b 0 4)),(4, .pt (N+1))] 61 [] a)
  (λa w' V=> ?_) (λm o a w' Z hm s J a3=> ?_) (λa w' J=> ?_) W.defers W.size (W.all s_)
 ·have f1:=aD (D _ (mG (i:=0) rfl));have Y:=aD (D _ (mG (i:=1) rfl));have f6:=aD (D _ (mG (i:=2) rfl));have f7:=aD (D _ (mG (i:=3) rfl));have f8:=aD (D _ (mG (i:=4) rfl));have B:=(S.block N (gA E).1).trans E;have first:∀{o:Oper} {R:Value->World->Prop} (q:Bool) (g d:Nat),o.guard=some (g,false)->((bX Tryz.f98 6)[g]?).bind (·.dst)=some d->a.tmps[d]?=some (.bool q)->(q=false->qJ lT a o w' R)->(q=true->R undef w')->EO lT (bX Tryz.f98 6) a o w' R:=λ{o R} q g d z I X h4 h5=>by
   have hw:=nY (ops:=bX Tryz.f98 6) (tmps:=a.tmps) z I X;cases q with
   |false=>exact .inl ⟨hw,h4 rfl⟩
   |true=>exact .inr ⟨hw,h5 rfl⟩
  have t:∀{m:Nat} {o:Oper} {d:Option Tmp} {p:Op} {g:Nat},(bX Tryz.f98 6)[m]?=some o->((bX Tryz.f98 6)[m]?).map (λo=>(o.dst,o.op,o.guard))=some (d,p,some (g,false))->o.op=p/\o.guard=some (g,false):=λ{m o d p g} s C=>by rw[s]at C;simp only[a37,Option.some.injEq,Prod.mk.injEq]at C;exact⟨C.2.1,C.2.2⟩
  have a1:m<21:=hm;rcases(o_:m=0\/m=1\/m=2\/m=3\/m=4\/m=5\/m=6\/m=7\/m=8\/m=9\/m=10\/m=11\/m=12\/m=13\/m=14\/m=15\/m=16\/m=17\/m=18\/m=19\/m=20)with rfl|rfl|rfl|rfl|rfl|rfl|rfl|rfl|rfl|rfl|rfl|rfl|rfl|rfl|rfl|rfl|rfl|rfl|rfl|rfl|rfl
  ·obtain⟨F,f,A⟩:=oQ s;exact .inl ⟨A _,aJ (by rw[cj (.inl f),f8]) ⟨rfl,bR⟩⟩
  ·obtain⟨F,f,A⟩:=oQ s;exact .inl ⟨A _,aJ (ey 4 d_ f Y) ⟨rfl,bR⟩⟩
  ·obtain⟨F,f,A⟩:=oQ s;obtain⟨u,j,rfl⟩:=nE c 1 28;exact .inl ⟨A _,aJ (aP (v:= .i h) cp f (aD j) ((aK B 4).trans (by rw[←hh];rfl))).1 ⟨rfl,bR⟩⟩
  ·obtain⟨F,f,A⟩:=oQ s;obtain⟨u,j,rfl⟩:=nE c 2 29;have hp:(1:Int)*2^h=(H2:Int):=(by rw[Int.one_mul,U,LK];rfl);refine .inl ⟨A _,aJ (Kv (m:=1) (k:=h) f rfl (aD j) o_ (by rw[hp];omega)) ⟨?_,bR⟩⟩;rw[hp];rfl
  ·obtain⟨F,f,A⟩:=oQ s;obtain⟨u,j,rfl⟩:=nE c 0 27;obtain⟨L,y,rfl⟩:=nE c 3 30;exact .inl ⟨A _,aJ (KE f (aD j) (aD y)) ⟨by rw[Q];rfl,bR⟩⟩
  ·obtain⟨F,f,A⟩:=oQ s;obtain⟨u,j,rfl⟩:=nE c 4 31;exact .inl ⟨A _,sD (.inl f) j ⟨rfl,bR⟩⟩
  ·obtain⟨f,x⟩:=t (d:=some 33) (p:= .move (.tmp 1)) s k_;obtain⟨u,j,rfl⟩:=nE c 5 32;exact first c1 5 32 x k_ j (λ_=>aJ (by rw[cj (.inl f),f1]) ⟨λ_=>rfl,bR⟩) λe=>⟨λl=>(by rw[e]at l;cases l),bR⟩
  ·obtain⟨f,x⟩:=t (d:=some 34) (p:= .slice 9 (.tmp 33) (some (.const (.i 4))) (some (.const (.i 8))) none) s k_;obtain⟨u,j,rfl⟩:=nE c 5 32;obtain⟨H,r,z⟩:=nE c 6 33;exact first c1 5 32 x k_ j (λe=>aJ (fA (m:=4) (n:=8) f ((aD r).trans (z e)) rfl rfl o_ o_).1 ⟨λ_=>rfl,bR⟩) λe=>⟨λl=>(by rw[e]at l;cases l),bR⟩
  ·obtain⟨f,x⟩:=t (d:=some 35) (p:= .fieldAddr 145 (.tmp 2) 1) s k_;obtain⟨u,j,rfl⟩:=nE c 5 32;exact first c1 5 32 x k_ j (λ_=>aJ (ey 1 d_ f Y) ⟨λ_=>rfl,bR⟩) λe=>⟨λl=>(by rw[e]at l;cases l),bR⟩
  ·obtain⟨f,x⟩:=t (d:=some 36) (p:= .load 9 (.tmp 35)) s k_;obtain⟨u,j,rfl⟩:=nE c 5 32;obtain⟨H,r,z⟩:=nE c 8 35;exact first c1 5 32 x k_ j (λe=>aJ (aP (v:= .s k.chains) bM f ((aD r).trans (z e)) ((aK B 1).trans rfl)).1 ⟨λ_=>rfl,bR⟩) λe=>⟨λl=>(by rw[e]at l;cases l),bR⟩
  ·obtain⟨f,x⟩:=t (d:=some 37) (p:= .binOp .neq 9 (.tmp 34) (.tmp 36) 9) s k_;obtain⟨u,j,rfl⟩:=nE c 5 32;obtain⟨H,r,z⟩:=nE c 7 34;obtain⟨L,y,I⟩:=nE c 9 36;exact first c1 5 32 x k_ j (λe=>aJ (xS f ((aD r).trans (z e)) ((aD y).trans (I e))) ⟨λ_=>by rw[P],bR⟩) λe=>⟨λl=>(by rw[e]at l;cases l),bR⟩
  ·obtain⟨F,f,A⟩:=oQ s;obtain⟨u,j,rfl⟩:=nE c 5 32;obtain⟨H,r,z⟩:=nE c 10 37;refine .inl ⟨A _,aJ (tR f (aD j)) ⟨?_,bR⟩⟩;cases e:c1 with
   |true=>rfl
   |false=>exact(aD r).trans (z e)
  ·obtain⟨F,f,A⟩:=oQ s;obtain⟨u,j,rfl⟩:=nE c 11 38;exact .inl ⟨A _,sD (.inl f) j ⟨rfl,bR⟩⟩
  ·obtain⟨f,x⟩:=t (d:=some 40) (p:= .move (.tmp 1)) s k_;obtain⟨u,j,rfl⟩:=nE c 12 39;exact first (c1||n1) 12 39 x k_ j (λ_=>aJ (by rw[cj (.inl f),f1]) ⟨λ_=>rfl,bR⟩) λe=>⟨λl=>(by rw[e]at l;cases l),bR⟩
  ·obtain⟨f,x⟩:=t (d:=some 41) (p:= .move (.tmp 6)) s k_;obtain⟨u,j,rfl⟩:=nE c 12 39;exact first (c1||n1) 12 39 x k_ j (λ_=>aJ (by rw[cj (.inl f),f6]) ⟨λ_=>rfl,bR⟩) λe=>⟨λl=>(by rw[e]at l;cases l),bR⟩
  ·obtain⟨f,x⟩:=t (d:=some 42) (p:= .move (.tmp 7)) s k_;obtain⟨u,j,rfl⟩:=nE c 12 39;exact first (c1||n1) 12 39 x k_ j (λ_=>aJ (by rw[cj (.inl f),f7]) ⟨λ_=>rfl,bR⟩) λe=>⟨λl=>(by rw[e]at l;cases l),bR⟩
  ·obtain⟨f,x⟩:=t (d:=some 43) (p:= .slice 9 (.tmp 40) (some (.tmp 41)) (some (.tmp 42)) none) s k_;obtain⟨u,j,rfl⟩:=nE c 12 39;obtain⟨H,r,z⟩:=nE c 13 40;obtain⟨L,y,I⟩:=nE c 14 41;obtain⟨u3,M,X⟩:=nE c 15 42;exact first (c1||n1) 12 39 x k_ j (λe=>aJ (fA (m:=T) (n:=T+4) f ((aD r).trans (z e)) ((aD y).trans (I e)) ((aD M).trans (X e)) o_ hb).1 ⟨λ_=>rfl,bR⟩) λe=>⟨λl=>(by rw[e]at l;cases l),bR⟩
  ·obtain⟨f,x⟩:=t (d:=some 44) (p:= .fieldAddr 145 (.tmp 2) 0) s k_;obtain⟨u,j,rfl⟩:=nE c 12 39;exact first (c1||n1) 12 39 x k_ j (λ_=>aJ (ey 0 d_ f Y) ⟨λ_=>rfl,bR⟩) λe=>⟨λl=>(by rw[e]at l;cases l),bR⟩
  ·obtain⟨f,x⟩:=t (d:=some 45) (p:= .load 9 (.tmp 44)) s k_;obtain⟨u,j,rfl⟩:=nE c 12 39;obtain⟨H,r,z⟩:=nE c 17 44;exact first (c1||n1) 12 39 x k_ j (λe=>aJ (aP (v:= .s k.tree) bM f ((aD r).trans (z e)) ((aK B 0).trans rfl)).1 ⟨λ_=>rfl,bR⟩) λe=>⟨λl=>(by rw[e]at l;cases l),bR⟩
  ·obtain⟨f,x⟩:=t (d:=some 46) (p:= .binOp .neq 9 (.tmp 43) (.tmp 45) 9) s k_;obtain⟨u,j,rfl⟩:=nE c 12 39;obtain⟨H,r,z⟩:=nE c 16 43;obtain⟨L,y,I⟩:=nE c 18 45;exact first (c1||n1) 12 39 x k_ j (λe=>aJ (xS f ((aD r).trans (z e)) ((aD y).trans (I e))) ⟨λ_=>by rw[O],bR⟩) λe=>⟨λl=>(by rw[e]at l;cases l),bR⟩
  ·obtain⟨F,f,A⟩:=oQ s;obtain⟨u,j,rfl⟩:=nE c 12 39;obtain⟨H,r,z⟩:=nE c 19 46;refine .inl ⟨A _,aJ (tR f (aD j)) ⟨?_,bR⟩⟩;show _=Value.bool ((c1||n1)||n2);cases e:(c1||n1)with
   |true=>rfl
   |false=>exact(aD r).trans (z e)
 ·obtain⟨u,j,y⟩:=V.come 20 47 rfl trivial;obtain rfl:=y;exact⟨rfl,V.old,V.base.more j⟩
 ·exact absurd (gA s).1 (by obtain⟨rfl,_⟩:=J;decide)
 ·exact next a w' J.2.1 J.2.2
end
def Q9(k:dk)(b:ByteArray)(T:Nat)(s:dk):Nat->Value->World->Prop
 |0,v,_=>v= .agg k.key
 |1,v,_=>v= .int .u64 (cP b 0 4)
 |2,v,_=>v= .int .i64 (cP b 0 4)
 |3,v,_=>v= .string b
 |4,v,_=>v= .string (b.extract 8 40)
 |5,v,_=>v= .string b
 |6,v,_=>v= .int .i64 T
 |7,v,_=>v= .string (b.extract 40 T)
 |8,v,_=>v= .string b
 |9,v,_=>v= .int .i64 ((T+4:Nat):Int)
 |10,v,_=>v= .string (b.extract (T+4) b.size)
 |_,v,_=>v= .agg s.cells
theorem Gf{k:dk}{b:ByteArray}{T:Nat}{s:dk}(m:Nat)(v:Value)(w w':World)(a:Q9 k b T s m v w):Q9 k b T s m v w':=by
 match m,a with
 |0,h|1,h|2,h|3,h|4,h|5,h|6,h|7,h|8,h|9,h|10,h|_+11,h=>exact h
section
variable{k s:dk}{b:ByteArray}{T:Nat}
theorem LD(hs:s=tI k n b)(U:T=40+32*n)(Y:T+4<=b.size)(V:0<=cP b 0 4/\cP b 0 4<9223372036854775808)(r:w.heap[N]?=some (.cells k.key 145))(q:w.heap[N+1]?=some (.cells gS 149))(g:aW [(1, .s b),(2, .pt N),(6, .i T),(7, .i ((T+4:Nat):Int)),(8, .int .u64 (cP b 0 4)),(4, .pt (N+1))] 61 [] a)
 (next:∀a w',Below (N+1) w w'->w'.heap[N+1]?=some (.cells s.cells 149)->aW [(5, .bool true),(4, .pt (N+1))] 61 [] a->Rn lT Goal ((base 98).atR a K) cs w'):
 Rn lT Goal ((base 98).atR a (.code (rD Tryz.f98 8)::K)) cs w:=by
 have C:=(gA q).1;have p:s.links=b.extract 40 T:=by rw[hs,U];rfl
 have y:s.path=b.extract (T+4) b.size:=by rw[hs,U];show b.extract (44+32*n) b.size=_;rw[show 40+32*n+4=44+32*n from o_]
 have x:s.salt=b.extract 8 40:=by rw[hs];rfl
 have J:s.q=cP b 0 4:=by rw[hs];rfl
 have t:s.key=k.key:=by rw[hs];rfl
 refine Rn.grows (fx:=[(1, .s b),(2, .pt N),(6, .i T),(7, .i ((T+4:Nat):Int)),(8, .int .u64 (cP b 0 4)),(4, .pt (N+1))]) (ds:=[49,50,51,52,53,54,55,56,57,58,59,60]) (N:=61) (df:=[]) (G:=Q9 k b T s) k_ k_ (λm v w w' X _=>Gf m v w w' X) (λm o a w' S e L j c=> ?_)
  (λm a w'=>(m=12/\Bw w w'/\aW [(60, .agg s.cells),(4, .pt (N+1))] 61 [] a)\/(m=13/\Below (N+1) w w'/\w'.heap[N+1]?=some (.cells s.cells 149)/\aW [(4, .pt (N+1))] 61 [] a)\/(m=14/\Below (N+1) w w'/\w'.heap[N+1]?=some (.cells s.cells 149)/\aW [(5, .bool true),(4, .pt (N+1))] 61 [] a))
  (λa w' O=> ?_) (λm o a w' R S e M D=> ?_) (λa w' M=> ?_) g.defers g.size (g.all s_)
 ·have P:=aD (j _ (mG (i:=0) rfl));have f2:=aD (j _ (mG (i:=1) rfl));have f6:=aD (j _ (mG (i:=2) rfl));have f7:=aD (j _ (mG (i:=3) rfl));have Z:=aD (j _ (mG (i:=4) rfl));have z:=(L.block N (gA r).1).trans r;have W:m<12:=S;rcases(o_:m=0\/m=1\/m=2\/m=3\/m=4\/m=5\/m=6\/m=7\/m=8\/m=9\/m=10\/m=11)with rfl|rfl|rfl|rfl|rfl|rfl|rfl|rfl|rfl|rfl|rfl|rfl
  ·have d:=oS e;exact aJ (ir (s:=k) d f2 z λ_ _=>rfl) ⟨rfl,bR⟩
  ·have d:=oS e;exact aJ (by rw[cj (.inl d),Z]) ⟨rfl,bR⟩
  ·have d:=oS e;obtain⟨u,l,rfl⟩:=nE c 1 50;exact aJ (Hz d (aD l) V) ⟨rfl,bR⟩
  ·have d:=oS e;exact aJ (by rw[cj (.inl d),P]) ⟨rfl,bR⟩
  ·have d:=oS e;obtain⟨u,l,rfl⟩:=nE c 3 52;exact aJ (fA (m:=8) (n:=40) d (aD l) rfl rfl o_ o_).1 ⟨rfl,bR⟩
  ·have d:=oS e;exact aJ (by rw[cj (.inl d),P]) ⟨rfl,bR⟩
  ·have d:=oS e;exact aJ (by rw[cj (.inl d),f6]) ⟨rfl,bR⟩
  ·have d:=oS e;obtain⟨u,l,rfl⟩:=nE c 5 54;obtain⟨Q,f,rfl⟩:=nE c 6 55;exact aJ (fA (m:=40) (n:=T) d (aD l) rfl (aD f) o_ o_).1 ⟨rfl,bR⟩
  ·have d:=oS e;exact aJ (by rw[cj (.inl d),P]) ⟨rfl,bR⟩
  ·have d:=oS e;exact aJ (by rw[cj (.inl d),f7]) ⟨rfl,bR⟩
  ·have d:=oS e;obtain⟨u,l,rfl⟩:=nE c 8 57;obtain⟨Q,f,rfl⟩:=nE c 9 58;exact aJ (pO (n:=T+4) d (aD l) (aD f) Y) ⟨rfl,bR⟩
  ·have d:=oS e;obtain⟨u0,I,rfl⟩:=nE c 0 49;obtain⟨u1,H,rfl⟩:=nE c 2 51;obtain⟨Q,f,rfl⟩:=nE c 4 53;obtain⟨u3,F,rfl⟩:=nE c 7 56;obtain⟨u4,E,rfl⟩:=nE c 10 59;exact aJ (NA (s:=s) d ((aD I).trans (by rw[t])) ((aD H).trans (by rw[J])) ((aD f).trans (by rw[x])) ((aD F).trans (by rw[p])) ((aD E).trans (by rw[y]))) ⟨rfl,bR⟩
 ·obtain⟨u,l,f⟩:=O.come 11 60 rfl trivial;obtain rfl:=f;exact .inl ⟨rfl,O.old,(O.base.more l).only ⟨rfl,rfl,trivial⟩⟩
 ·rcases M with⟨rfl,A,g⟩|⟨rfl,A,B,g⟩|⟨rfl,_⟩
  ·have B:=(A.block (N+1) C).trans q;refine Rn.does0 g (.store 149 (.tmp 4) (.tmp 60)) k_ s_ (λo e=>db (cells:=s.cells) e (g.G 4) (g.G 60) B Ej rfl (by simp[dk.cells,LN])) λa g=>D a _ (.inr (.inl ⟨rfl,(A.mono o_).trans (ei w' (N+1) _ (a36 _)),setRow_heap w' (N+1) _ _ _ _ B,g.only ⟨rfl,trivial⟩⟩))
  ·refine Rn.C g 5 (.bool true) λa g=>D a w' (.inr (.inr ⟨rfl,A,B,g⟩))
  ·exact absurd (gA e).1 d_
 ·rcases M with⟨h,_⟩|⟨h,_⟩|⟨_,A,B,g⟩
  ·exact absurd h d_
  ·exact absurd h d_
  ·exact next a w' A B g
end
theorem PH:Tryz.f98.body=some (.seq (rG Tryz.f98 0) (.seq (rG Tryz.f98 1) (.seq (rG Tryz.f98 2) (.seq (.seq (rG Tryz.f98 3) (.cond (.tmp 22) (.seq (rG Tryz.f98 4) .ret) .skip))
 (.seq (rG Tryz.f98 5) (.seq (.seq (rD Tryz.f98 6) (.cond (.tmp 47) (.seq (rG Tryz.f98 7) .ret) .skip)) (.seq (rD Tryz.f98 8) .ret))))))):=k_
def MX(k:dk)(h n:Nat)(b:ByteArray)(w0:World)(e:Ending)(w':World):Prop:=((kl k h n b/\e= .returned (.tuple #[.agg (tI k n b).cells, .bool true]))\/(¬kl k h n b/\e= .returned (.tuple #[.agg gS, .bool false])))/\Bw w0 w'
def JL(k:dk)(h n:Nat)(b:ByteArray)(w0:World)(cs:List Frame)(g:Goroutine)(w':World):Prop:=∃(a:Act) (K:List Item) (bk:Nat) (cells:Array Value) (tt:TypeId) (v:Value),g=gB {(base 98).atR a K with mode:= .returning} cs/\a.defers=[]/\a.tmps[4]?=some (.pk bk 0)/\w'.heap[bk]?=some (.cells cells tt)/\cells.size=12/\a.tmps[5]?=some v/\MX k h n b w0 (.returned (.tuple #[.agg cells,v])) w'
section
variable{kk:dk}{h:Nat}{b:ByteArray}{k:List Item}
theorem MQ(id d:Nat)(i:d<61/\d≠4)(f:¬kl kk h n b)(c:aW [(4, .pt (w0.heap.size+1))] 61 [] a)(j:w.heap[w0.heap.size+1]?=some (.cells gS 149))(e:Bw w0 w)(l:Ak (bX Tryz.f98 id).size=[0,1,2])
 (q:((bX Tryz.f98 id)[0]?).map (λo=>(o.dst,o.op,o.guard))=some (some d, .build 149 #[],none)) (p:((bX Tryz.f98 id)[1]?).map (λo=>(o.dst,o.op,o.guard))=some (none, .store 149 (.tmp 4) (.tmp d),none)) (m:((bX Tryz.f98 id)[2]?).map (λo=>(o.dst,o.op,o.guard))=some (some 5, .assign (.const (.bool false)),none)):
 Rn lT (JL kk h n b w0 cs) ((base 98).atR a (.code (.seq (rG Tryz.f98 id) .ret)::k)) cs w:=by
 refine Rn.p rfl (Rn.r l ?_);refine Rn.op c d (.build 149 #[]) i.1 q s_ (λo g=>Ho g) λa c=> ?_;have r:((d,Wa gS)::[(4, .pt (w0.heap.size+1))]:List (Nat×Value)).lookup 4=some (.pk (w0.heap.size+1) 0):=by simp[a51,show(4==d)=false from by simpa using LZ i.2]
 refine Rn.does0 c (.store 149 (.tmp 4) (.tmp d)) p s_ (λo g=>db (cells:=gS) g (c.get (d:=4) r) (c.get (d:=d) (by simp[a51])) j Ej rfl (by simp[gS,LN])) λa c=> ?_;refine Rn.asc c 5 (.bool false) d_ m λa c=> ?_;refine Rn.p rfl (Rn.ends rfl (.inr ⟨_,rfl⟩) (Rn.now ⟨a,_,w0.heap.size+1,gS,149, .bool false,rfl,c.defers,c.slot 4 _ ?_,setRow_heap w _ _ _ _ _ j,rfl,c.slot 5 _ (by simp[a51]), .inr ⟨f,rfl⟩,e.trans (ei _ _ _ o_)⟩));simp[a51,show(4==d)=false from by simpa using LZ i.2]
end
theorem HI(k:dk)(h n:Nat)(L:k.height=h)(A:h<=8)(U:k.count=n)(S:n<=1000)(b:ByteArray)(X:b.size<=1125899906842624)(w:World):Calls lT 98 #[.agg k.key, .s b] w (MX k h n b w):=by
 refine qz (t:=4) (u:=5) (ty:=149) (n:=12) Lf.func98 rfl Lf.underlying149 rfl Ej λO=> ?_;show Rn _ (JL k h n b w O) _ O w;rw[aV (N:=61) [.agg k.key, .s b] Lf.func98 PH rfl];have c:=aN [.agg k.key, .s b] 61 s_;refine Rn.gr ?_;refine Rn.z c 2 0 145 rfl λa c=> ?_;show Rn _ _ _ _ (w.alloc (.cells k.key 145));refine Rn.vv c (λo g=>Ig g) λa c=> ?_;rw[aQ]at c;have f:=(cN (w.alloc (.cells k.key 145)) (.cells gS 149) (b:=w.heap.size) (by rw[aQ];omega)).trans (bJ w _);have d:=bJ (w.alloc (.cells k.key 145)) (.cells gS 149);rw[aQ]at d;have i:Bw w ((w.alloc (.cells k.key 145)).alloc (.cells gS 149)):=aB (aZ w _) (by rw[aQ];omega) (aZ _ _);revert f d i;generalize (w.alloc (.cells k.key 145)).alloc (.cells gS 149)=J;intro f d i;have z:=(gA d).1
 iterate 2 refine Rn.uu c λa c=> ?_
 refine Rn.vv c (λo g=>(aP (v:= .i n) cp g (c.G 9) ((aK f 6).trans (by rw[←U];rfl))).1) λa c=> ?_;refine Rn.O c 11 (.binOp .mul 3 (.tmp 10) (.const (.i 32)) 3) (λo g=>(mS g (c.G 10) rfl o_).1) λa c=> ?_;refine Rn.vv c (λo g=>tX (m:=40) g rfl (c.G 11) o_) λa c=> ?_;rw[show(40:Int)+(n:Int)*32=((40+32*n:Nat):Int)from o_]at c
 iterate 3 refine Rn.uu c λa c=> ?_
 rw[show((40+32*n:Nat):Int)+4=((40+32*n+4:Nat):Int)from o_]at c;refine Rn.uu c λa c=> ?_
 iterate 2 refine Rn.uu c λa c=> ?_
 refine Rn.y c 17 7 rfl λa c=> ?_;refine Rn.vv c (λo g=>ey 4 d_ g (c.G 2)) λa c=> ?_;refine Rn.vv c (λo g=>(aP (v:= .i h) cp g (c.G 18) ((aK f 4).trans (by rw[←L];rfl))).1) λa c=> ?_;refine Rn.O c 20 (.binOp .mul 3 (.tmp 19) (.const (.i 32)) 3) (λo g=>(mS g (c.G 19) rfl o_).1) λa c=> ?_;refine Rn.vv c (λo g=>tX g (c.G 17) (c.G 20) o_) λa c=> ?_;refine Rn.vv c (λo g=>kG g (c.G 16) (c.G 21)) λa c=> ?_;refine Rn.p rfl (Rn.cond _ (c.G 22) ?_);by_cases x:b.size=44+32*n+32*h
 ·rw[show((b.size:Int) !=((40+32*n+4:Nat):Int)+(h:Int)*32)=false from by simp;omega];have M:=pY (b.extract 0 4).data.toList 4 (by simp;omega);have I:0<=cP b 0 4/\cP b 0 4<4294967296:=⟨M.1,by have:=M.2;rw[show(256:Int)^4=4294967296 from d_]at this;exact this⟩;refine Rn.uu c λa c=> ?_;refine Rn.vv c (λo g=>t6 (n:=4) g (c.G 24) rfl o_) λa c=> ?_;refine Rn.cl c Lf.func81 (R:=λv K=>v= .int .u64 (cP b 0 4)/\K=J) ((eO (b.extract 0 4) J (by rw[a52];omega)).mono λe K h=>⟨_,h.1,rfl,h.2⟩) λv W Q a c=> ?_;obtain⟨rfl,rfl⟩:=Q;refine Rn.uu c λa c=> ?_;refine Rn.p rfl (Rn.p rfl (Rn.p rfl ?_));have F:2^h<=256:=a56 (Nat.pow_le_pow_right d_ A) d_;refine OG (k:=k) (b:=b) (N:=w.heap.size) (H2:=2^h) (h:=h) (T:=40+32*n) rfl L A F o_ o_ rfl rfl rfl f (c.only ⟨rfl,rfl,rfl,rfl,rfl,rfl,trivial⟩) λa P r c=> ?_;have q:=bk r f;have j:=(r.block _ z).trans d;have l:Bw w P:=aB i i.size r;refine Rn.cond _ (c.G 47) ?_;by_cases p:kl k h n b
  ·have e:(decide (cP b 0 4≥((2^h:Nat):Int))||((b.extract 4 8).data.toList !=k.chains.data.toList)||((b.extract (40+32*n) (40+32*n+4)).data.toList !=k.tree.data.toList))=false:=by obtain⟨_,C,G,B⟩:=p;rw[show 44+32*n=40+32*n+4 from o_]at B;have H:¬cP b 0 4≥((2^h:Nat):Int):=(by rw[LK];exact a83.2 C);rw[decide_eq_false H,G,B];simp
   rw[e];refine Rn.p rfl (Rn.p rfl ?_);refine LD (k:=k) (s:=tI k n b) (n:=n) rfl rfl o_ ⟨I.1,o_⟩ q j (c.only ⟨rfl,rfl,rfl,rfl,rfl,rfl,trivial⟩) λa V E D c=> ?_;exact Rn.ends rfl (.inr ⟨_,rfl⟩) (Rn.now ⟨a,_,w.heap.size+1,(tI k n b).cells,149, .bool true,rfl,c.defers,c.slot 4 _ rfl,D,rfl,c.slot 5 _ rfl, .inl ⟨p,rfl⟩,l.trans (E.mono o_)⟩)
  ·have e:(decide (cP b 0 4≥((2^h:Nat):Int))||((b.extract 4 8).data.toList !=k.chains.data.toList)||((b.extract (40+32*n) (40+32*n+4)).data.toList !=k.tree.data.toList))=true:=by
    refine Classical.byContradiction λy=>p ?_;rw[Bool.not_eq_true,YO,YO,decide_eq_false_iff_not,bne_eq_false_iff_eq,bne_eq_false_iff_eq]at y;obtain⟨⟨C,G⟩,B⟩:=y;refine⟨x, ?_,G, ?_⟩
    ·rw[LK]at C;exact a83.1 C
    ·rw[show 44+32*n=40+32*n+4 from o_];exact B
   rw[e];exact MQ 7 48 d_ p (c.only ⟨rfl,trivial⟩) j l rfl k_ k_ k_
 ·rw[show((b.size:Int) !=((40+32*n+4:Nat):Int)+(h:Int)*32)=true from by simp;omega];exact MQ 4 23 d_ (λh=>x h.1) (c.only ⟨rfl,trivial⟩) d i rfl k_ k_ k_
def hK(key:ByteArray):Nat:=i3 (cP key 0 4)
def wK(key:ByteArray):Nat:=kD (cP key 4 8)
def nK(key:ByteArray):Nat:=nL (cP key 4 8)
def Mq(key:ByteArray):Nat:=na (cP key 4 8)
def pN(KS:List Int)(key msg sig:ByteArray):ByteArray:=vZ KS (tI (gP key) (nK key) sig) (hK key) (wK key) (Mq key) (nK key) (cP sig 0 4).toNat msg
def sV(KS:List Int)(key msg sig:ByteArray)(c:Int):Prop:=
 (¬i2 key/\c=9)\/(i2 key/\¬kl (gP key) (hK key) (nK key) sig/\c=10)\/(i2 key/\kl (gP key) (hK key) (nK key) sig/\(pN KS key msg sig).data.toList≠(key.extract 24 key.size).data.toList/\c=10)\/(i2 key/\kl (gP key) (hK key) (nK key) sig/\(pN KS key msg sig).data.toList=(key.extract 24 key.size).data.toList/\c=0)
theorem kinds(h:i2 key):(hK key=5\/hK key=2)/\((wK key=2/\nK key=133/\Mq key=6)\/(wK key=4/\nK key=67/\Mq key=4)\/(wK key=8/\nK key=34/\Mq key=0)):=by
 obtain⟨_,g,f⟩:=h;constructor
 ·unfold hK i3 at*;split
  ·exact .inl rfl
  ·split
   ·exact .inr rfl
   ·rename_i a b;simp[a,b]at g
 ·unfold wK nK Mq kD nL na at*;by_cases e:cP key 4 8=2
  ·rw[e];exact .inl d_
  ·by_cases d:cP key 4 8=3
   ·rw[d];exact .inr (.inl d_)
   ·by_cases c:cP key 4 8=4
    ·rw[c];exact .inr (.inr d_)
    ·simp[e,d,c]at f
theorem Oy(h:i2 key)(e:kl (gP key) (hK key) (nK key) sig):Rz (tI (gP key) (nK key) sig) (hK key) (wK key) (Mq key) (nK key) (cP sig 0 4).toNat:=by
 obtain⟨j,c⟩:=kinds h;obtain⟨g,_,_⟩:=h;obtain⟨d,f,_,_⟩:=e;have i:0<=cP sig 0 4:=(pY (sig.extract 0 4).data.toList 4 (by simp;omega)).1;have a:((cP sig 0 4).toNat:Int)=cP sig 0 4:=Int.toNat_of_nonneg i;exact
  {wid:=by rcases c with⟨h,_⟩|⟨h,_⟩|⟨h,_⟩<;>rw[h]<;>simp[Bh]
   width:=rfl
   shift:=rfl
   shift8:=o_
   count:=rfl
   one:=o_
   most:=by rcases c with⟨h,b,_⟩|⟨h,b,_⟩|⟨h,b,_⟩<;>rw[h,b]<;>decide
   height:=rfl
   low:=o_
   qq:=a.symm
   leaf:=by have:((cP sig 0 4).toNat:Int)<((2^hK key:Nat):Int):=(by rw[a,LK];exact f);exact Int.ofNat_lt.1 this
   id:=by show(key.extract 8 24).size<=1000;rw[a52];omega
   salt:=by show(sig.extract 8 40).size<=1000;rw[a52];omega
   links:=by show nK key*32<=(sig.extract 40 (40+32*nK key)).size;rw[a52];omega
   path:=by show(sig.extract (44+32*nK key) sig.size).size=32*hK key;rw[a52];omega}
def Sr(s:dk)(msg root:ByteArray)(b7:Nat)(rt:ByteArray)(bad ne:Bool):Nat->Value->World->Prop
 |0,v,_=>v= .bool (!bad)
 |1,v,_=>v= .bool bad
 |2,v,_=>v= .bool bad
 |3,v,_=>bad=false->v= .agg s.cells
 |4,v,_=>bad=false->v= .string msg
 |5,v,_=>bad=false->v= .string rt
 |6,v,_=>bad=false->v= .pk b7 3
 |7,v,_=>bad=false->v= .string root
 |8,v,_=>bad=false->v= .bool ne
 |_,v,_=>v= .bool (bad||ne)
theorem IP{s:dk}{root:ByteArray}{b7:Nat}{rt:ByteArray}{bad ne:Bool}(m:Nat)(v:Value)(w w':World)(a:Sr s msg root b7 rt bad ne m v w):Sr s msg root b7 rt bad ne m v w':=by
 match m,a with
 |0,h|1,h|2,h|3,h|4,h|5,h|6,h|7,h|8,h|_+9,h=>exact h
section
variable{s:dk}{rt:ByteArray}{k:dk}{bad ne:Bool}
theorem OI(hC:bad=false->∀w',Bw w w'->Calls lT 99 #[.agg s.cells, .s msg] w' λe D=>e= .returned (.s rt)/\Bw w' D)(H:ne=(rt.data.toList !=k.root.data.toList))(V:w.heap[b7]?=some (.cells k.key 145))(U:bad=false->w.heap[b9]?=some (.cells s.cells 149))
 (J:aW [(1, .s msg),(7, .pt b7),(8, .bool (!bad)),(9, .pt b9)] 33 [] a)
 (next:∀a w',Bw w w'->aW [(32, .bool (bad||ne))] 33 [] a->Rn lT Goal ((base 91).atR a K) cs w'):
 Rn lT Goal ((base 91).atR a (.code (rD Tryz.f91 5)::K)) cs w:=by
 refine Rn.growsG (fx:=[(1, .s msg),(7, .pt b7),(8, .bool (!bad)),(9, .pt b9)]) (ds:=[23,24,25,26,27,28,29,30,31,32]) (N:=33) (df:=[]) (G:=Sr s msg k.root b7 rt bad ne) k_ k_ (λm v w w' hg _=>IP m v w w' hg) (λm o a w' T q B X z b=> ?_)
  (λm a w'=>m=10/\Bw w w'/\aW [(32, .bool (bad||ne))] 33 [] a)
  (λa w' I=> ?_) (λm o a w' Q T q E a0=> ?_) (λa w' E=> ?_) J.defers J.size (J.all s_)
 ·have f1:=aD (z _ (mG (i:=0) rfl));have f7:=aD (z _ (mG (i:=1) rfl));have f8:=aD (z _ (mG (i:=2) rfl));have f9:=aD (z _ (mG (i:=3) rfl));have L:=(B.block b7 (gA V).1).trans V;have first:∀{o:Oper} {R:Value->World->Prop},o.guard=some (2,false)->a.tmps[25]?=some (.bool bad)->(bad=false->qJ lT a o w' R)->(bad=true->R undef w')->EO lT (bX Tryz.f91 5) a o w' R:=λ{o R} A h3 h4 h5=>by
   have S:=nY (ops:=bX Tryz.f91 5) (tmps:=a.tmps) (d:=25) A k_ h3;cases bad with
   |false=>exact .inl ⟨S,h4 rfl⟩
   |true=>exact .inr ⟨S,h5 rfl⟩
  have t:∀{m:Nat} {o:Oper} {d:Option Tmp} {p:Op} {g:Nat},(bX Tryz.f91 5)[m]?=some o->((bX Tryz.f91 5)[m]?).map (λo=>(o.dst,o.op,o.guard))=some (d,p,some (g,false))->o.op=p/\o.guard=some (g,false):=λ{m o d p g} q r=>by rw[q]at r;simp only[a37,Option.some.injEq,Prod.mk.injEq]at r;exact⟨r.2.1,r.2.2⟩
  have Z:m<10:=T;rcases(o_:m=0\/m=1\/m=2\/m=3\/m=4\/m=5\/m=6\/m=7\/m=8\/m=9)with rfl|rfl|rfl|rfl|rfl|rfl|rfl|rfl|rfl|rfl
  ·obtain⟨O,j,C⟩:=oQ q;exact .inl ⟨C _,aJ (by rw[cj (.inl j),f8]) ⟨rfl,bR⟩⟩
  ·obtain⟨O,j,C⟩:=oQ q;obtain⟨u,f,rfl⟩:=b 0 23 rfl k_;exact .inl ⟨C _,aJ (tl j (aD f)).1 ⟨by show Value.bool (!!bad)=Value.bool bad;rw[Bool.not_not],bR⟩⟩
  ·obtain⟨O,j,C⟩:=oQ q;obtain⟨u,f,rfl⟩:=b 1 24 rfl k_;exact .inl ⟨C _,sD (.inl j) f ⟨rfl,bR⟩⟩
  ·obtain⟨j,y⟩:=t (d:=some 26) (p:= .load 149 (.tmp 9)) q k_;obtain⟨u,f,rfl⟩:=b 2 25 rfl k_;exact first y f (λc=>aJ (kZ (ex:=#[]) j f9 (by rw[Array.append_empty];exact(B.block b9 (gA (U c)).1).trans (U c))).1 ⟨λ_=>rfl,bR⟩) λc=>⟨λl=>(by rw[c]at l;cases l),bR⟩
  ·obtain⟨j,y⟩:=t (d:=some 27) (p:= .move (.tmp 1)) q k_;obtain⟨u,f,rfl⟩:=b 2 25 rfl k_;exact first y f (λ_=>aJ (by rw[cj (.inl j),f1]) ⟨λ_=>rfl,bR⟩) λc=>⟨λl=>(by rw[c]at l;cases l),bR⟩
  ·obtain⟨j,y⟩:=t (d:=some 28) (p:= .call {callee:= .value (.func 99),args:=#[.tmp 26, .tmp 27],argTypes:=#[149,9]}) q k_;obtain⟨u,f,rfl⟩:=b 2 25 rfl k_;obtain⟨F,n,A⟩:=b 3 26 rfl k_;obtain⟨W,x,M⟩:=b 4 27 rfl k_;refine first y f (λc=> ?_) λc=>⟨λl=>(by rw[c]at l;cases l),bR⟩
   have Y:=bU (w:=w') j (show(#[Ft 26, .tmp 27]:Array Operand).map a.eval=#[.agg s.cells, .s msg]from by simp[aD n,aD x,A c,M c]) (rI (P:=aI true tP) Lf.func99 _);exact .inr ⟨_,_,Y.1,(hC c w' B).mono λe D h=>⟨_,h.1,λ_=>rfl,h.2⟩⟩
  ·obtain⟨j,y⟩:=t (d:=some 29) (p:= .fieldAddr 145 (.tmp 7) 3) q k_;obtain⟨u,f,rfl⟩:=b 2 25 rfl k_;exact first y f (λ_=>aJ (ey 3 d_ j f7) ⟨λ_=>rfl,bR⟩) λc=>⟨λl=>(by rw[c]at l;cases l),bR⟩
  ·obtain⟨j,y⟩:=t (d:=some 30) (p:= .load 9 (.tmp 29)) q k_;obtain⟨u,f,rfl⟩:=b 2 25 rfl k_;obtain⟨F,n,A⟩:=b 6 29 rfl k_;exact first y f (λc=>aJ (aP (v:= .s k.root) bM j ((aD n).trans (A c)) ((aK L 3).trans rfl)).1 ⟨λ_=>rfl,bR⟩) λc=>⟨λl=>(by rw[c]at l;cases l),bR⟩
  ·obtain⟨j,y⟩:=t (d:=some 31) (p:= .binOp .neq 9 (.tmp 28) (.tmp 30) 9) q k_;obtain⟨u,f,rfl⟩:=b 2 25 rfl k_;obtain⟨F,n,A⟩:=b 5 28 rfl k_;obtain⟨W,x,M⟩:=b 7 30 rfl k_;exact first y f (λc=>aJ (xS j ((aD n).trans (A c)) ((aD x).trans (M c))) ⟨λ_=>by rw[H],bR⟩) λc=>⟨λl=>(by rw[c]at l;cases l),bR⟩
  ·obtain⟨O,j,C⟩:=oQ q;obtain⟨u,f,rfl⟩:=b 2 25 rfl k_;obtain⟨F,n,A⟩:=b 8 31 rfl k_;refine .inl ⟨C _,aJ (tR j (aD f)) ⟨?_,bR⟩⟩;cases c:bad with
   |true=>rfl
   |false=>exact(aD n).trans (A c)
 ·obtain⟨u,f,x⟩:=I.come 9 32 rfl trivial;obtain rfl:=x;exact⟨rfl,I.old,(I.base.more f).only ⟨rfl,trivial⟩⟩
 ·exact absurd (gA q).1 (by obtain⟨rfl,_⟩:=E;decide)
 ·exact next a w' E.2.1 E.2.2
end
theorem PN:Tryz.f91.body=some (.seq (rG Tryz.f91 0) (.seq (rG Tryz.f91 1) (.seq (.seq (rG Tryz.f91 2) (.cond (.tmp 16) (.seq (rG Tryz.f91 3) .ret) .skip))
 (.seq (rG Tryz.f91 4) (.seq (.seq (rD Tryz.f91 5) (.cond (.tmp 32) (.seq (rG Tryz.f91 6) .ret) .skip)) (.seq (rG Tryz.f91 7) .ret)))))):=k_
theorem vf(KS:List Int)(a2:KS.length=64)(key msg sig:ByteArray)(hm:msg.size<=281474976706560)(hs:sig.size<=1125899906842624)(w:World)(Q:w.rangeAt 0 0 (aH KS))(h0:0<w.heap.size):
 Calls lT 91 #[.s key, .s msg, .s sig] w λe w'=>∃c,e= .returned (.i c)/\sV KS key msg sig c/\Bw w w':=by
 refine aT (t:=6) Lf.func91 rfl λcs=> ?_;rw[aV (N:=33) [.s key, .s msg, .s sig] Lf.func91 PN rfl];have b:=aN [.s key, .s msg, .s sig] 33 s_
 iterate 2 refine Rn.uu b λa b=> ?_
 refine Rn.calls (f:=97) (xs:=#[.tmp 11]) (ats:=#[9]) (args:=#[.s key]) b 12 d_ k_ (by simp[b.G 11]) Lf.func97 k_ k_
  (R:=λv w'=>((i2 key/\v= .tuple #[.agg (gP key).key, .bool true])\/(¬i2 key/\v= .tuple #[.agg gT, .bool false]))/\Bw w w')
  ((zC key w).mono λe w' h=>by
    rcases h with⟨⟨l,j⟩|⟨l,j⟩,U⟩
    ·exact⟨_,j, .inl ⟨l,rfl⟩,U⟩
    ·exact⟨_,j, .inr ⟨l,rfl⟩,U⟩) λv J z a b=> ?_
 obtain⟨z,D⟩:=z;obtain⟨cells,W,d,y⟩:∃cells W,((¬i2 key/\cells=gT/\W=false)\/(i2 key/\cells=(gP key).key/\W=true))/\v= .tuple #[.agg cells, .bool W]:=by
  rcases z with⟨l,j⟩|⟨l,j⟩
  ·exact⟨_,_, .inr ⟨l,rfl,rfl⟩,j⟩
  ·exact⟨_,_, .inl ⟨l,rfl,rfl⟩,j⟩
 subst y;have n:cells.size=8/\cells.all (·.oneCell')=true:=by
  rcases d with⟨_,rfl,_⟩|⟨_,rfl,_⟩
  ·exact⟨rfl,by simp[gT,LN]⟩
  ·exact⟨rfl,by simp[dk.key,LN]⟩
 iterate 3 refine Rn.uu b λa b=> ?_
 refine Rn.al b (λo x=>Ck x) λZ a O h7 _ b=> ?_;refine Rn.nn b (λo x=>db (cells:=cells) x (b.G 7) (b.G 13) h7 (by rw[n.1];exact Ac) (by rw[n.1];rfl) n.2) λa b=> ?_;have u:=setRow_heap Z J.heap.size gT cells 145 (0,0) h7;have r:Bw w (Z.setRow J.heap.size cells):=(aB D D.size O).trans (ei _ _ _ D.size);have q:=(gA u).1;revert u r q;generalize Z.setRow J.heap.size cells=Y;intro u r q;clear h7 O
 iterate 3 refine Rn.uu b λa b=> ?_
 refine Rn.p rfl (Rn.cond _ (b.G 16) ?_);rcases d with⟨L,rfl,rfl⟩|⟨p,rfl,rfl⟩
 ·refine Rn.uu b λa b=> ?_;exact Rn.fi b ⟨9,rfl, .inl ⟨L,rfl⟩,r⟩
 obtain⟨hh,hk⟩:=kinds p;refine Rn.vv b (λo x=>ir (s:=gP key) x (b.G 7) u λ_ _=>rfl) λa b=> ?_;refine Rn.uu b λa b=> ?_;refine Rn.calls (f:=98) (xs:=#[.tmp 18, .tmp 19]) (ats:=#[145,9]) (args:=#[.agg (gP key).key, .s sig]) b 20 d_ k_ (by simp[b.G 18,b.G 19]) Lf.func98 k_ k_
  (R:=λv w'=>((kl (gP key) (hK key) (nK key) sig/\v= .tuple #[.agg (tI (gP key) (nK key) sig).cells, .bool true])\/(¬kl (gP key) (hK key) (nK key) sig/\v= .tuple #[.agg gS, .bool false]))/\Bw Y w')
  ((HI (gP key) (hK key) (nK key) rfl o_ rfl o_ sig hs Y).mono λe w' h=>by
    rcases h with⟨⟨l,j⟩|⟨l,j⟩,U⟩
    ·exact⟨_,j, .inl ⟨l,rfl⟩,U⟩
    ·exact⟨_,j, .inr ⟨l,rfl⟩,U⟩) λv I z a b=> ?_
 obtain⟨z,M⟩:=z;obtain⟨cells,bad,d,y⟩:∃cells bad,((kl (gP key) (hK key) (nK key) sig/\cells=(tI (gP key) (nK key) sig).cells/\bad=false)\/(¬kl (gP key) (hK key) (nK key) sig/\cells=gS/\bad=true))/\v= .tuple #[.agg cells, .bool (!bad)]:=by
  rcases z with⟨l,j⟩|⟨l,j⟩
  ·exact⟨_,false, .inl ⟨l,rfl,rfl⟩,j⟩
  ·exact⟨_,true, .inr ⟨l,rfl,rfl⟩,j⟩
 subst y;have i:cells.size=12/\cells.all (·.oneCell')=true:=by
  rcases d with⟨_,rfl,_⟩|⟨_,rfl,_⟩
  ·exact⟨rfl,by simp[dk.cells,LN]⟩
  ·exact⟨rfl,by simp[gS,LN]⟩
 have T:=(M.block _ q).trans u;have F:Bw w I:=aB r r.size M
 iterate 3 refine Rn.uu b λa b=> ?_
 refine Rn.al b (λo x=>Ig x) λV a C h9 _ b=> ?_;have S:=bk C T;have a0:=(gA T).1;refine Rn.nn b (λo x=>db (cells:=cells) x (b.G 9) (b.G 21) h9 (by rw[i.1];exact Ej) (by rw[i.1];rfl) i.2) λa b=> ?_;have G:=setRow_heap V I.heap.size gS cells 149 (0,0) h9;have H:=(setRow_other V I.heap.size J.heap.size cells o_).trans S;have g:Bw w (V.setRow I.heap.size cells):=(aB F F.size C).trans (ei _ _ _ F.size);revert G H g;generalize V.setRow I.heap.size cells=w6;intro G H g;clear h9 C S;refine Rn.uu b λa b=> ?_;refine Rn.p rfl (Rn.p rfl (Rn.p rfl ?_));refine OI (s:=tI (gP key) (nK key) sig) (k:=gP key) (rt:=pN KS key msg sig) (bad:=bad) (b9:=I.heap.size) (b7:=J.heap.size) (msg:=msg) (λK w' P=> ?_) rfl H (λK=> ?_) (b.only ⟨rfl,rfl,rfl,rfl,trivial⟩) λa w7 a1 b=> ?_
 ·rcases d with⟨m,_,_⟩|⟨_,_,B⟩
  ·exact AJ KS a2 _ _ _ _ _ _ (Oy p m) msg hm w' (SA h0 (aB g g.size P) Q) (a38 h0 (aB g g.size P).size)
  ·rw[B]at K;cases K
 ·rcases d with⟨_,hc,_⟩|⟨_,_,B⟩
  ·rw[G,hc]
  ·rw[B]at K;cases K
 have E:Bw w w7:=aB g g.size a1;refine Rn.cond _ (b.G 32) ?_;rcases d with⟨m,_,rfl⟩|⟨A,_,rfl⟩
 ·by_cases X:(pN KS key msg sig).data.toList=(key.extract 24 key.size).data.toList
  ·rw[show(false||((pN KS key msg sig).data.toList !=(gP key).root.data.toList))=false from by rw[XA,bne_eq_false_iff_eq];exact X];refine Rn.uu b λa b=> ?_;exact Rn.fi b ⟨0,rfl, .inr (.inr (.inr ⟨p,m,X,rfl⟩)),E⟩
  ·rw[show(false||((pN KS key msg sig).data.toList !=(gP key).root.data.toList))=true from by rw[XA,bne_iff_ne];exact X];refine Rn.uu b λa b=> ?_;exact Rn.fi b ⟨10,rfl, .inr (.inr (.inl ⟨p,m,X,rfl⟩)),E⟩
 ·refine Rn.uu b λa b=> ?_;exact Rn.fi b ⟨10,rfl, .inr (.inl ⟨p,A,rfl⟩),E⟩
end L1
section
open Go.RowKit Go.Lib Go.Shelf
@[simp] theorem Lf.func89:(aI q tP).funcs[89]?=some Tryz.f89:=aM Tryz.func89 d_ rfl rfl k_
@[simp] theorem Lf.func95:(aI q tP).funcs[95]?=some Tryz.f95:=aM Tryz.func95 d_ rfl rfl k_
@[simp] theorem Lf.call95(args:Array Value)(w:World):(callFunc 95 args).run (aI q tP) w= .ok (.enter 95 args) w:=dI Lf.func95 k_ rfl args w
@[simp] theorem Lf.func100:(aI q tP).funcs[100]?=some Tryz.f100:=aM Tryz.func100 d_ rfl rfl k_
@[simp] theorem Lf.call100(args:Array Value)(w:World):(callFunc 100 args).run (aI q tP) w= .ok (.enter 100 args) w:=dI Lf.func100 k_ rfl args w
@[simp] theorem Lf.func75:(aI q tP).funcs[75]?=some Tryz.f75:=aM Tryz.func75 d_ rfl rfl k_
@[simp] theorem Lf.func90:(aI q tP).funcs[90]?=some Tryz.f90:=aM Tryz.func90 d_ rfl rfl k_
@[simp] theorem Lf.func96:(aI q tP).funcs[96]?=some Tryz.f96:=aM Tryz.func96 d_ rfl rfl k_
@[simp] theorem Lf.func101:(aI q tP).funcs[101]?=some Tryz.f101:=aM Tryz.func101 d_ rfl rfl k_
theorem Lf.underlying133:type_of%((bY (q:=q) (P:=tP) 133).trans Tryz.underlying133):=(bY 133).trans Tryz.underlying133
theorem Lf.laysM316:Go.Proofs.LaysM.n316 (aI q tP) Tryz.laysM316_ren:=by
 cases q<;>constructor
 all_goals first|(constructor<;>first|(rw[ol];kernel_rfl)|kernel_rfl|(intro w;kernel_rfl);done)|(rw[ol];kernel_rfl)|kernel_rfl|(intro w;kernel_rfl)
theorem Lf.stringslite_Clone(s:ByteArray)(w:World)(a:s.size<=281474976710656):
 Calls (aI q tP) 100 #[.s s] w λe w'=>e= .returned (.s s)/\Bw w w':=Any.stringslite_Clone Lf.laysM316 s w a
end
section
open Go.RowKit
theorem Lf.func10:(aI q tP).funcs[10]?=some Tryz.f10:=aM Tryz.func10 d_ rfl rfl k_
theorem Lf.func11:(aI q tP).funcs[11]?=some Tryz.f11:=aM Tryz.func11 d_ rfl rfl k_
theorem Lf.func12:(aI q tP).funcs[12]?=some Tryz.f12:=aM Tryz.func12 d_ rfl rfl k_
theorem Lf.func14:(aI q tP).funcs[14]?=some Tryz.f14:=aM Tryz.func14 d_ rfl rfl k_
theorem Lf.func15:(aI q tP).funcs[15]?=some Tryz.f15:=aM Tryz.func15 d_ rfl rfl k_
theorem Lf.func23:(aI q tP).funcs[23]?=some Tryz.f23:=aM Tryz.func23 d_ rfl rfl k_
theorem Lf.func24:(aI q tP).funcs[24]?=some Tryz.f24:=aM Tryz.func24 d_ rfl rfl k_
theorem Lf.func25:(aI q tP).funcs[25]?=some Tryz.f25:=aM Tryz.func25 d_ rfl rfl k_
theorem Lf.func26:(aI q tP).funcs[26]?=some Tryz.f26:=aM Tryz.func26 d_ rfl rfl k_
theorem Lf.func27:(aI q tP).funcs[27]?=some Tryz.f27:=aM Tryz.func27 d_ rfl rfl k_
theorem Lf.func37:(aI q tP).funcs[37]?=some Tryz.f37:=aM Tryz.func37 d_ rfl rfl k_
theorem Lf.func54:(aI q tP).funcs[54]?=some Tryz.f54:=aM Tryz.func54 d_ rfl rfl k_
theorem Lf.func16:(aI q tP).funcs[16]?=some Tryz.f16:=aM Tryz.func16 d_ rfl rfl k_
theorem Lf.func29:(aI q tP).funcs[29]?=some Tryz.f29:=aM Tryz.func29 d_ rfl rfl k_
theorem Lf.func41:(aI q tP).funcs[41]?=some Tryz.f41:=aM Tryz.func41 d_ rfl rfl k_
theorem Lf.func30:(aI q tP).funcs[30]?=some Tryz.f30:=aM Tryz.func30 d_ rfl rfl k_
theorem Lf.func42:(aI q tP).funcs[42]?=some Tryz.f42:=aM Tryz.func42 d_ rfl rfl k_
theorem Lf.func43:(aI q tP).funcs[43]?=some Tryz.f43:=aM Tryz.func43 d_ rfl rfl k_
theorem Lf.func58:(aI q tP).funcs[58]?=some Tryz.f58:=aM Tryz.func58 d_ rfl rfl k_
theorem Lf.func59:(aI q tP).funcs[59]?=some Tryz.f59:=aM Tryz.func59 d_ rfl rfl k_
theorem Lf.func73:(aI q tP).funcs[73]?=some Tryz.f73:=aM Tryz.func73 d_ rfl rfl k_
theorem Lf.func74:(aI q tP).funcs[74]?=some Tryz.f74:=aM Tryz.func74 d_ rfl rfl k_
theorem Lf.func76:(aI q tP).funcs[76]?=some Tryz.f76:=aM Tryz.func76 d_ rfl rfl k_
theorem Lf.func77:(aI q tP).funcs[77]?=some Tryz.f77:=aM Tryz.func77 d_ rfl rfl k_
theorem Lf.func88:(aI q tP).funcs[88]?=some Tryz.f88:=aM Tryz.func88 d_ rfl rfl k_
theorem Lf.func92:(aI q tP).funcs[92]?=some Tryz.f92:=aM Tryz.func92 d_ rfl rfl k_
theorem Lf.func36:(aI q tP).funcs[36]?=some Tryz.f36:=aM Tryz.func36 d_ rfl rfl k_
theorem Lf.func46:(aI q tP).funcs[46]?=some Tryz.f46:=aM Tryz.func46 d_ rfl rfl k_
theorem Lf.func47:(aI q tP).funcs[47]?=some Tryz.f47:=aM Tryz.func47 d_ rfl rfl k_
theorem Lf.func48:(aI q tP).funcs[48]?=some Tryz.f48:=aM Tryz.func48 d_ rfl rfl k_
theorem Lf.func49:(aI q tP).funcs[49]?=some Tryz.f49:=aM Tryz.func49 d_ rfl rfl k_
theorem Lf.func50:(aI q tP).funcs[50]?=some Tryz.f50:=aM Tryz.func50 d_ rfl rfl k_
theorem Lf.func61:(aI q tP).funcs[61]?=some Tryz.f61:=aM Tryz.func61 d_ rfl rfl k_
theorem Lf.func51:(aI q tP).funcs[51]?=some Tryz.f51:=aM Tryz.func51 d_ rfl rfl k_
theorem Lf.func52:(aI q tP).funcs[52]?=some Tryz.f52:=aM Tryz.func52 d_ rfl rfl k_
theorem Lf.func53:(aI q tP).funcs[53]?=some Tryz.f53:=aM Tryz.func53 d_ rfl rfl k_
theorem Lf.func62:(aI q tP).funcs[62]?=some Tryz.f62:=aM Tryz.func62 d_ rfl rfl k_
theorem Lf.func60:(aI q tP).funcs[60]?=some Tryz.f60:=aM Tryz.func60 d_ rfl rfl k_
theorem Lf.func79:(aI q tP).funcs[79]?=some Tryz.f79:=aM Tryz.func79 d_ rfl rfl k_
end
section
open Go.Conc Go.RowKit
theorem eU{R:Ending->World->Prop}{t:Tmp}{ty:TypeId}{d:TypeDesc}(r:P.funcs[f]?=some fn)(c:fn.results=#[.cell t ty])(l:P.underlying ty=some d)(s:d.isRow=true)(q:(P.info? ty).map (·.size)=some n)
 (h:∀cs,Rn P (λg w'=>∃(a:Act) (k:List Item) (b:Nat) (cells:Array Value) (e:TypeId),g=gB {(base f).atR a k with mode:= .returning} cs/\a.defers=[]/\a.tmps[t]?=some (.pk b 0)/\w'.heap[b]?=some (.cells cells e)/\cells.size=n/\R (.returned (.agg cells)) w') (a49 P f args .normal) cs w):Calls P f args w R:=λcs=>by
 obtain⟨C,w',B,a,k,b,cells,e,rfl,A,z,y,v,u⟩:=h cs;refine⟨.returned (.agg cells),w',{(base f).atR a k with mode:= .returning},u,Wu B,rfl,rfl,A,rfl,fn,r, ?_⟩;have o:a.tmps[t]?.getD undef= .pk b 0:=by rw[z];rfl
 have m:w'.rangeAt b 0 cells.toList:=λj x i=>by
  rw[a46];have:w'.cell? ⟨b,j,none⟩=cells[j]?:=by simp[AB,y]
  rw[this,←i,Array.getElem?_toList]
 have p:=run_loadVar_mid (P:=P) w' b 0 ty cells.toList d m l s (by rw[q];simp[v]);show(results fn a.tmps).run P w'=_;simp[results,c,o,asAddr,p]
end
namespace L1
open Go.Conc Go.RowKit
theorem Dx{d:Int}(h:sV KS key msg sig c)(j:sV KS key msg sig d):c=d:=by rcases h with⟨i,rfl⟩|⟨i,b,rfl⟩|⟨i,b,g,rfl⟩|⟨i,b,g,rfl⟩<;>rcases j with⟨f,rfl⟩|⟨f,a,rfl⟩|⟨f,a,e,rfl⟩|⟨f,a,e,rfl⟩<;>first|rfl|exact absurd ‹i2 key› ‹¬i2 key›|exact absurd b a|exact absurd a b|exact absurd g e|exact absurd e g
section
variable{y:Operand}
theorem xR(b:o.op= .binOp .quo 3 x y u)(f:ev x= .i m)(d:ev y= .i n)(i:0<n)(j:m<9223372036854775808):(execOp ev o).run lT w= .ok (.value (.i ((m/n:Nat):Int))) w:=by
 obtain⟨q,a⟩:∃q,q=m/n:=⟨_,rfl⟩;have g:q<=m:=by rw[a];exact Nat.div_le_self _ _
 have e:A8.wrap (q:Int)=(q:Int):=by rw[a5_];omega
 have h:(m:Int).tdiv (n:Int)=(q:Int):=by rw[Int.tdiv_eq_ediv_of_nonneg o_,a,Vw]
 have c:¬n=0:=o_
 rw[←a];simp[execOp,b,f,d,go_sem,h,e,c]
theorem xQ(a:o.op= .binOp .rem 3 x y u)(d:ev x= .i m)(c:ev y= .i n)(f:0<n):(execOp ev o).run lT w= .ok (.value (.i ((m%n:Nat):Int))) w:=by
 have e:(m:Int).tmod (n:Int)=((m%n:Nat):Int):=by rw[VR o_,Ym]
 have b:¬n=0:=o_
 simp[execOp,a,d,c,go_sem,e,b]
theorem t7{m n:Int}(a:o.op= .binOp .eql t x y u)(d:t=34)(c:ev x= .i m)(b:ev y= .i n):(execOp ev o).run lT w= .ok (.value (.bool (m==n))) w:=by subst d;simp[execOp,a,c,b,go_sem]
theorem RG{g:Addr}{c t:Nat}(a:o.op= .call {callee:= .builtin .len,args:=#[.tmp t],argTypes:=#[62]})(b:ev (.tmp t)= .slice (some g) l c):(execOp ev o).run lT w= .ok (.value (.i l)) w:=by
 have d:lT.underlying 62=some (.slice 5):=k_
 simp[execOp,a,resolve,b,invoke,builtin,Pr,run_underlying d,goInt]
theorem Nz(a:o.op= .convert 9 62 x)(b:ev x= .s s):(execOp ev o).run lT w= .ok (.value (.sk w.heap.size s.size (grownCap w s.size 0 5))) (w.drew.alloc (.cells (bytesRow s (grownCap w s.size 0 5)) 5 ((bytesRow s (grownCap w s.size 0 5)).size,(bytesRow s (grownCap w s.size 0 5)).size+1))):=by
 have h:=run_bytes_of_string (P:=lT) w 9 62 5 s k_ k_ k_;have e:execOp ev o=(do pure (.value (←convert 9 62 (.s s)))):=by simp only[execOp,a,b]
 rw[e];simp[h]
theorem xN{g cap:Nat}{l:List UInt8}(a:o.op= .convert 62 9 x)(c:ev x= .sk g l.length cap)(d:∀j (b:j<l.length),w.cell? ⟨g,j,none⟩=some (.int .u8 (l[j].toNat:Int))):(execOp ev o).run lT w= .ok (.value (.string ⟨l.toArray⟩)) w:=by
 have h:=run_convert_bytes_back (P:=lT) w 62 9 5 ⟨g,0,none⟩ cap l k_ k_ k_ (λj b=>by rw[CH,a46];exact d j b);have e:execOp ev o=(do pure (.value (←convert 62 9 (.sk g l.length cap)))):=by simp only[execOp,a,c]
 rw[e];simp[h]
theorem tW{m:Int}(a:o.op= .convert 3 5 x)(b:ev x= .i m):(execOp ev o).run lT w= .ok (.value (.int .u8 (Yv.wrap m))) w:=by
 have d:lT.underlying 5=some (.int .u8):=k_
 have c:lT.underlying 3=some (.int .i64):=k_
 simp[execOp,a,b,go_sem,d,c]
theorem od{m n:Int}(a:o.op= .binOp .neq t x y u)(d:t=34)(c:ev x= .i m)(b:ev y= .i n):(execOp ev o).run lT w= .ok (.value (.bool (m !=n))) w:=by subst d;simp[execOp,a,c,b,go_sem]
theorem nk{t:ByteArray}(a:o.op= .slice 9 x none (some y) none)(c:ev x= .s t)(b:ev y= .i n)(e:n<=t.size):(execOp ev o).run lT w= .ok (.value (.s (t.extract 0 n))) w:=by
 have d:lT.underlying 9=some .string:=k_
 simp[execOp,a,c,b,JR,Vh,Kg,run_underlying d,LY,asIntOf,e]
variable{m:Int}
end
section
variable{b:Frame}{k:List Item}
theorem Rn.G(j:aW F N ds a)(d:Nat)(p:Op)(g l:Nat)(q:Bool)(V:Value->Prop)(y:F.lookup l=some (.bool q))(i:∀c,p≠ .defer c)(u:q=true->∀o:Oper,o.op=p->qJ lT a o w λv w'=>V v/\w'=w)
 (next:∀v a',(q=true->V v)->aW ((d,v)::F) N ds a'->Rn lT Goal (b.atR a' (.inRegion ops rest::k)) cs w) (r:d<N:=by decide) (h:(ops[m]?).map (λo=>(o.dst,o.op,o.guard))=some (some d,p,some (g,true)):=by kernel_rfl) (z:(ops[g]?).bind (·.dst)=some l:=by kernel_rfl):Rn lT Goal (b.atR a (.inRegion ops (m::rest)::k)) cs w:=by
 cases e:ops[m]? with
 |none=>rw[e]at h;cases h
 |some o=>
  rw[e]at h;simp only[Option.map_some,Option.some.injEq,Prod.mk.injEq]at h;obtain⟨t,s,A⟩:=h;have n:=nY (tmps:=a.tmps) A z (j.slot l _ y);cases q with
  |false=>
   refine Rn.skips e n ?_;rw[t];exact next _ _ (λh=>by cases h) (j.put r _)
  |true=>
   refine Rn.does e n (by rw[s];exact i) (u rfl o s) λv w' ⟨x,f⟩=> ?_;rw[t,f];exact next v _ (λ_=>x) (j.put r v)
end
end L1
section
open Go.Conc Go.RowKit
def sW(w:World)(v:Value)(L:List Value):Prop:=∃p cap,v= .slice p L.length cap/\∀(i:Nat) (u:Value),L[i]?=some u->∃a:Addr,p=some a/\w.cell? (a.add i)=some u
theorem cG{a:Addr}{u:Value}(c:Bw w w')(h:w.cell? a=some u):w'.cell? a=some u:=by
 have b:a.block<w.heap.size:=by
  unfold AB at h;split at h
  ·exact(gA ‹_›).1
  ·cases h
 unfold AB at h⊢;rw[c.block _ b];exact h
theorem sW.below{L:List Value}(h:sW w v L)(d:Bw w w'):sW w' v L:=by obtain⟨p,b,g,f⟩:=h;exact⟨p,b,g,λi u c=>let ⟨a,e,hc⟩:=f i u c;⟨a,e,cG d hc⟩⟩
def ik(st le:Int)(u h:Value):Array Value:=#[.int .i64 st,u, .int .i64 le,h]
def dh:List Bool->List ByteArray->ByteArray->Bool
 |u::us,h::hs,x=>(u&&h.data.toList==x.data.toList)||dh us hs x
 |_,_,_=>false
structure Cv (tf tb ts:TypeId) (w0:World) (b3 b4 b5 l ld:Nat) (r:Loop) (fz:Array Value) (x:ByteArray) (q:Bool) (w:World):Prop where
 old:Bw w0 w
 fus:w.heap[b3]?=some (.cells fz tf)
 res:w.heap[b4]?=some (.cells #[.bool q] tb)
 hsh:w.heap[b5]?=some (.cells #[.string x] ts)
 list:w.heap[ld]?=some (.deferred (some []))
 loop:w.heap[l]?=some (.loop r)
section
variable{tf tb ts:TypeId}{b5 ld:Nat}{r:Loop}{fz:Array Value}{x:ByteArray}
theorem Cv.turn(h:Cv tf tb ts w0 b3 b4 b5 l ld r fz x q w)(f:w0.heap.size<=l)(a:Loop):Cv tf tb ts w0 b3 b4 b5 l ld a fz x q (bP w l a):=by
 have n:∀{b:Nat} {o:Obj},w.heap[b]?=some o->(∀r,o≠ .loop r)->b≠l:=λc d e=>by rw[e,h.loop]at c;exact d r (Option.some.inj c).symm
 exact⟨h.old.trans (ef w _ _ f),(bD w _ (n h.fus (by intro r e;cases e))).trans h.fus,(bD w _ (n h.res (by intro r e;cases e))).trans h.res,(bD w _ (n h.hsh (by intro r e;cases e))).trans h.hsh,(bD w _ (n h.list (by intro r e;cases e))).trans h.list,gG h.loop⟩
theorem Cv.put(h:Cv tf tb ts w0 b3 b4 b5 l ld r fz x q w)(i:tf≠tb)(g:ts≠tb)(f:w0.heap.size<=b4)(p:Bool):Cv tf tb ts w0 b3 b4 b5 l ld r fz x p (w.setCell ⟨b4,0,none⟩ (.bool p)):=by
 have d:b3≠b4:=λe=>by have:=h.fus;rw[e,h.res]at this;injection this with this;injection this with _ this;exact i this.symm
 have c:b5≠b4:=λe=>by have:=h.hsh;rw[e,h.res]at this;injection this with this;injection this with _ this;exact g this.symm
 have b:l≠b4:=λe=>by have:=h.res;rw[←e,h.loop]at this;cases this
 have a:ld≠b4:=λe=>by have:=h.res;rw[←e,h.list]at this;cases this
 exact⟨h.old.trans (ea w _ _ f),(cx w _ d).trans h.fus,jv h.res,(cx w _ c).trans h.hsh,(cx w _ a).trans h.list,(cx w _ b).trans h.loop⟩
end
end
namespace L1
open Go.Conc Go.RowKit
section
variable{y z:Operand}
theorem RI{a b:ByteArray}(c:o.op= .binOp .eql 9 x y t)(e:ev x= .s a)(d:ev y= .s b):(execOp ev o).run lT w= .ok (.value (.bool (a.data.toList==b.data.toList))) w:=by have g:=WK a;have f:=WK b;simp[execOp,c,e,d,go_sem,g,f]
theorem oe{p:Option Addr}{c:Nat}{ty e:TypeId}(d:lT.underlying ty=some (.slice e))(a:o.op= .call {callee:= .builtin .len,args:=#[.tmp k],argTypes:=#[ty]})(b:ev (.tmp k)= .slice p l c):(execOp ev o).run lT w= .ok (.value (.i l)) w:=by simp[execOp,a,resolve,b,invoke,builtin,Pr,run_underlying d,goInt]
theorem BX(a:o.op= .call {callee:= .builtin .min,args:=#[.tmp k, .tmp j],argTypes:=#[3,3]})(c:ev (.tmp k)= .i m)(b:ev (.tmp j)= .i n):(execOp ev o).run lT w= .ok (.value (.i (min m n:Nat))) w:=by
 have h:(if (n:Int)<m then(n:Int)else m)=((min m n:Nat):Int):=by split<;>omega
 have e:(Builtin.min2 (.i m) (.i n):Sem Value)=pure (.i (min m n:Nat)):=by rw[←h];rfl
 simp[execOp,a,resolve,c,b,invoke,builtin,Builtin.min_,e]
theorem Mu(j:Nat)(f:j<4)(a:o.op= .fieldAddr 48 x j)(c:ev x= .pk b 0):(execOp ev o).run lT w= .ok (.value (.pk b j)) w:=by
 have e:execOp ev o=(do pure (.value (←a53 48 (.pk b 0) j))):=by simp only[execOp,a,c]
 have d:(do pure (.value (←a53 48 (.pk b 0) j)):Sem Next).run lT w= .ok (.value (.pk b j)) w:=by rcases(o_:j=0\/j=1\/j=2\/j=3)with rfl|rfl|rfl|rfl<;>kernel_rfl
 rw[e,d]
theorem Kz{p r:Bool}(a:o.op= .pick x y z)(b:ev x= .bool p)(d:p=true->ev y= .bool q)(c:ev z= .bool r):(execOp ev o).run lT w= .ok (.value (.bool (if p then q else r))) w:=by
 cases p
 ·simp[execOp,a,b,c,asBool]
 ·simp[execOp,a,b,d rfl,asBool]
theorem zA{st le:Int}{u h:Value}(a:o.op= .load 48 x)(d:ev x= .pk b 0)(c:w.heap[b]?=some (.cells (ik st le u h) 48)):(execOp ev o).run lT w= .ok (.value (.agg (ik st le u h))) w:=by
 have e:(isAgg 48).run lT w= .ok true w:=k_
 have c:=aK c;simp[execOp,a,d,Instr.loadAt,loadVar,e,loadCells,loadCellsFrom,Vu,c,ik,go_sem]
theorem uf:Bq lT 4:=λw=>⟨k_,k_⟩
theorem qZ:Bq lT 46:=λw=>⟨k_,k_⟩
theorem fo:Bq lT 25:=λw=>⟨k_,k_⟩
end
end L1
section
open Go.Conc Go.RowKit
structure Ex (X:Nat->Prop) (w w':World):Prop where
 os:w'.os=w.os
 output:w'.output=w.output
 tape:w'.tape=w.tape
 size:w.heap.size<=w'.heap.size
 block:∀b,b<w.heap.size->¬X b->w'.heap[b]?=w.heap[b]?
section
variable{X Y:Nat->Prop}{w'':World}
theorem Ex.trans(h:Ex X w w')(a:Ex Y w' w'')(f:∀b,b<w.heap.size->Y b->X b):Ex X w w'':=
 ⟨a.os.trans h.os,a.output.trans h.output,a.tape.trans h.tape,a56 h.size a.size,λb c d=>(a.block b (a38 c h.size) λe=>d (f b c e)).trans (h.block b c d)⟩
theorem Ex.of_below(h:Bw w w'):Ex X w w':=⟨h.os,h.output,h.tape,h.size,λb a _=>h.block b a⟩
theorem Ex.at(h:Ex X w w'){o:Obj}(c:¬X b)(a:w.heap[b]?=some o):w'.heap[b]?=some o:=(h.block b (bH a) c).trans a
def gy(w:World)(b:Nat)(cs:Array Value)(t:TypeId):World:={w with heap:=w.heap.setIfInBounds b (.cells cs t)}
theorem co{o:Obj}{cs:Array Value}(h:w.heap[b]?=some o):(gy w b cs t).heap[b]?=some (.cells cs t):=by simp[gy,bH h]
theorem cn{c:Nat}{cs:Array Value}(h:c≠b):(gy w b cs t).heap[c]?=w.heap[c]?:=by simp only[gy];exact tK h
theorem jD{cs:Array Value}:(gy w b cs t).heap.size=w.heap.size:=by simp[gy]
theorem dQ(b:Nat)(cs:Array Value)(t:TypeId):Ex (· =b) w (gy w b cs t):=⟨rfl,rfl,rfl,Nat.le_of_eq jD.symm,λ_ _ h=>cn h⟩
theorem y6{cs cs':Array Value}{a:TypeId}:gy (gy w b cs t) b cs' a=gy w b cs' a:=by simp[gy]
theorem nc{cs:Array Value}(v:Value)(h:w.heap[b]?=some (.cells cs t)):w.setCell ⟨b,k,none⟩ v=gy w b (cs.setIfInBounds k v) t:=by
 unfold World.setCell gy
 congr 1
 apply Wl;intro i;rw[IN];by_cases a:b=i
 ·subst a;rw[if_pos rfl,h,a40 (bH h)];rfl
 ·rw[if_neg a,tK λe=>a e.symm]
theorem iq{cs old:Array Value}(h:w.heap[b]?=some (.cells old t)):w.setRow b cs=gy w b cs t:=by
 unfold World.setRow gy
 congr 1
 apply Wl;intro i;rw[IN];by_cases a:b=i
 ·subst a;rw[if_pos rfl,h,a40 (bH h)];rfl
 ·rw[if_neg a,tK λe=>a e.symm]
end
def kf(fl:Value)(W K:List Int)(on:Bool)(sl:Int):Array Value:=(fl::(W.map (Value.int .i64)++(K.map (Value.int .u8)++[.bool on, .int .i64 sl]))).toArray
section
variable{fl:Value}{W K:List Int}{on:Bool}{sl:Int}
theorem OL(i:Nat)(h:i<W.length):(kf fl W K on sl)[1+i]?=some (.i W[i]):=by simp[kf,Nat.add_comm 1 i,G7,h]
theorem Si(a:W.length=85)(i:Nat)(h:i<K.length):(kf fl W K on sl)[86+i]?=some (.int .u8 K[i]):=by rw[show 86+i=(85+i)+1 by omega];simp[kf,List.getElem?_append_right,G7,a,h]
theorem qv(a:W.length=85)(b:K.length=16):(kf fl W K on sl).size=104:=by simp[kf,a,b]
theorem Ew(a:W.length=85)(i:Nat)(h:i<K.length)(v:Int):(kf fl W K on sl).setIfInBounds (86+i) (.int .u8 v)=kf fl W (K.set i v) on sl:=by simp only[kf,WI];rw[show 86+i=(85+i)+1 by omega,Z6,OF _ _ (by simp[a]),List.set_append_left _ _ (by simp[a];omega),List.map_set];simp[a]
theorem Ey(c:W.length=85)(d:K.length=16)(b:Bool)(a:Int):((kf fl W K on sl).setIfInBounds 102 (.bool b)).setIfInBounds 103 (.i a)=kf fl W K b a:=by simp only[kf,WI];rw[Z6,OF _ _ (by simp[c]),OF _ _ (by simp[c,d])];simp[c,d,OF]
end
section
theorem fY{R:Ending->World->Prop}(c:P.funcs[f]?=some fn)(b:fn.results=#[])
 (h:∀cs,Rn P (λg w'=>∃(a:Act) (k:List Item),g=gB {(base f).atR a k with mode:= .returning} cs/\a.defers=[]/\R (.returned (.tuple #[])) w') (a49 P f args .normal) cs w):Calls P f args w R:=λcs=>by obtain⟨j,w',i,a,k,rfl,e,d⟩:=h cs;refine⟨.returned (.tuple #[]),w',{(base f).atR a k with mode:= .returning},d,Wu i,rfl,rfl,e,rfl,fn,c, ?_⟩;show(results fn a.tmps).run P w'=_;simp[results,b]
variable{k:List Item}
theorem Rn.g0{R:World->Prop}(c:aW F N [] a)(b:R w)(d:mc 6 ((base f).atR a k)=[]:=by rfl):
 Rn P (λg w'=>∃(a:Act) (k:List Item),g=gB {(base f).atR a k with mode:= .returning} cs/\a.defers=[]/\R w') ((base f).atR a k) cs w:=
 Rn.runs 6 k (by rw[d];exact Rn.ends rfl (.inl rfl) (Rn.now ⟨a,_,rfl,c.defers,b⟩))
end
end
namespace L1
open Go.Conc Go.RowKit
section
variable{y z:Operand}
theorem xT{g:Addr}(a:o.op= .nilCheck x)(b:ev x= .pointer (some g)):(execOp ev o).run lT w= .ok (.value (.pointer (some g))) w:=by simp[execOp,a,b]
theorem KJ(a:o.op= .fieldAddr 82 x 0)(c:ev x= .pk b 0):(execOp ev o).run lT w= .ok (.value (.pk b 0)) w:=by
 have e:execOp ev o=(do pure (.value (←a53 82 (.pk b 0) 0))):=by simp only[execOp,a,c]
 have d:(do pure (.value (←a53 82 (.pk b 0) 0)):Sem Next).run lT w= .ok (.value (.pk b 0)) w:=k_
 rw[e,d]
theorem xU(a:o.op= .fieldAddr 82 x 1)(c:ev x= .pk b 0):(execOp ev o).run lT w= .ok (.value (.pk b 1)) w:=by
 have e:execOp ev o=(do pure (.value (←a53 82 (.pk b 0) 1))):=by simp only[execOp,a,c]
 have d:(do pure (.value (←a53 82 (.pk b 0) 1)):Sem Next).run lT w= .ok (.value (.pk b 1)) w:=k_
 rw[e,d]
theorem KI(a:o.op= .fieldAddr 82 x 2)(c:ev x= .pk b 0):(execOp ev o).run lT w= .ok (.value (.pk b 86)) w:=by
 have e:execOp ev o=(do pure (.value (←a53 82 (.pk b 0) 2))):=by simp only[execOp,a,c]
 have d:(do pure (.value (←a53 82 (.pk b 0) 2)):Sem Next).run lT w= .ok (.value (.pk b 86)) w:=k_
 rw[e,d]
theorem KH(a:o.op= .fieldAddr 82 x 3)(c:ev x= .pk b 0):(execOp ev o).run lT w= .ok (.value (.pk b 102)) w:=by
 have e:execOp ev o=(do pure (.value (←a53 82 (.pk b 0) 3))):=by simp only[execOp,a,c]
 have d:(do pure (.value (←a53 82 (.pk b 0) 3)):Sem Next).run lT w= .ok (.value (.pk b 102)) w:=k_
 rw[e,d]
theorem DK(j:Nat)(f:j<3)(a:o.op= .fieldAddr 75 x j)(c:ev x= .pk b 0):(execOp ev o).run lT w= .ok (.value (.pk b j)) w:=by
 have e:execOp ev o=(do pure (.value (←a53 75 (.pk b 0) j))):=by simp only[execOp,a,c]
 have d:(do pure (.value (←a53 75 (.pk b 0) j)):Sem Next).run lT w= .ok (.value (.pk b j)) w:=by rcases(o_:j=0\/j=1\/j=2)with rfl|rfl|rfl<;>kernel_rfl
 rw[e,d]
theorem KF(j:Nat)(f:j<5)(a:o.op= .fieldAddr 36 x j)(c:ev x= .pk b 0):(execOp ev o).run lT w= .ok (.value (.pk b j)) w:=by
 have e:execOp ev o=(do pure (.value (←a53 36 (.pk b 0) j))):=by simp only[execOp,a,c]
 have d:(do pure (.value (←a53 36 (.pk b 0) j)):Sem Next).run lT w= .ok (.value (.pk b j)) w:=by rcases(o_:j=0\/j=1\/j=2\/j=3\/j=4)with rfl|rfl|rfl|rfl|rfl<;>kernel_rfl
 rw[e,d]
theorem KG(a:o.op= .fieldAddr 61 x 0)(c:ev x= .pk b 0):(execOp ev o).run lT w= .ok (.value (.pk b 0)) w:=by
 have e:execOp ev o=(do pure (.value (←a53 61 (.pk b 0) 0))):=by simp only[execOp,a,c]
 have d:(do pure (.value (←a53 61 (.pk b 0) 0)):Sem Next).run lT w= .ok (.value (.pk b 0)) w:=k_
 rw[e,d]
theorem DZ:Bq lT 59:=λw=>⟨k_,k_⟩
theorem I4:Bq lT 5:=λw=>⟨k_,k_⟩
theorem SG:Bq lT 62:=λw=>⟨k_,k_⟩
theorem QH(a:o.op= .indexAddr 78 x (.const (.i 0)))(c:ev x= .pk b 86)(d:ev (.const (.i 0))= .i 0):(execOp ev o).run lT w= .ok (.value (.pk b 86)) w:=by
 have e:execOp ev o=(do pure (.value (←M2 78 (.pk b 86) (.i 0)))):=by simp only[execOp,a,c,d]
 have f:(do pure (.value (←M2 78 (.pk b 86) (.i 0))):Sem Next).run lT w= .ok (.value (.pk b 86)) w:=k_
 rw[e,f]
theorem QG(j:n<16)(a:o.op= .indexAddr 78 x y)(e:ev x= .pk b 86)(d:ev y= .int .u8 n):(execOp ev o).run lT w= .ok (.value (.pk b (86+n))) w:=by
 have f:lT.underlying 78=some (.array 16 5):=k_
 have g:(sizeOf 5).run lT w= .ok 1 w:=k_
 have c:(n:Int)<16:=o_
 have i:(if n=0 then(⟨b,86,none⟩:Addr)else⟨b,86+n,none⟩)=⟨b,86+n,none⟩:=by
  split
  ·rename_i h;rw[h]
  ·rfl
 simp[execOp,a,e,d,go_sem,f,g,c,Vu,i]
theorem fD{cs:Array Value}{d:TypeId}(hv:v.cells=#[v])(a:v.oneCell'=true)(g:(sizeOf t).run lT w= .ok 1 w)(c:o.op= .store t x y)(f:ev x= .pk b k)(e:ev y=v)(h:w.heap[b]?=some (.cells cs d))(i:k<cs.size):
 (execOp ev o).run lT w= .ok .skip (gy w b (cs.setIfInBounds k v) d):=by rw[←nc v h];exact(eK (v0:=cs[k]) hv a g c f e (by rw[aK h];simp[i]) (by simp[Hv,h])).1
theorem NI{m n:Int}(a:o.op= .binOp .leq 3 x y u)(c:ev x= .i m)(b:ev y= .i n):(execOp ev o).run lT w= .ok (.value (.bool (decide (m<=n)))) w:=by simp[execOp,a,c,b,go_sem]
theorem Ky(a:o.op= .binOp .rem 5 x y u)(d:ev x= .int .u8 m)(c:ev y= .int .u8 n)(f:0<n):(execOp ev o).run lT w= .ok (.value (.int .u8 ((m%n:Nat):Int))) w:=by
 have e:(m:Int).tmod (n:Int)=((m%n:Nat):Int):=by rw[VR o_,Ym]
 have b:¬n=0:=o_
 simp[execOp,a,d,c,go_sem,e,b]
theorem DR{m n:Int}(a:o.op= .binOp .add 5 x y u)(c:ev x= .int .u8 m)(b:ev y= .int .u8 n):(execOp ev o).run lT w= .ok (.value (.int .u8 (Yv.wrap (m+n)))) w:=by simp[execOp,a,c,b,go_sem]
theorem Dz{on:Bool}{sl:Int}{cs:Array Value}{a:TypeId}(c:o.op= .store 80 x y)(l:ev x= .pk b 102)(j:ev y= .agg #[.bool on, .i sl])(h:w.heap[b]?=some (.cells cs a))(g:cs.size=104):
 (execOp ev o).run lT w= .ok .skip (gy w b ((cs.setIfInBounds 102 (.bool on)).setIfInBounds 103 (.i sl)) a):=by
 have m:(sizeOf 80).run lT w= .ok 2 w:=k_
 have p:w.cell? ⟨b,102,none⟩=some cs[102]:=by rw[aK h];simp[g]
 have r:w.frozen? ⟨b,102,none⟩=false:=by simp[Hv,h]
 have f:=nc (k:=102) (.bool on) h;have d:=co (w:=w) (cs:=cs.setIfInBounds 102 (.bool on)) (t:=a) h;have n:(w.setCell ⟨b,102,none⟩ (.bool on)).cell? ⟨b,103,none⟩=some cs[103]:=by rw[f,aK d];simp[g]
 have q:(w.setCell ⟨b,102,none⟩ (.bool on)).frozen? ⟨b,103,none⟩=false:=by rw[f];simp[Hv,d]
 have i:=nc (k:=103) (.i sl) d;rw[y6,←f]at i;have e:execOp ev o=(do Rl 80 (.pk b 102) (.agg #[.bool on, .i sl]);pure .skip):=by simp only[execOp,c,l,j]
 rw[e,←i];simp[Rl,storeVar,Value.cells,m,storeCells,Vu,p,r,n,q,go_sem]
theorem NG(a:o.op= .build 80 #[]):(execOp ev o).run lT w= .ok (.value (.agg #[.bool false, .i 0])) w:=by
 have e:execOp ev o=(do pure (.value (←C9 80 #[]))):=by simp[execOp,a]
 have b:(do pure (.value (←C9 80 #[])):Sem Next).run lT w= .ok (.value (.agg #[.bool false, .i 0])) w:=k_
 rw[e,b]
theorem NF{sl:Int}(a:o.op= .build 80 #[(0,x),(1,y)])(c:ev x= .bool true)(b:ev y= .i sl):(execOp ev o).run lT w= .ok (.value (.agg #[.bool true, .i sl])) w:=by
 have e:execOp ev o=(do pure (.value (←C9 80 #[(0, .bool true),(1, .i sl)]))):=by simp[execOp,a,c,b]
 have d:(do pure (.value (←C9 80 #[(0, .bool true),(1, .i sl)])):Sem Next).run lT w= .ok (.value (.agg #[.bool true, .i sl])) w:=k_
 rw[e,d]
end
theorem oc{p:Prop}(h:p:=by
 first
 |exact oq
 |exact xT ho gx
 |exact KJ ho gx
 |exact xU ho gx
 |exact KI ho gx
 |exact KH ho gx
 |exact DK _ d_ ho gx
 |exact KF _ d_ ho gx
 |exact KG ho gx
 |exact NI ho gx gx
 |exact NG ho
 |exact NF ho gx gx
 |exact QH ho gx gx
 |exact(aP (by first|exact DZ|exact I4|exact SG) ho gx ((aK (by assumption) _).trans rfl)).1):p:=h
section
variable{b:Frame}{k:List Item}
theorem Rn.uc{k':List Item}{d:Tmp}{p:Op}{v:Value}{gd:Option (Nat×Bool)}(hF:aW F N ds a)(next:∀a',aW ((d,v)::F) N ds a'->Rn P Goal (b.atR a' (.inRegion ops rest::k')) cs w)(h0:mc 6 (b.atR a k)= .inRegion ops (m::rest)::k':=by rfl)
 (h:(ops[m]?).map (λo=>(o.dst,o.op,o.guard))=some (some d,p,gd):=by rfl) (hw:gF ops F gd=true:=by rfl) (hy:∀o:Oper,o.op=p->(execOp a.eval o).run P w= .ok (.value v) w:=by intro o ho;exact oc) (hd:d<N:=by decide) (hnd:nd p=true:=by rfl):Rn P Goal (b.atR a k) cs w:=Rn.gr (Rn.qq hF next h hw hy hd hnd) h0
end
def dB(w:World)(cb:Nat)(fl:Value)(W:List Int)(on:Bool)(sl:Int):Prop:=W.length=85/\∃K:List Int,K.length=16/\(∀i (h:i<K.length),0<=K[i]/\K[i]<256)/\w.heap[cb]?=some (.cells (kf fl W K on sl) 82)
def ox(cb:Nat)(room:Int)(cut:Bool):Array Value:=#[.pk cb 0, .int .i64 room, .bool cut]
theorem dB.ex{a:Nat}{fl:Value}{W:List Int}{on:Bool}{sl:Int}{X:Nat->Prop}(h:dB w a fl W on sl)(b:Ex X w w')(c:¬X a):dB w' a fl W on sl:=⟨h.1,let ⟨K,h1,h2,h3⟩:=h.2;⟨K,h1,h2,b.at c h3⟩⟩
section
variable{cb:Nat}{fl:Value}{W:List Int}{on:Bool}{sl:Int}
theorem OO:Tryz.f42.body=some (rG Tryz.f42 0):=k_
theorem tz(h:dB w cb fl W on sl):Calls lT 42 #[.pk cb 0] w λe w'=>e= .returned (.tuple #[])/\dB w' cb fl W false 0/\Ex (· =cb) w w'/\w'.heap.size=w.heap.size:=by
 obtain⟨c,K,d,i,f⟩:=h;refine fY Lf.func42 rfl λj=> ?_;rw[aV (N:=6) [.pk cb 0] Lf.func42 OO rfl];have b:=aN [.pk cb 0] 6 s_
 iterate 4 refine Rn.uc b λa b=> ?_
 refine Rn.nn b (λo g=>Dz (on:=false) (sl:=0) g (b.G 5) (b.G 3) f (qv c d)) λa b=> ?_;rw[Ey c d];exact Rn.g0 b ⟨rfl,⟨c,K,d,i,co f⟩,dQ _ _ _,jD⟩
theorem P4:Tryz.f92.body=some (rG Tryz.f92 0):=k_
theorem Is(n:Int)(h:dB w cb fl W on sl):Calls lT 92 #[.pk cb 0, .i n] w λe w'=>e= .returned (.tuple #[])/\dB w' cb fl W true n/\Ex (· =cb) w w'/\w'.heap.size=w.heap.size:=by
 obtain⟨c,K,d,i,f⟩:=h;refine fY Lf.func92 rfl λj=> ?_;rw[aV (N:=9) [.pk cb 0, .i n] Lf.func92 P4 rfl];have b:=aN [.pk cb 0, .i n] 9 s_
 iterate 5 refine Rn.uc b λa b=> ?_
 refine Rn.nn b (λo g=>Dz (on:=true) (sl:=n) g (b.G 8) (b.G 6) f (qv c d)) λa b=> ?_;rw[Ey c d];exact Rn.g0 b ⟨rfl,⟨c,K,d,i,co f⟩,dQ _ _ _,jD⟩
theorem P9:Tryz.f88.body=some (.seq (rG Tryz.f88 0) (.seq (rG Tryz.f88 1) (rG Tryz.f88 2))):=k_
theorem IA(n:Int)(x:0<=n/\n<256)(h:dB w cb fl W on sl):Calls lT 88 #[.pk cb 0, .int .u8 n] w λe w'=>e= .returned (.tuple #[])/\dB w' cb fl W on sl/\Ex (· =cb) w w'/\w'.heap.size=w.heap.size:=by
 obtain⟨f,K,r,k,g⟩:=h;refine fY Lf.func88 rfl λcs=> ?_;rw[aV (N:=24) [.pk cb 0, .int .u8 n] Lf.func88 P9 rfl];have b:=aN [.pk cb 0, .int .u8 n] 24 s_;obtain⟨c,q,z⟩:∃c:Nat,K[0]=(c:Int)/\c<256:=⟨(K[0]).toNat,by have:=k 0 o_;omega,by have:=k 0 o_;omega⟩;have s:=Si (fl:=fl) (on:=on) (sl:=sl) f 0 (o_:0<K.length);rw[q]at s;have j:1+c%15<16:=o_
 have u:Yv.wrap (1+((c%15:Nat):Int))=((1+c%15:Nat):Int):=by rw[XK];omega
 iterate 4 refine Rn.uc b λa b=> ?_
 refine Rn.vv b (λo d=>(aP I4 d (b.G 8) ((aK g _).trans s)).1) λa b=> ?_
 iterate 3 refine Rn.uc b λa b=> ?_
 refine Rn.vv b (λo d=>Ky (n:=15) d (b.G 11) rfl o_) λa b=> ?_;refine Rn.vv b (λo d=>DR (m:=1) d rfl (b.G 12)) λa b=> ?_;rw[u]at b
 iterate 3 refine Rn.uc b λa b=> ?_
 refine Rn.vv b (λo d=>QG j d (b.G 16) (b.G 13)) λa b=> ?_;refine Rn.nn b (λo d=>fD (v:= .int .u8 n) rfl rfl k_ d (b.G 17) (b.G 14) g (by rw[qv f r];omega)) λa b=> ?_;rw[Ew f _ o_];have p:=co (cs:=kf fl W (K.set (1+c%15) n) on sl) (t:=82) g
 iterate 2 refine Rn.uc b λa b=> ?_
 refine Rn.vv b (λo d=>DR (n:=1) d (b.G 19) rfl) λa b=> ?_
 iterate 3 refine Rn.uc b λa b=> ?_
 refine Rn.nn b (λo d=>fD (v:= .int .u8 (Yv.wrap (c+1))) rfl rfl k_ d (b.G 23) (b.G 20) p (by rw[qv f (by simpa using r)];omega)) λa b=> ?_;rw[show(86:Nat)=86+0 from rfl,Ew f _ (by simp;omega),y6];refine Rn.g0 b ⟨rfl,⟨f,_,by simpa using r,λi y=> ?_,co g⟩,dQ _ _ _,jD⟩;have l:i<K.length:=by simpa using y
 rw[Yh,Yh];split
 ·rw[XK];omega
 ·split
  ·exact x
  ·exact k i l
theorem P2:Tryz.f73.body=some (.seq (.seq (rG Tryz.f73 0) (.cond (.tmp 8) (.seq (rG Tryz.f73 1) (rG Tryz.f73 2)) .skip)) (.seq (rG Tryz.f73 3) (rG Tryz.f73 4))):=k_
theorem pZ{d:Nat}{room:Int}(n:Int)(A:0<room)(u:room<9223372036854775808)(h:dB w cb fl W on sl)(k:w.heap[d]?=some (.cells (ox cb room false) 75)):Calls lT 73 #[.pk d 0, .i n] w λe w'=>e= .returned (.tuple #[])/\dB w' cb fl W on sl/\w'.heap[d]?=some (.cells (ox cb (room- 1) false) 75)/\Ex (λb=>b=cb\/b=d) w w'/\w'.heap.size=w.heap.size:=by
 have j:cb≠d:=λe=>by obtain⟨C,K,D,B,i⟩:=h;rw[e,k]at i;injection i with i;injection i with _ i;cases i
 refine fY Lf.func73 rfl λcs=> ?_;rw[aV (N:=27) [.pk d 0, .i n] Lf.func73 P2 rfl];have c:=aN [.pk d 0, .i n] 27 s_
 iterate 5 refine Rn.uc c λa c=> ?_
 refine Rn.p rfl (Rn.cond _ (c.G 8) ?_);rw[decide_eq_false (o_:¬room<=0)]
 iterate 7 refine Rn.uc c λa c=> ?_
 refine Rn.nn c (λo m=>fD (v:= .i (room- 1)) rfl rfl k_ m (c.G 19) (c.G 17) k (d_:1<3)) λa c=> ?_;rw[show(ox cb room false).setIfInBounds 1 (.i (room- 1))=ox cb (room- 1) false from rfl];have g:=co (cs:=ox cb (room- 1) false) (t:=75) k;have f:=dQ (w:=w) d (ox cb (room- 1) false) 75;have l:=jD (w:=w) (b:=d) (cs:=ox cb (room- 1) false) (t:=75);have p:=h.ex f j;revert g f p l;generalize gy w d (ox cb (room- 1) false) 75=z;intro g f l p
 iterate 5 refine Rn.uc c λa c=> ?_
 refine Rn.vv c (λo m=>tW m (c.G 24)) λa c=> ?_;refine Rn.cw c Lf.func88 (IA (Yv.wrap n) (by rw[XK];omega) p) λy ⟨x,q,r⟩ a c=> ?_;exact Rn.g0 c ⟨rfl,x,q.at (LZ j) g,(Ex.trans (X:=λb=>b=cb\/b=d) ⟨f.os,f.output,f.tape,f.size,λb k s=>f.block b k λe=>s (.inr e)⟩ q λb _ e=> .inl e),r.trans l⟩
end
end L1
section
open Go.RowKit
def va(L:List UInt8)(a b:Nat):List UInt8:=(L.take b).drop a
theorem nJ(L:List UInt8)(a b:Nat)(h:b<=L.length):(va L a b).length=b- a:=by simp[va];omega
def uC(v n i:Nat):List Value:=bG ((cQ v n).take i)++C2 (n- i) (.int .u8 0)
theorem EY(v n i:Nat)(h:i<=n):(uC v n i).length=n:=by simp[uC,bG,cU];omega
theorem TS(v n:Nat):uC v n 0=C2 n (.int .u8 0):=by simp[uC,bG]
theorem Nk(v n:Nat):uC v n n=bG (cQ v n):=by simp[uC,cU,List.take_of_length_le]
theorem Nj(v n i:Nat)(h:i<n)(x:Int)(b:x=((v/256^(n- 1- i)%256:Nat):Int)):(uC v n i).set i (.int .u8 x)=uC v n (i+1):=by
 subst b;have a:=I7 n v i h;obtain⟨c,a⟩:=a44.1 a;rw[uC,uC,show n- i=(n-(i+1))+1 from o_,List.replicate_succ,List.take_succ_eq_append_getElem c,a,OF _ _ (by simp[bG,cU];omega)];have e:i-(bG ((cQ v n).take i)).length=0:=by simp[bG,cU];omega
 rw[e];simp[bG]
theorem Qu(v n i:Nat):(v:Int)/2^(8*(n- 1- i))%256=((v/256^(n- 1- i)%256:Nat):Int):=by rw[Int.pow_mul,show((2:Int)^8)=((256:Nat):Int)from d_,←LK,←Vw,←show((256:Nat):Int)=256 from rfl,←Ym]
theorem cL{p q:Tmp}{ty:TypeId}(h:fn.results=#[.cell p ty, .tmp q])(tmps:Array Value)(w:World)(b o:Nat)(cs:List Value)(d:TypeDesc)(v:Value)
 (f:tmps.getD p undef= .pk b o) (j:w.rangeAt b o cs) (hv:tmps.getD q undef=v)
 (e:P.underlying ty=some d) (i:d.isRow=true) (g:(P.info? ty).map (·.size)=some cs.length):
 (results fn tmps).run P w= .ok (.tuple #[.agg cs.toArray,v]) w:=by
 have c:tmps[p]?.getD undef= .pk b o:=by simpa using f
 have a:tmps[q]?.getD undef=v:=by simpa using hv
 simp[results,h,c,a,asAddr,run_loadVar_mid w b o ty cs d j e i g]
theorem fW(s:ByteArray)(a b:Nat):s.extract a b=⟨(va s.data.toList a b).toArray⟩:=by obtain⟨⟨l⟩⟩:=s;apply ByteArray.ext;simp[va,List.drop_take,List.extract]
def CG(v s e a l:Int)(k:List UInt8):List Value:=[.int .i64 v, .int .i64 s, .int .i64 e, .int .i64 a, .int .i64 l, .string ⟨k.toArray⟩]
def jg:List Value:=CG 0 0 0 0 0 []
def sP(v sg en a l:Int)(k:List UInt8):List Value×Int:=
 if sg<78\/8192<sg\/a<sg\/8192<a+l then(jg,5)else
 if en%4≠0\/en<78\/sg<=en then(jg,6)else
 (CG v sg en a l k,0)
def mO(L:List UInt8):List Value×Int:=
 if L.length<8192 then(jg,3)else
 if L.take 4≠[76,78,84,76]then(jg,4)else
 sP (et (va L 4 6)) (et (va L 6 10)) (et (va L 10 14)) (et (va L 14 18)) (et (va L 18 22)) (va L 22 78)
theorem wH(L:List UInt8):(mO L).1=jg\/∃v b en a l k,(mO L).1=CG v b en a l k:=by
 unfold mO;split
 ·exact .inl rfl
 ·split
  ·exact .inl rfl
  ·unfold sP;split
   ·exact .inl rfl
   ·split
    ·exact .inl rfl
    ·exact .inr ⟨_,_,_,_,_,_,rfl⟩
theorem Lj(L:List UInt8):(mO L).1.length=6:=by rcases wH L with h|⟨v,b,c,a,l,k,h⟩<;>rw[h]<;>rfl
theorem Li(L:List UInt8):∀v∈(mO L).1,v.oneCell'=true:=by
 rcases wH L with h|⟨v,c,d,a,l,k,h⟩
 ·rw[h];intro v b;simp[jg,CG]at b;rcases b with rfl|rfl<;>rfl
 ·rw[h];intro v b;simp[CG]at b;rcases b with rfl|rfl|rfl|rfl|rfl|rfl<;>rfl
end
namespace L1
open Go.RowKit
theorem Gs(s:ByteArray)(w:World)(a:s.size<=281474976710656):Calls lT 95 #[.s s] w λe w'=>e= .returned (.s s)/\Bw w w':=by
 go_enter Lf.func95,Tryz.ntmps95
 go_wp2_with (go_at_call 100;refine(Lf.stringslite_Clone s _ a).mono ?_;rintro e w' ⟨rfl,b⟩)
 go_ret
 exact⟨rfl,b⟩
theorem IG(s:ByteArray)(w:World)(hs:s.size<=281474976000000):
 Calls lT 89 #[.s s] w λe w'=>e= .returned (.tuple #[.agg (mO s.data.toList).1.toArray, .i (mO s.data.toList).2])/\Bw w w':=by
 have i:s.data.toList.length=s.size:=by rw[LO];rfl
 by_cases H:s.size<8192
 ·have E:mO s.data.toList=(jg,3):=by rw[mO,if_pos (by rw[i];exact H)]
  rw[E];have G:(s.size:Int)<8192:=o_
  go_enter Lf.func89,Tryz.ntmps89
  go_wp2_with fail
  exact bodyPost_ret (v:= .tuple #[.agg jg.toArray, .i 3]) (cL (p:=2) (q:=3) (ty:=133) k_ _ _ w.heap.size 0 jg _ _ rfl (dZ _ jg _ _ rfl) rfl Lf.underlying133 rfl k_) rfl ⟨rfl,(bR).alloc (a36 _) _⟩
 ·have G:¬(s.size:Int)<8192:=o_
  have a0:(8192:Int)<=(s.size:Int):=o_
  have g:=λa b (h:b<=8192)=>nJ s.data.toList a b (by rw[i];omega);have Z:s.extract 0 4=⟨(s.data.toList.take 4).toArray⟩:=by rw[fW];rfl
  by_cases y:s.data.toList.take 4≠[76,78,84,76]
  ·have E:mO s.data.toList=(jg,4):=(by rw[mO,if_neg (by rw[i];exact H),if_pos y]);rw[E];have F:(s.data.toList.take 4==[76,78,84,76])=false:=by rw[beq_eq_false_iff_ne];exact y
   go_enter Lf.func89,Tryz.ntmps89
   go_wp2_with fail
   exact bodyPost_ret (v:= .tuple #[.agg jg.toArray, .i 4]) (cL (p:=2) (q:=3) (ty:=133) k_ _ _ w.heap.size 0 jg _ _ rfl (dZ _ jg _ _ rfl) rfl Lf.underlying133 rfl k_) rfl ⟨rfl,(bR).alloc (a36 _) _⟩
  ·have x:s.data.toList.take 4=[76,78,84,76]:=Classical.not_not.1 y;have F:(s.data.toList.take 4==[76,78,84,76])=true:=(by rw[beq_iff_eq];exact x);rw[show mO s.data.toList=sP (et (va s.data.toList 4 6)) (et (va s.data.toList 6 10)) (et (va s.data.toList 10 14)) (et (va s.data.toList 14 18)) (et (va s.data.toList 18 22)) (va s.data.toList 22 78)from by rw[mO,if_neg (by rw[i];exact H),if_neg y]];have t:Hid (∀a b,b<=8192->(va s.data.toList a b).length=b- a):=g;have r:∀a b,b<=8192->b- a<=4->0<=et (va s.data.toList a b)/\et (va s.data.toList a b)<4294967296:=λa b h h'=>pY _ 4 (by rw[g a b h];exact h');have O:=r 4 6 o_ o_;have N:=r 6 10 o_ o_;have M:=r 10 14 o_ o_;have L:=r 14 18 o_ o_;have K:=r 18 22 o_ o_;clear r g y x
   go_enter Lf.func89,Tryz.ntmps89
   go_wp2_with fail
   rw[fW];refine(eO _ _ (by show(va s.data.toList 4 6).toArray.size<=8;rw[Gh,t.out _ _ o_];omega)).mono ?_;rintro e m ⟨rfl,rfl⟩
   go_wp2_with fail
   rw[fW];refine(eO _ _ (by show(va s.data.toList 6 10).toArray.size<=8;rw[Gh,t.out _ _ o_];omega)).mono ?_;rintro e m ⟨rfl,rfl⟩
   go_wp2_with fail
   rw[fW];refine(eO _ _ (by show(va s.data.toList 10 14).toArray.size<=8;rw[Gh,t.out _ _ o_];omega)).mono ?_;rintro e m ⟨rfl,rfl⟩
   go_wp2_with fail
   rw[fW];refine(eO _ _ (by show(va s.data.toList 14 18).toArray.size<=8;rw[Gh,t.out _ _ o_];omega)).mono ?_;rintro e m ⟨rfl,rfl⟩
   go_wp2_with fail
   rw[fW];refine(eO _ _ (by show(va s.data.toList 18 22).toArray.size<=8;rw[Gh,t.out _ _ o_];omega)).mono ?_;rintro e m ⟨rfl,rfl⟩;rw[show(ByteArray.mk (va s.data.toList 18 22).toArray).data.toList=va s.data.toList 18 22 from rfl];obtain⟨v,A⟩:∃v,et (va s.data.toList 4 6)=v:=⟨_,rfl⟩;obtain⟨c,j⟩:∃v,et (va s.data.toList 6 10)=v:=⟨_,rfl⟩;obtain⟨d,k⟩:∃v,et (va s.data.toList 10 14)=v:=⟨_,rfl⟩;obtain⟨a,C⟩:∃v,et (va s.data.toList 14 18)=v:=⟨_,rfl⟩;obtain⟨l,B⟩:∃v,et (va s.data.toList 18 22)=v:=⟨_,rfl⟩;have n:Hid (sP (et (va s.data.toList 4 6)) (et (va s.data.toList 6 10)) (et (va s.data.toList 10 14)) (et (va s.data.toList 14 18)) (et (va s.data.toList 18 22)) (va s.data.toList 22 78)=sP v c d a l (va s.data.toList 22 78)):=by show sP _ _ _ _ _ _=_;rw[A,j,k,C,B]
   rw[A,j,k,C,B];rw[A]at O;rw[j]at N;rw[k]at M;rw[C]at L;rw[B]at K;clear A j k C B;obtain⟨Y,X⟩:=O;obtain⟨W,V⟩:=N;obtain⟨U,T⟩:=M;obtain⟨S,R⟩:=L;obtain⟨Q,P⟩:=K;have hw:LX.wrap (a+l)=a+l:=(by rw[PQ,Int.emod_eq_of_lt o_ o_]);by_cases c1:c<78
   ·have f:sP v c d a l (va s.data.toList 22 78)=(jg,5):=by rw[sP,if_pos o_]
    go_wp2_with fail
    exact bodyPost_ret (v:= .tuple #[.agg jg.toArray, .i 5]) (cL (p:=2) (q:=3) (ty:=133) k_ _ _ w.heap.size 0 jg _ _ rfl (dZ _ jg _ _ rfl) rfl Lf.underlying133 rfl k_) rfl ⟨by rw[n.out,f],(bR).alloc (a36 _) _⟩
   ·have a6:¬c<78:=c1;by_cases c2:8192<c
    ·have f:sP v c d a l (va s.data.toList 22 78)=(jg,5):=by rw[sP,if_pos o_]
     go_wp2_with fail
     exact bodyPost_ret (v:= .tuple #[.agg jg.toArray, .i 5]) (cL (p:=2) (q:=3) (ty:=133) k_ _ _ w.heap.size 0 jg _ _ rfl (dZ _ jg _ _ rfl) rfl Lf.underlying133 rfl k_) rfl ⟨by rw[n.out,f],(bR).alloc (a36 _) _⟩
    ·have a5:¬8192<c:=c2;by_cases c3:a<c
     ·have f:sP v c d a l (va s.data.toList 22 78)=(jg,5):=by rw[sP,if_pos o_]
      go_wp2_with fail
      exact bodyPost_ret (v:= .tuple #[.agg jg.toArray, .i 5]) (cL (p:=2) (q:=3) (ty:=133) k_ _ _ w.heap.size 0 jg _ _ rfl (dZ _ jg _ _ rfl) rfl Lf.underlying133 rfl k_) rfl ⟨by rw[n.out,f],(bR).alloc (a36 _) _⟩
     ·have a4:¬a<c:=c3;by_cases c4:8192<a+l
      ·have f:sP v c d a l (va s.data.toList 22 78)=(jg,5):=by rw[sP,if_pos o_]
       go_wp2_with fail
       exact bodyPost_ret (v:= .tuple #[.agg jg.toArray, .i 5]) (cL (p:=2) (q:=3) (ty:=133) k_ _ _ w.heap.size 0 jg _ _ rfl (dZ _ jg _ _ rfl) rfl Lf.underlying133 rfl k_) rfl ⟨by rw[n.out,f],(bR).alloc (a36 _) _⟩
      ·have a3:¬8192<a+l:=c4;have D:¬(c<78\/8192<c\/a<c\/8192<a+l):=o_;by_cases d1:d%4≠0
       ·have f:sP v c d a l (va s.data.toList 22 78)=(jg,6):=(by rw[sP,if_neg D,if_pos o_]);have I:(d%4==0)=false:=by rw[beq_eq_false_iff_ne];exact d1
        go_wp2_with fail
        exact bodyPost_ret (v:= .tuple #[.agg jg.toArray, .i 6]) (cL (p:=2) (q:=3) (ty:=133) k_ _ _ w.heap.size 0 jg _ _ rfl (dZ _ jg _ _ rfl) rfl Lf.underlying133 rfl k_) rfl ⟨by rw[n.out,f],(bR).alloc (a36 _) _⟩
       ·have I:(d%4==0)=true:=(by rw[beq_iff_eq];omega);by_cases d2:d<78
        ·have f:sP v c d a l (va s.data.toList 22 78)=(jg,6):=by rw[sP,if_neg D,if_pos o_]
         go_wp2_with fail
         exact bodyPost_ret (v:= .tuple #[.agg jg.toArray, .i 6]) (cL (p:=2) (q:=3) (ty:=133) k_ _ _ w.heap.size 0 jg _ _ rfl (dZ _ jg _ _ rfl) rfl Lf.underlying133 rfl k_) rfl ⟨by rw[n.out,f],(bR).alloc (a36 _) _⟩
        ·have a2:¬d<78:=d2;by_cases d3:c<=d
         ·have f:sP v c d a l (va s.data.toList 22 78)=(jg,6):=by rw[sP,if_neg D,if_pos o_]
          go_wp2_with fail
          exact bodyPost_ret (v:= .tuple #[.agg jg.toArray, .i 6]) (cL (p:=2) (q:=3) (ty:=133) k_ _ _ w.heap.size 0 jg _ _ rfl (dZ _ jg _ _ rfl) rfl Lf.underlying133 rfl k_) rfl ⟨by rw[n.out,f],(bR).alloc (a36 _) _⟩
         ·have a1:¬c<=d:=d3;have f:sP v c d a l (va s.data.toList 22 78)=(CG v c d a l (va s.data.toList 22 78),0):=by rw[sP,if_neg D,if_neg o_]
          go_wp2_with fail
          rw[fW];refine(Gs _ _ (by show(va s.data.toList 22 78).toArray.size<=_;rw[Gh,t.out _ _ o_];omega)).mono ?_;rintro e m ⟨rfl,o⟩;have u:m.there w.heap.size 0 6:=fC o s_ (fk _ _ _ _ _ rfl rfl);have J:Hid (Bw w m):=((bR).alloc (a36 _) _).trans (o.mono s_);have y1:A8.wrap v=v:=(by rw[a5_];omega);have y2:A8.wrap c=c:=(by rw[a5_];omega);have y3:A8.wrap d=d:=(by rw[a5_];omega);have y4:A8.wrap a=a:=(by rw[a5_];omega);have y5:A8.wrap l=l:=(by rw[a5_];omega);have z:Hid (m.there w.heap.size 0 (CG v c d a l (va s.data.toList 22 78)).toArray.size):=u;clear o u
          go_wp2_with (refine wpList_store_mid rfl 133 (.tmp 2) (.tmp 76) rfl w.heap.size 0 (CG v c d a l (va s.data.toList 22 78)).toArray rfl rfl z.out k_ k_ ?_)
          exact bodyPost_ret (v:= .tuple #[.agg (CG v c d a l (va s.data.toList 22 78)).toArray, .i 0]) (cL (p:=2) (q:=3) (ty:=133) k_ _ _ w.heap.size 0 (CG v c d a l (va s.data.toList 22 78)) _ _ rfl (World.rangeAt_setCells_same _ _ _ _ z.out) rfl Lf.underlying133 rfl k_) rfl ⟨by rw[n.out,f],dS (a36 _) _ _ _ _ J.out⟩
end L1
namespace L1
open Go.Conc Go.RowKit
def cH(r:Int)(j:Bool)(s e c:Int):Array Value:=#[.int .i64 r, .bool j, .int .i64 s, .int .i64 e, .int .i64 c]
def XR(cb rb:Nat):Nat->Prop:=λb=>b=cb\/b=rb
def j9(w:World)(fl:Value)(L:ByteArray):Prop:=L.size=16384/\∃fb cap cells fr,fl= .sk fb 16384 cap/\16384<=cap/\w.heap[fb]?=some (.cells cells 5 fr)/\16384<=fr.1/\∀j (h:j<L.data.toList.length),cells[j]?=some (.int .u8 (L.data.toList[j].toNat:Int))
def uV(n:Nat)(fl:Value):Prop:=∃b l c,fl= .sk b l c/\n<=b
theorem uV.mono{fl:Value}(h:uV n fl)(a:m<=n):uV m fl:=let ⟨b,l,c,e,hb⟩:=h;⟨b,l,c,e,a56 a hb⟩
theorem j9.keep{fl:Value}{L:ByteArray}{X:Nat->Prop}(h:j9 w fl L)(e:Ex X w w')(f:∀b cs fr,w.heap[b]?=some (.cells cs 5 fr)->¬X b):j9 w' fl L:=by obtain⟨k,l,c,a,fr,j,i,d,g⟩:=h;exact⟨k,l,c,a,fr,j,i,e.at (f _ _ _ d) d,g⟩
theorem ug{e d:Nat}{fl:Value}{W:List Int}{on:Bool}{sl:Int}{c:Array Value}(h:dB w e fl W on sl)(f:w.heap[d]?=some (.cells c 75))(b:Nat)(cs:Array Value)(fr:Nat×Nat)(a:w.heap[b]?=some (.cells cs 5 fr)):¬XR e d b:=by
 rintro(rfl|rfl)
 ·obtain⟨_,K,_,_,h⟩:=h;rw[h]at a;injection a with a;injection a with _ a;cases a
 ·rw[f]at a;injection a with a;injection a with _ a;cases a
theorem J9{d b:Nat}{fl:Value}{W:List Int}{on:Bool}{sl:Int}{c:Array Value}(h:dB w d fl W on sl)(f:w.heap[b]?=some (.cells c 75)):d≠b:=λe=>by obtain⟨i,K,j,g,a⟩:=h;rw[e,f]at a;injection a with a;injection a with _ a;cases a
theorem dB.lt{a:Nat}{fl:Value}{W:List Int}{on:Bool}{sl:Int}(h:dB w a fl W on sl):a<w.heap.size:=let ⟨_,_,_,_,h⟩:=h;bH h
section
variable{y z:Operand}
theorem iB(a:o.op= .alloc 36):(execOp ev o).run lT w= .ok (.value (.pk w.heap.size 0)) (w.alloc (.cells (cH 0 false 0 0 0) 36)):=by
 have e:execOp ev o=(do pure (.value (←Ee 36 true (.tuple #[])))):=by simp only[execOp,a]
 have b:(do pure (.value (←Ee 36 true (.tuple #[]))):Sem Next).run lT w= .ok (.value (.pk w.heap.size 0)) (w.alloc (.cells (cH 0 false 0 0 0) 36)):=k_
 rw[e,b]
theorem KA(a:o.op= .build 36 #[(4,x)])(b:ev x= .i c):(execOp ev o).run lT w= .ok (.value (.agg (cH 0 false 0 0 c))) w:=by
 have e:execOp ev o=(do pure (.value (←C9 36 #[(4, .i c)]))):=by simp[execOp,a,b]
 have d:(do pure (.value (←C9 36 #[(4, .i c)])):Sem Next).run lT w= .ok (.value (.agg (cH 0 false 0 0 c))) w:=k_
 rw[e,d]
theorem KB{s n:Int}(a:o.op= .build 36 #[(1,x),(2,y),(3,z)])(d:ev x= .bool true)(c:ev y= .i s)(b:ev z= .i n):(execOp ev o).run lT w= .ok (.value (.agg (cH 0 true s n 0))) w:=by
 have e:execOp ev o=(do pure (.value (←C9 36 #[(1, .bool true),(2, .i s),(3, .i n)]))):=by simp[execOp,a,d,c,b]
 have f:(do pure (.value (←C9 36 #[(1, .bool true),(2, .i s),(3, .i n)])):Sem Next).run lT w= .ok (.value (.agg (cH 0 true s n 0))) w:=k_
 rw[e,f]
theorem kw:(lT.info? 36).map (·.size)=some 5:=k_
theorem gf{r s e:Int}{j:Bool}{old:Array Value}{d:TypeId}(a:o.op= .store 36 x y)(g:ev x= .pk b 0)(f:ev y= .agg (cH r j s e c))(h:w.heap[b]?=some (.cells old d))(i:old.size=5):
 (execOp ev o).run lT w= .ok .skip (gy w b (cH r j s e c) d):=by rw[←iq h];exact db a g f h kw i (by simp[cH,LN])
theorem ko(a:o.op= .binOp .mul 3 x y u)(c:ev x= .i m)(b:ev y= .i n)(h:m*n<9223372036854775808):(execOp ev o).run lT w= .ok (.value (.i ((m*n:Nat):Int))) w:=by
 have e:A8.wrap ((m:Int)*(n:Int))=((m*n:Nat):Int):=by rw[←Int.natCast_mul,a5_];omega
 simp[execOp,a,c,b,go_sem,e]
theorem cS(a:o.op= .binOp .add 3 x y u)(c:ev x= .i m)(b:ev y= .i n)(h:m+n<9223372036854775808):(execOp ev o).run lT w= .ok (.value (.i ((m+n:Nat):Int))) w:=by
 have e:A8.wrap ((m:Int)+(n:Int))=((m+n:Nat):Int):=by rw[←NY,a5_];omega
 simp[execOp,a,c,b,go_sem,e]
theorem KM{g a cap:Nat}(c:o.op= .slice 62 x (some y) (some z) none)(f:ev x= .sk g a cap)(e:ev y= .i m)(d:ev z= .i n)(h:n<=cap)(p:m<n):(execOp ev o).run lT w= .ok (.value (.slice (some ⟨g,m,none⟩) (n- m) (cap- m))) w:=by
 have i:lT.underlying 62=some (.slice 5):=k_
 have b:(sizeOf 5).run lT w= .ok 1 w:=k_
 have k:m<=n:=o_
 have j:¬cap=m:=o_
 have l:(⟨g,0,none⟩:Addr).add m=⟨g,m,none⟩:=by rw[CH,a46]
 simp[execOp,c,f,e,d,JR,Vh,Kg,run_underlying i,LY,asIntOf,h,b,k,j,l]
theorem Ku{g off cap:Nat}{l:List UInt8}(a:o.op= .convert 62 9 x)(c:ev x= .slice (some ⟨g,off,none⟩) l.length cap)(d:∀j (b:j<l.length),w.cell? ⟨g,off+j,none⟩=some (.int .u8 (l[j].toNat:Int))):(execOp ev o).run lT w= .ok (.value (.string ⟨l.toArray⟩)) w:=by
 have h:=run_convert_bytes_back (P:=lT) w 62 9 5 ⟨g,off,none⟩ cap l k_ k_ k_ (λj b=>by rw[CH];exact d j b);have e:execOp ev o=(do pure (.value (←convert 62 9 (.slice (some ⟨g,off,none⟩) l.length cap)))):=by simp only[execOp,a,c]
 rw[e];simp[h]
end
section
variable{cb rb:Nat}{fl:Value}{W:List Int}{on:Bool}{sl room:Int}
theorem Je:Tryz.f74.body=some (.seq (rG Tryz.f74 0) (.seq (rG Tryz.f74 1) (.seq (rG Tryz.f74 2) .ret))):=k_
theorem tE(n c:Int)(r:0<room)(i:room<9223372036854775808)(h:dB w cb fl W on sl)(k:w.heap[rb]?=some (.cells (ox cb room false) 75)):Calls lT 74 #[.pk rb 0, .i n, .i c] w λe w'=>e= .returned (.agg (cH 0 false 0 0 c))/\dB w' cb fl W on sl/\w'.heap[rb]?=some (.cells (ox cb (room- 1) false) 75)/\Ex (XR cb rb) w w':=by
 refine eU (t:=6) (ty:=36) (n:=5) Lf.func74 rfl (by rw[bY];exact Tryz.underlying36) rfl kw λC=> ?_;rw[aV (N:=12) [.pk rb 0, .i n, .i c] Lf.func74 Je rfl];have d:=aN [.pk rb 0, .i n, .i c] 12 s_;refine Rn.al d (λo f=>iB f) λA a l x z d=> ?_;have B:=h.lt;have s:=bH k;have v:=h.ex (Ex.of_below (X:=λ_=>False) l) (λe=>e)
 iterate 2 refine Rn.uc d λa d=> ?_
 refine Rn.cw d Lf.func73 (pZ n r i v (bk l k)) λq ⟨u,j,m,y⟩ a d=> ?_;have p:=m.at (by rintro(e|e)<;>omega) x;refine Rn.uc d λa d=> ?_;refine Rn.vv d (λo f=>KA f (d.G 10)) λa d=> ?_;refine Rn.nn d (λo f=>gf f (d.G 6) (d.G 11) p rfl) λa d=> ?_;have g:=dQ (w:=q) w.heap.size (cH 0 false 0 0 c) 36;refine Rn.runs 6 _ (Rn.ends rfl (.inr ⟨_,rfl⟩) (Rn.now ⟨_,_,w.heap.size,_,_,rfl,d.defers,d.slot 6 _ rfl,co p,rfl,rfl,u.ex g o_,g.at o_ j, ?_⟩));exact((Ex.of_below l).trans m λb _ e=>e).trans g λb k e=>o_
theorem Jf:Tryz.f77.body=some (.seq (rG Tryz.f77 0) (.seq (rG Tryz.f77 1) (.seq (rG Tryz.f77 2) (.seq (rG Tryz.f77 3) .ret)))):=k_
theorem IB(n c:Int)(x:0<room)(k:room<9223372036854775808)(h:dB w cb fl W on sl)(g:w.heap[rb]?=some (.cells (ox cb room false) 75)):Calls lT 77 #[.pk rb 0, .i n, .i c] w λe w'=>e= .returned (.agg (cH 0 true n c 0))/\dB w' cb fl W true n/\w'.heap[rb]?=some (.cells (ox cb (room- 1) false) 75)/\Ex (XR cb rb) w w':=by
 refine eU (t:=6) (ty:=36) (n:=5) Lf.func77 rfl (by rw[bY];exact Tryz.underlying36) rfl kw λK=> ?_;rw[aV (N:=18) [.pk rb 0, .i n, .i c] Lf.func77 Jf rfl];have d:=aN [.pk rb 0, .i n, .i c] 18 s_;refine Rn.al d (λo f=>iB f) λI a r D G d=> ?_;have J:=h.lt;have y:=bH g;have l:=J9 h g;have B:=h.ex (Ex.of_below (X:=λ_=>False) r) (λe=>e);have q:=bk r g
 iterate 5 refine Rn.uc d λa d=> ?_
 refine Rn.cw d Lf.func92 (Is n B) λH ⟨A,j,F⟩ a d=> ?_;have p:=j.at (LZ l) q;have C:=j.at o_ D;refine Rn.uc d λa d=> ?_;refine Rn.cw d Lf.func73 (pZ 9 x k A p) λv ⟨z,m,s,E⟩ a d=> ?_;have u:=s.at (by rintro(e|e)<;>omega) C
 iterate 2 refine Rn.uc d λa d=> ?_
 refine Rn.vv d (λo f=>KB f rfl (d.G 15) (d.G 16)) λa d=> ?_;refine Rn.nn d (λo f=>gf f (d.G 6) (d.G 17) u rfl) λa d=> ?_;have i:=dQ (w:=v) w.heap.size (cH 0 true n c 0) 36;refine Rn.runs 6 _ (Rn.ends rfl (.inr ⟨_,rfl⟩) (Rn.now ⟨_,_,w.heap.size,_,_,rfl,d.defers,d.slot 6 _ rfl,co u,rfl,rfl,z.ex i o_,i.at o_ m, ?_⟩));exact(((Ex.of_below r).trans j λb _ e=> .inl e).trans s λb _ e=>e).trans i λb g e=>o_
theorem Pq:Tryz.f76.body=some (.seq (rG Tryz.f76 0) (.seq (rG Tryz.f76 1) (.seq (rG Tryz.f76 2) (.seq (rG Tryz.f76 3) .ret)))):=k_
theorem Gx{L:ByteArray}(k:Nat)(v:k<2)(h:dB w cb fl W on sl)(p:j9 w fl L):Calls lT 76 #[.pk cb 0, .i k] w λe w'=>e= .returned (.s (L.extract (k*8192) (k*8192+8192)))/\w'=w:=by
 obtain⟨r,s,u,d,B,rfl,i,f,_,g⟩:=p;obtain⟨z,K,A,_,y⟩:=h;refine aT (t:=4) Lf.func76 rfl λC=> ?_;rw[aV (N:=31) [.pk cb 0, .i k] Lf.func76 Pq rfl];have b:=aN [.pk cb 0, .i k] 31 s_
 iterate 2 refine Rn.uc b λa b=> ?_
 refine Rn.vv b (λo c=>ko (n:=8192) c (b.G 7) rfl o_) λa b=> ?_
 iterate 5 refine Rn.uc b λa b=> ?_
 refine Rn.vv b (λo c=>BX (n:=16384) c (b.G 8) (b.G 13)) λa b=> ?_;rw[show min (k*8192) 16384=k*8192 by omega]at b
 iterate 2 refine Rn.uc b λa b=> ?_
 refine Rn.vv b (λo c=>cS (n:=8192) c (b.G 15) rfl o_) λa b=> ?_
 iterate 5 refine Rn.uc b λa b=> ?_
 refine Rn.vv b (λo c=>BX (n:=16384) c (b.G 16) (b.G 21)) λa b=> ?_;rw[show min (k*8192+8192) 16384=k*8192+8192 by omega]at b
 iterate 7 refine Rn.uc b λa b=> ?_
 refine Rn.vv b (λo c=>KM c (b.G 26) (b.G 27) (b.G 28) o_ o_) λa b=> ?_;have q:L.data.toList.length=16384:=by rw[LO];exact r
 have l:(va L.data.toList (k*8192) (k*8192+8192)).length=k*8192+8192- k*8192:=nJ _ _ _ o_;rw[←l]at b;refine Rn.vv b (λo c=>Ku c (b.G 29) λj x=> ?_) λa b=> ?_
 ·have m:j<8192:=o_
  have e:(va L.data.toList (k*8192) (k*8192+8192))[j]=L.data.toList[k*8192+j]:=by simp[va]
  rw[e,show w.cell? ⟨s,k*8192+j,none⟩=d[k*8192+j]? from by simp[AB,f]];exact g _ o_
 rw[←fW]at b;refine Rn.uc b λa b=> ?_;exact Rn.fi b ⟨rfl,rfl⟩
end
end L1
section
open Go.RowKit
def kr(x:Int):Int:=
 let a:=LX.wrap (bits .and .u64 (x/2^1) 6148914691236517205+bits .and .u64 x 6148914691236517205)
 let b:=LX.wrap (bits .and .u64 (a/2^2) 3689348814741910323+bits .and .u64 a 3689348814741910323)
 let c:=bits .and .u64 (LX.wrap (b/2^4+b)) 1085102592571150095
 let d:=LX.wrap (c+c/2^8)
 let e:=LX.wrap (d+d/2^16)
 let f:=LX.wrap (e+e/2^32)
 bits .and .i64 (A8.wrap f) 127
def FJ(a b c:Nat):Nat:=((a&&&b)|||(a&&&c))|||(b&&&c)
def BJ(W:List Int):Bool:=(W.getD 0 0==255||W.getD 0 0==3855||W.getD 0 0==13107||W.getD 0 0==21845)&&W.getD 0 0==W.getD 1 0
def se(W:List Int):Nat:=FJ (W.getD 2 0).toNat (W.getD 3 0).toNat (W.getD 4 0).toNat
def Ed(W:List Int):Bool:=se W&&&(se W+1)==0
def kY(W:List Int)(k:Nat):List Int:=(W.drop (5+20*k)).take 20
def nR(x y:Int):Bool:=(x==y)&&(x==4080||x==61455)
def iu(L:List Int):Bool:=nR (L.getD 0 0) (L.getD 1 0)&&nR (L.getD 2 0) (L.getD 3 0)
def fP(L:List Int):Bool:=(L.getD 0 0==4080)&&(L.getD 2 0==61455)
def eF(L:List Int):List UInt8:=L.flatMap λx=>cQ x.toNat 2
def p8(W:List Int):Bool:=BJ W&&Ed W&&(Ak 4).all λk=>iu (kY W k)
def lg(W:List Int):List Bool:=(Ak 4).map λk=>fP (kY W k)
def qk(W:List Int):List ByteArray:=(Ak 4).map λk=>⟨(eF ((kY W k).drop 4)).toArray⟩
def gD(W:List Int):Prop:=W.length=85/\∀i,i<85->0<=W.getD i 0/\W.getD i 0<65536
def Sy(W:List Int)(st le c:Int)(us:List Bool)(hs:List ByteArray):Prop:=(p8 W=true/\c=0/\st=W.getD 0 0/\le=kr (se W)/\us=lg W/\hs=qk W)\/(p8 W=false/\c=1)
end
namespace L1
open Go.Conc Go.RowKit
def Q0(W:List Int)(w:World)(v:Value)(w':World):Prop:=∃st le c pu lu qu ph lh qh us hs,v= .tuple #[.agg (ik st le (.slice pu lu qu) (.slice ph lh qh)), .int .i64 c]/\Sy W st le c us hs/\Bw w w'/\
 (c=0->∃bu bh,pu=some ⟨bu,0,none⟩/\lu=4/\qu=4/\ph=some ⟨bh,0,none⟩/\lh=4/\qh=4/\w'.heap[bu]?=some (.cells (us.map Value.bool).toArray 4)/\w'.heap[bh]?=some (.cells (hs.map Value.string).toArray 9))
def rJ:Prop:=∀(W:List Int) (w:World) (cb off q:Nat),85<=q->gD W->w.rangeAt cb off (W.map (Value.int .i64))->cb<w.heap.size->
 Calls (aI true Tryz.prog) 36 #[.slice (some ⟨cb,off,none⟩) 85 q] w λe w'=>∃v,e= .returned v/\Q0 W w v w'
def EB(f:Func):Code:= .block 1 (.seq (rG f 4) (.cond (.tmp 15) (.seq (rG f 5) .ret) .skip))
def Dw(f:Func)(T:Array Value)(ld:Nat)(st:LoopState)(pd:Option Code):Loop:={state:=st,pending:=pd,fn:=90,tmps:=T,params:=#[12],assign:= .region 3 (bX f 3) false,body:=EB f,defers:=ld}
section
variable{b5 ld:Nat}{fz:Array Value}{x:ByteArray}{T:Array Value}{cf:Frame}
theorem Nv(hT:aW [(4, .pt b4),(5, .pt b5)] 16 [] ⟨T,[]⟩)(hl:w0.heap.size<=l)(hb:w0.heap.size<=b4){h:ByteArray}
 (hC:Cv 48 4 9 w0 b3 b4 b5 l ld (Dw Tryz.f90 T ld .ready none) fz x false w)
 (nt:(h.data.toList==x.data.toList)=false->∀w',Cv 48 4 9 w0 b3 b4 b5 l ld (Dw Tryz.f90 T ld .ready none) fz x false w'->Rn lT Goal (cf.finish (.bool true)) cs w')
 (nq:(h.data.toList==x.data.toList)=true->∀w',Cv 48 4 9 w0 b3 b4 b5 l ld (Dw Tryz.f90 T ld .done (some .ret)) fz x true w'->Rn lT Goal (cf.finish (.bool false)) cs w'):
 Rn lT Goal (Frame.round l 90 (((#[12]:Array Tmp).zip #[.s h]).foldl (λtmps (t,a)=>tmps.setIfInBounds t a) T) (rG Tryz.f90 3) (EB Tryz.f90) .normal) (cf::cs) w:=by
 have hF:=hT.put (d:=12) d_ (.s h);have ez:((#[12]:Array Tmp).zip #[.s h]).foldl (λ(tmps:Array Value) (x:Tmp×Value)=>match x with|(t,a)=>tmps.setIfInBounds t a) T=T.setIfInBounds 12 (.s h):=s_
 rw[ez];show Rn _ Goal ((rb 90 l).atR (Act.put ⟨T,[]⟩ (some 12) (.s h)) [.code (rG Tryz.f90 3), .beginRound, .code (EB Tryz.f90)]) (cf::cs) w;revert hF;generalize Act.put ⟨T,[]⟩ (some 12) (.s h)=a;intro hF;refine Rn.r (L:=[0]) rfl (Rn.S hF 6 12 rfl λa hF=> ?_);refine Rn.p rfl (Rn.rounds (r:=Dw Tryz.f90 T ld .ready none) rfl hC.loop rfl ?_);have hC1:=hC.turn hl (Dw Tryz.f90 T ld .busy none);refine Rn.uu hF λa hF=> ?_;refine Rn.vv hF (λo ho=>(aP (v:= .s x) bM ho (hF.G 5) ((aK hC1.hsh 0).trans rfl)).1) λa hF=> ?_;refine Rn.uu hF λa hF=> ?_;refine Rn.p rfl (Rn.cond _ (hF.G 15) ?_);cases he:(h.data.toList==x.data.toList)with
 |true=>
  refine Rn.nn hF (λo ho=>(eK (v:= .bool true) (v0:= .bool false) rfl rfl k_ ho (hF.G 4) rfl ((aK hC1.res 0).trans rfl) (by simp[Hv,hC1.res])).1) λa hF=> ?_;have hC2:=hC1.put d_ d_ hb true;exact Rn.p rfl (Rn.quits rfl rfl hC2.loop (nq he _ (hC2.turn hl _)))
 |false=>
  exact Rn.p rfl (Rn.p rfl (Rn.through rfl rfl hC1.loop (nt he _ (hC1.turn hl _))))
end
def Iq(f:Func):Code:= .seq (rG f 1) (.seq (.cond (.tmp 12) .skip (.exit 0)) (.seq (.block 1 (.seq (rG f 2) (.seq (rG f 3) (.cond (.tmp 28) .ret .skip)))) (rG f 4)))
theorem M3:Tryz.f101.body=some (.seq (rG Tryz.f101 0) (.block 0 (.loop (Iq Tryz.f101)))):=k_
theorem BA(us:List Bool)(hs:List ByteArray)(x:ByteArray)(i:Nat)(u:Bool)(h:ByteArray)(b:us[i]?=some u)(a:hs[i]?=some h):dh (us.drop i) (hs.drop i) x=((u&&h.data.toList==x.data.toList)||dh (us.drop (i+1)) (hs.drop (i+1)) x):=by obtain⟨d,rfl⟩:=a44.1 b;obtain⟨c,rfl⟩:=a44.1 a;rw[Y4 d,Y4 c];rfl
theorem EU(us:List Bool)(hs:List ByteArray)(x:ByteArray)(i:Nat)(h:min us.length hs.length<=i):dh (us.drop i) (hs.drop i) x=false:=by
 rcases(o_:us.length<=i\/hs.length<=i)with h|h
 ·rw[Yx h];rfl
 ·rw[Yx h];cases us.drop i<;>rfl
section
variable{b5 ld:Nat}{st le:Int}{vu vh:Value}{x:ByteArray}{us:List Bool}{hs:List ByteArray}{T:Array Value}{cf:Frame}
theorem FQ(hT:aW [(4, .pt b4),(5, .pt b5)] 16 [] ⟨T,[]⟩)(hl:w0.heap.size<=l)(hb:w0.heap.size<=b4)(hU:sW w0 vu (us.map .bool))(hH:sW w0 vh (hs.map .string))(hlu:us.length<4611686018427387904)
 (nf:dh us hs x=false->∀w',Cv 48 4 9 w0 b3 b4 b5 l ld (Dw Tryz.f90 T ld .ready none) (ik st le vu vh) x false w'->Rn lT Goal (cf.finish (.tuple #[])) cs w')
 (nq:dh us hs x=true->∀w',Cv 48 4 9 w0 b3 b4 b5 l ld (Dw Tryz.f90 T ld .done (some .ret)) (ik st le vu vh) x true w'->Rn lT Goal (cf.finish (.tuple #[])) cs w'):
 ∀(m i:Nat) (a:Act) (w:World),min us.length hs.length- i=m->i<=min us.length hs.length->dh us hs x=dh (us.drop i) (hs.drop i) x->aW [(0, .func (.yield l) #[] #[]),(1, .pt b3),(10, .i (min us.length hs.length:Nat)),(11, .i i)] 30 [] a->
  Cv 48 4 9 w0 b3 b4 b5 l ld (Dw Tryz.f90 T ld .ready none) (ik st le vu vh) x false w->
  Rn lT Goal ((base 101).atR a [.code (Iq Tryz.f101), .inLoop (Iq Tryz.f101), .inBlock 0]) (cf::cs) w:=by
 intro m;induction m with
 |zero=>
  intro i a w hm hi hv hF hC;refine Rn.uu hF λa hF=> ?_;refine Rn.p rfl (Rn.p rfl (Rn.cond _ (hF.G 12) ?_));rw[decide_eq_false o_];refine Rn.p rfl (Rn.ends rfl (.inl rfl) (Rn.leave (.tuple #[]) rfl hF.defers Lf.func101 k_ k_ (nf ?_ _ hC)));rw[hv];exact EU us hs x i o_
 |succ m ih=>
  intro i a w hm hi hv hF hC;have hiu:i<us.length:=o_
  have hih:i<hs.length:=o_
  obtain⟨pu,cu,eu,hcu⟩:=hU.below hC.old;obtain⟨ph,ch,eh,hch⟩:=hH.below hC.old;obtain⟨au,rfl,hcu2⟩:=hcu i (.bool us[i]) (by simp[hiu]);obtain⟨ah,rfl,hch2⟩:=hch i (.s hs[i]) (by simp[hih]);have hvd:=BA us hs x i us[i] hs[i] (by simp[hiu]) (by simp[hih]);refine Rn.uu hF λa hF=> ?_;refine Rn.p rfl (Rn.p rfl (Rn.cond _ (hF.G 12) ?_));rw[decide_eq_true o_]
  iterate 3 refine Rn.uu hF λa hF=> ?_
  refine Rn.vv hF (λo ho=>(aP (v:= .slice (some au) (us.map Value.bool).length cu) qZ ho (hF.G 14) ((aK hC.fus 1).trans (by rw[←eu];rfl))).1) λa hF=> ?_;refine Rn.uu hF λa hF=> ?_;refine Rn.uu hF λa hF=> ?_;refine Rn.vv hF (λo ho=>(aP (v:= .bool us[i]) uf ho (hF.G 17) hcu2).1) λa hF=> ?_;refine Rn.uu hF λa hF=> ?_;obtain⟨q,hq⟩:∃q,us[i]=q:=⟨_,rfl⟩;rw[hq]at hF hvd;cases q with
  |false=>
   refine Rn.G hF 20 (.move (.tmp 0)) 5 19 false (λ_=>True) rfl s_ (λh=>by cases h) λv20 a _ hF=> ?_;refine Rn.G hF 21 (.fieldAddr 48 (.tmp 1) 3) 5 19 false (λ_=>True) rfl s_ (λh=>by cases h) λv21 a _ hF=> ?_;refine Rn.G hF 22 (.load 25 (.tmp 21)) 5 19 false (λ_=>True) rfl s_ (λh=>by cases h) λv22 a _ hF=> ?_;refine Rn.G hF 23 (.move (.tmp 3)) 5 19 false (λ_=>True) rfl s_ (λh=>by cases h) λv23 a _ hF=> ?_;refine Rn.G hF 24 (.indexAddr 25 (.tmp 22) (.tmp 23)) 5 19 false (λ_=>True) rfl s_ (λh=>by cases h) λv24 a _ hF=> ?_;refine Rn.G hF 25 (.load 9 (.tmp 24)) 5 19 false (λ_=>True) rfl s_ (λh=>by cases h) λv25 a _ hF=> ?_;refine Rn.G hF 26 (.call {callee:= .value (.tmp 20),args:=#[.tmp 25],argTypes:=#[9]}) 5 19 false (λ_=>True) rfl s_ (λh=>by cases h) λv26 a _ hF=> ?_;refine Rn.G hF 27 (.unOp .not 4 (.tmp 26)) 5 19 false (λ_=>True) rfl s_ (λh=>by cases h) λv27 a _ hF=> ?_;refine Rn.vv hF (λo ho=>Kz (q:=false) (r:=false) ho (hF.G 19) (λh=>by cases h) rfl) λa hF=> ?_;refine Rn.p rfl (Rn.cond false (hF.G 28) ?_)
   iterate 2 refine Rn.uu hF λa hF=> ?_
   refine Rn.p rfl (Rn.p rfl (ih (i+1) a _ o_ o_ (hv.trans (hvd.trans s_)) (hF.only ⟨rfl,rfl,rfl,rfl,trivial⟩) hC))
  |true=>
   iterate 2 refine Rn.uu hF λa hF=> ?_
   refine Rn.G hF 22 (.load 25 (.tmp 21)) 5 19 true (λv=>v= .slice (some ah) (hs.map Value.string).length ch) rfl s_ (λ_ o ho=>aJ (aP (v:= .slice (some ah) (hs.map Value.string).length ch) fo ho (hF.G 21) ((aK hC.fus 3).trans (by rw[←eh];rfl))).1 ⟨rfl,rfl⟩) λv a hv1 hF=> ?_;obtain rfl:=hv1 rfl;refine Rn.uu hF λa hF=> ?_;refine Rn.uu hF λa hF=> ?_;refine Rn.G hF 25 (.load 9 (.tmp 24)) 5 19 true (λv=>v= .s hs[i]) rfl s_ (λ_ o ho=>aJ (aP (v:= .s hs[i]) bM ho (hF.G 24) hch2).1 ⟨rfl,rfl⟩) λv a hv1 hF=> ?_;obtain rfl:=hv1 rfl;have h26:((bX Tryz.f101 3)[12]?).map (λo=>(o.dst,o.op,o.guard))=some (some 26, .call {callee:= .value (.tmp 20),args:=#[.tmp 25],argTypes:=#[9]},some (5,true)):=k_;cases ho:(bX Tryz.f101 3)[12]? with
   |none=>rw[ho]at h26;cases h26
   |some o=>
   rw[ho]at h26;simp only[a37,Option.some.injEq,Prod.mk.injEq]at h26;obtain⟨e1,e2,e3⟩:=h26;have hw:=nY (ops:=bX Tryz.f101 3) (tmps:=a.tmps) (d:=19) e3 k_ (hF.slot 19 _ rfl);refine Rn.yields (args:=#[.s hs[i]]) ho (hw.trans rfl) (by rw[e2];simp) hC.loop rfl (λw=>jw e2 (hF.G 20) (by simp[hF.G 25]) w) ?_;refine Nv hT hl hb hC (λhne w2 hC2=> ?_) (λheq w2 hC2=> ?_)
   ·rw[BR,ho,Hk,e1];have hF:=hF.put (d:=26) d_ (.bool true);revert hF;generalize a.put (some 26) (.bool true)=a;intro hF;clear e1 e2 e3 ho;refine Rn.uu hF λa hF=> ?_;refine Rn.uu hF λa hF=> ?_;refine Rn.p rfl (Rn.cond false (hF.G 28) ?_)
    iterate 2 refine Rn.uu hF λa hF=> ?_
    refine Rn.p rfl (Rn.p rfl (ih (i+1) a _ o_ o_ (hv.trans (hvd.trans (by simp[hne]))) (hF.only ⟨rfl,rfl,rfl,rfl,trivial⟩) hC2))
   ·rw[BR,ho,Hk,e1];have hF:=hF.put (d:=26) d_ (.bool false);revert hF;generalize a.put (some 26) (.bool false)=a;intro hF;clear e1 e2 e3 ho;refine Rn.uu hF λa hF=> ?_;refine Rn.uu hF λa hF=> ?_;refine Rn.p rfl (Rn.cond true (hF.G 28) ?_);refine Rn.ends rfl (.inr ⟨_,rfl⟩) (Rn.leave (.tuple #[]) rfl hF.defers Lf.func101 k_ k_ (nq ?_ _ hC2));rw[hv,hvd,heq];rfl
end
theorem L5(a:o.op= .alloc 4):(execOp ev o).run lT w= .ok (.value (.pk w.heap.size 0)) (w.alloc (.cells #[.bool false] 4)):=by
 have e:execOp ev o=(do pure (.value (←Ee 4 true (.tuple #[])))):=by simp only[execOp,a]
 have b:(do pure (.value (←Ee 4 true (.tuple #[]))):Sem Next).run lT w= .ok (.value (.pk w.heap.size 0)) (w.alloc (.cells #[.bool false] 4)):=k_
 rw[e,b]
theorem KC{a:ByteArray}(b:o.op= .buildSlice 25 1 #[(0,x)])(d:ev x= .s a):
 (execOp ev o).run lT w= .ok (.value (.sk w.heap.size 1 1)) (w.alloc (.cells #[.s a] 9)):=by
 have e:execOp ev o=(do pure (.value (←Fi 25 1 #[(0, .s a)]))):=by simp[execOp,b,d]
 have c:(do pure (.value (←Fi 25 1 #[(0, .s a)])):Sem Next).run lT w= .ok (.value (.sk w.heap.size 1 1)) (w.alloc (.cells #[.s a] 9)):=k_
 rw[e,c]
theorem Ps:Tryz.f96.body=some (.seq (rG Tryz.f96 0) (.seq (rG Tryz.f96 1) .ret)):=k_
theorem BC(c:Array Value)(w:World):Calls lT 96 #[.agg c] w λe w'=>e= .returned (.func (.func 101) #[] #[.pk w.heap.size 0])/\w'=w.alloc (.cells c 48):=by
 refine aT (t:=2) Lf.func96 rfl λf=> ?_;rw[aV (N:=4) [.agg c] Lf.func96 Ps rfl];have b:=aN [.agg c] 4 s_;refine Rn.gr ?_;refine Rn.z b 1 0 48 rfl λa b=> ?_;show Rn _ _ _ _ (w.alloc (.cells c 48));refine Rn.uu b λa b=> ?_;refine Rn.gr ?_;refine Rn.O b 3 (.makeFunc (.func 101) #[] #[.tmp 1]) (v:= .func (.func 101) #[] #[.pk w.heap.size 0]) (w':=w.alloc (.cells c 48)) (λo d=> ?_) λa b=> ?_
 ·have:=(fB (ev:=a.eval) (w:=w.alloc (.cells c 48)) lT d).1
  rwa [show(#[Ft 1]:Array Operand).map a.eval=#[.pk w.heap.size 0]from by simp[b.G 1]]at this
 refine Rn.uu b λa b=> ?_;exact Rn.fi b ⟨rfl,rfl⟩
theorem PD:Tryz.f90.body=some (.seq (rG Tryz.f90 0) (.seq (rG Tryz.f90 1) (.seq (.seq (rG Tryz.f90 2) (.block 0 (.rangeFunc (.tmp 11) #[12] (rG Tryz.f90 3) (EB Tryz.f90)))) (.seq (rG Tryz.f90 6) .ret)))):=k_
theorem yW(KS:List Int)(O:KS.length=64)(c:ByteArray)(st le:Int)(z A:Value)(us:List Bool)(hs:List ByteArray)(w:World)(hU:sW w z (us.map .bool))(hH:sW w A (hs.map .string))(L:us.length<4611686018427387904)(a0:c.size<=281474976710656)(hK:w.rangeAt 0 0 (aH KS))(h0:0<w.heap.size):
 Calls lT 90 #[.s c, .agg (ik st le z A)] w λe w'=>e= .returned (.bool (dh us hs (qK KS [c])))/\Bw w w':=by
 refine yD (t:=4) (ty:=4) Lf.func90 rfl (λw=>(uf w).1) λcs=> ?_;rw[aV (N:=16) [.s c, .agg (ik st le z A)] Lf.func90 PD rfl];have d:=aN [.s c, .agg (ik st le z A)] 16 s_;refine Rn.zz d λw1 a Y u z1 d=> ?_;refine Rn.al d (λo i=>L5 i) λw2 a X x z2 d=> ?_;rw[z1]at d x z2;have u:=(X.block _ o_).trans u;have B2:Bw w w2:=aB Y Y.size X;clear Y X z1;refine Rn.uu d λa d=> ?_;refine Rn.al d (λo i=>KC i (d.G 7)) λH a W c8 z3 d=> ?_;have B3:Bw w H:=aB B2 B2.size W;have u:=(W.block _ o_).trans u;have x:=(W.block _ o_).trans x;refine Rn.cl d Lf.func28 (R:=λv w'=>v= .s (qK KS [c])/\Bw H w') (pX KS [c] _ H _ 1 rfl rfl c8 (SA h0 B3 hK) O (by simp;omega) s_) λv k E a d=> ?_;obtain⟨rfl,I⟩:=E;have Z:Bw w k:=aB B3 B3.size I;have z4:=I.size;have u:=(I.block _ o_).trans u;have x:=(I.block _ o_).trans x;refine Rn.al d (λo i=>(rf i).1) λy a V S z5 d=> ?_;have B5:Bw w y:=aB Z Z.size V;have u:=(V.block _ o_).trans u;have x:=(V.block _ o_).trans x;refine Rn.nn d (λo i=>(eK (v:= .s (qK KS [c])) (v0:= .string ⟨#[]⟩) rfl rfl k_ i (d.G 5) (d.G 9) ((aK S 0).trans rfl) (by simp[Hv,S])).1) λa d=> ?_;have K:Bw w (y.setCell ⟨k.heap.size,0,none⟩ (.s (qK KS [c]))):=B5.trans (ea y _ _ (by have:=Z.size;exact this));have C:(y.setCell ⟨k.heap.size,0,none⟩ (.s (qK KS [c]))).heap[k.heap.size]?=some (.cells #[.s (qK KS [c])] 9):=jv S;have d3:=(cx y (a:=⟨k.heap.size,0,none⟩) (.s (qK KS [c])) (show w.heap.size≠k.heap.size by omega)).trans u;have D:=(cx y (a:=⟨k.heap.size,0,none⟩) (.s (qK KS [c])) (show w.heap.size+1≠k.heap.size by omega)).trans x;revert K C d3 D;generalize y.setCell ⟨k.heap.size,0,none⟩ (.s (qK KS [c]))=r;intro K C d3 D;refine Rn.uu d λa d=> ?_;refine Rn.cw d Lf.func96 ((BC (ik st le z A) r)) λb s a d=> ?_;have U:Bw r b:=by rw[s];exact aZ _ _
 have c7:b.heap[r.heap.size]?=some (.cells (ik st le z A) 48):=by rw[s];exact bJ _ _
 have z7:b.heap.size=r.heap.size+1:=by rw[s];exact aQ _ _
 clear s;have B7:Bw w b:=aB K K.size U;have l5:=(gA C).1;have C:=(U.block _ l5).trans C;have l4:=(gA D).1;have D:=(U.block _ l4).trans D;refine Rn.p rfl (Rn.p rfl ?_);refine Rn.rangeAs (Dw Tryz.f90 a.tmps b.heap.size .ready none) (args:=[.func (.yield (b.heap.size+1)) #[] #[], .pk r.heap.size 0].toArray) rfl rfl Lf.func101 k_ k_ (d.G 11) rfl ?_;have B:Cv 48 4 9 w r.heap.size (w.heap.size+1) k.heap.size (b.heap.size+1) b.heap.size (Dw Tryz.f90 a.tmps b.heap.size .ready none) (ik st le z A) (qK KS [c]) false (cT b (Dw Tryz.f90 a.tmps b.heap.size .ready none)):=
  ⟨aB B7 B7.size (fZ b _),(bK b _ o_).trans c7,(bK b _ o_).trans D,(bK b _ o_).trans C,eN b _,eM b _⟩
 revert B;generalize cT b (Dw Tryz.f90 a.tmps b.heap.size .ready none)=w8;intro B;rw[aV (N:=30) _ Lf.func101 M3 rfl];have P:=aN [.func (.yield (b.heap.size+1)) #[] #[], .pk r.heap.size 0] 30 s_;revert P;generalize (Act.mk (([.func (.yield (b.heap.size+1)) #[] #[], .pk r.heap.size 0]:List Value).toArray++Array.replicate (30-([.func (.yield (b.heap.size+1)) #[] #[], .pk r.heap.size 0]:List Value).toArray.size) undef) [])=g;intro f;have M:=hU;have Q:=hH;obtain⟨pu,cu,eu,_⟩:=hU;obtain⟨ph,ch,eh,_⟩:=hH;have z8:=B.old.size;refine Rn.gr ?_;refine Rn.O f 4 (.fieldAddr 48 (.tmp 1) 1) (λo i=>Mu 1 d_ i (f.G 1)) λg f=> ?_;refine Rn.O f 5 (.load 46 (.tmp 4)) (λo i=>(aP (v:= .slice pu (us.map Value.bool).length cu) qZ i (f.G 4) ((aK B.fus 1).trans (by rw[←eu];rfl))).1) λg f=> ?_;refine Rn.O f 6 (.call {callee:= .builtin .len,args:=#[.tmp 5],argTypes:=#[46]}) (λo i=>oe (e:=4) k_ i (f.G 5)) λg f=> ?_;refine Rn.O f 7 (.fieldAddr 48 (.tmp 1) 3) (λo i=>Mu 3 d_ i (f.G 1)) λg f=> ?_;refine Rn.O f 8 (.load 25 (.tmp 7)) (λo i=>(aP (v:= .slice ph (hs.map Value.string).length ch) fo i (f.G 7) ((aK B.fus 3).trans (by rw[←eh];rfl))).1) λg f=> ?_;refine Rn.O f 9 (.call {callee:= .builtin .len,args:=#[.tmp 8],argTypes:=#[25]}) (λo i=>oe (e:=9) k_ i (f.G 8)) λg f=> ?_;refine Rn.O f 10 (.call {callee:= .builtin .min,args:=#[.tmp 6, .tmp 9],argTypes:=#[3,3]}) (λo i=>BX i (f.G 6) (f.G 9)) λg f=> ?_;refine Rn.O f 11 (.move (.const (.i 0))) (λo i=>cj (.inl i)) λg f=> ?_;rw[VF,VF]at f;refine Rn.p rfl (Rn.p rfl (Rn.p rfl ?_));have hT:aW [(4, .pt (w.heap.size+1)),(5, .pt k.heap.size)] 16 [] a:=d.only ⟨rfl,rfl,trivial⟩;have l:aW [(4, .pt (w.heap.size+1))] 16 [{target:= .collected b.heap.size,args:=#[]}] ⟨a.tmps,{target:= .collected b.heap.size,args:=#[]}::a.defers⟩:=⟨by rw[d.defers],d.size,(d.only (G:=[(4, .pt (w.heap.size+1))]) ⟨rfl,trivial⟩).slot⟩;have F:∀(p:World) (q:Bool),p.heap[w.heap.size+1]?=some (.cells #[.bool q] 4)->AB {p with heap:=p.heap.setIfInBounds b.heap.size (.deferred none)} ⟨w.heap.size+1,0,none⟩=some (.bool q):=λp q h=>
  (aK (w:={p with heap:=p.heap.setIfInBounds b.heap.size (.deferred none)}) ((sN o_).trans h) 0).trans rfl
 refine FQ (T:=a.tmps) (w0:=w) ⟨rfl,hT.size,hT.slot⟩ o_ o_ M Q L (λE p m=> ?_) (λE p m=> ?_) _ 0 g w8 rfl (Nat.zero_le _) rfl (f.only ⟨rfl,rfl,rfl,rfl,trivial⟩) B
 ·show Rn lT _ ((base 90).atR ⟨a.tmps,{target:= .collected b.heap.size,args:=#[]}::a.defers⟩ (.endRangeFunc (b.heap.size+1)::_)) cs p;revert l;generalize (Act.mk a.tmps ({target:= .collected b.heap.size,args:=#[]}::a.defers))=J;intro l;refine Rn.rangeOver m.loop rfl rfl ?_;have j:=m.turn o_ (Dw Tryz.f90 a.tmps b.heap.size .exhausted none);refine Rn.gr ?_;refine Rn.does0 l (.store 4 (.tmp 4) (.const (.bool false))) k_ s_ (λo i=>(eK (v:= .bool false) (v0:= .bool false) rfl rfl k_ i (l.G 4) rfl ((aK j.res 0).trans rfl) (by simp[Hv,j.res])).1) λJ l=> ?_;have n:=j.put d_ d_ o_ false;refine Rn.p rfl (Rn.ends rfl (.inr ⟨_,rfl⟩) (Rn.take (ds:=[]) l.defers n.list (Rn.now ⟨⟨J.tmps,[]⟩,_,⟨w.heap.size+1,0,none⟩, .bool false,rfl,rfl,l.slot 4 _ rfl,F _ _ n.res, ?_,n.old.trans (fN _ _ o_)⟩)));rw[E]
 ·show Rn lT _ ((base 90).atR ⟨a.tmps,{target:= .collected b.heap.size,args:=#[]}::a.defers⟩ (.endRangeFunc (b.heap.size+1)::_)) cs p;revert l;generalize (Act.mk a.tmps ({target:= .collected b.heap.size,args:=#[]}::a.defers))=J;intro l;refine Rn.rangeQuit m.loop rfl rfl ?_;have j:=m.turn o_ (Dw Tryz.f90 a.tmps b.heap.size .exhausted (some .ret));refine Rn.ends rfl (.inr ⟨_,rfl⟩) (Rn.take (ds:=[]) l.defers j.list (Rn.now ⟨⟨J.tmps,[]⟩,_,⟨w.heap.size+1,0,none⟩, .bool true,rfl,rfl,l.slot 4 _ rfl,F _ _ j.res, ?_,j.old.trans (fN _ _ o_)⟩));rw[E]
end L1
section
open Go.Conc Go.RowKit
theorem i8{R:Ending->World->Prop}{t u:Tmp}(d:P.funcs[f]?=some fn)(b:fn.results=#[.tmp t, .tmp u])
 (h:∀cs,Rn P (λg w'=>∃(a:Act) (k:List Item) (v v':Value),g=gB {(base f).atR a k with mode:= .returning} cs/\a.defers=[]/\a.tmps[t]?=some v/\a.tmps[u]?=some v'/\R (.returned (.tuple #[v,v'])) w') (a49 P f args .normal) cs w):Calls P f args w R:=λcs=>by obtain⟨m,w',l,a,k,v,v',rfl,j,i,c,e⟩:=h cs;refine⟨.returned (.tuple #[v,v']),w',{(base f).atR a k with mode:= .returning},e,Wu l,rfl,rfl,j,rfl,fn,d, ?_⟩;show(results fn a.tmps).run P w'=_;simp[results,b,i,c]
theorem nu(L:List UInt8)(h:L.length<=4):∃n:Nat,et L=n/\n<4294967296:=by obtain⟨b,a⟩:=pY L 4 h;exact⟨(et L).toNat,o_,o_⟩
theorem IH(s:ByteArray)(h:(mO s.data.toList).2=0):∃(v en:Int) (d a l:Nat) (k:List UInt8),mO s.data.toList=(CG v d en a l k,0)/\8192<=s.size/\78<=d/\d<=a/\a+l<=8192/\k.length<=56:=by
 have e:s.data.toList.length=s.size:=by rw[LO];rfl
 unfold mO at h⊢;split at h
 ·cases h
 ·rename_i j;rw[if_neg j];split at h
  ·cases h
  ·rename_i i;rw[if_neg i];have c:=λa b (h:b<=8192)=>nJ s.data.toList a b o_;obtain⟨d,o,r⟩:=nu (va s.data.toList 6 10) (by rw[c _ _ o_];omega);obtain⟨a,n,q⟩:=nu (va s.data.toList 14 18) (by rw[c _ _ o_];omega);obtain⟨l,m,p⟩:=nu (va s.data.toList 18 22) (by rw[c _ _ o_];omega);rw[o,n,m]at h⊢;unfold sP at h⊢;split at h
   ·cases h
   ·rename_i g;rw[if_neg g];split at h
    ·cases h
    ·rename_i f;rw[if_neg f];exact⟨_,_,d,a,l,_,rfl,o_,o_,o_,o_,by rw[c _ _ o_];omega⟩
end
namespace L1
open Go.Conc Go.RowKit
def ja(KS:List Int)(s:ByteArray)(le:Int)(us:List Bool)(hs:List ByteArray)(n c:Int):Prop:=
 ((mO s.data.toList).2≠0/\n=0/\c=(mO s.data.toList).2)\/∃(v en:Int) (sg a l:Nat) (k:List UInt8),mO s.data.toList=(CG v sg en a l k,0)/\
   ((v<le/\n=0/\c=7)\/(le<=v/\dh us hs (qK KS [⟨k.toArray⟩])=false/\n=0/\c=8)\/
     (le<=v/\dh us hs (qK KS [⟨k.toArray⟩])=true/\∃d,sV KS ⟨k.toArray⟩ (s.extract 0 sg) (s.extract a (a+l)) d/\((d≠0/\n=0/\c=d)\/(d=0/\n=en/\c=0))))
theorem tv(KS:List Int)(key msg sig:ByteArray):∃c,sV KS key msg sig c:=by
 unfold sV;by_cases a:i2 key
 ·by_cases b:kl (gP key) (hK key) (nK key) sig
  ·by_cases d:(pN KS key msg sig).data.toList=(key.extract 24 key.size).data.toList
   ·exact⟨0, .inr (.inr (.inr ⟨a,b,d,rfl⟩))⟩
   ·exact⟨10, .inr (.inr (.inl ⟨a,b,d,rfl⟩))⟩
  ·exact⟨10, .inr (.inl ⟨a,b,rfl⟩)⟩
 ·exact⟨9, .inl ⟨a,rfl⟩⟩
theorem Kd(KS:List Int)(a:KS.length=64)(key msg sig:ByteArray)(f:msg.size<=281474976706560)(hs:sig.size<=1125899906842624):∃c,sV KS key msg sig c/\∀w:World,w.rangeAt 0 0 (aH KS)->0<w.heap.size->Calls lT 91 #[.s key, .s msg, .s sig] w λe w'=>e= .returned (.i c)/\Bw w w':=by obtain⟨c,b⟩:=tv KS key msg sig;exact⟨c,b,λw h g=>(vf KS a key msg sig f hs w h g).mono λe w' ⟨d,k,j,i⟩=>⟨by rw[k,Dx j b],i⟩⟩
theorem L4(a:o.op= .alloc 133):(execOp ev o).run lT w= .ok (.value (.pk w.heap.size 0)) (w.alloc (.cells jg.toArray 133)):=by
 have e:execOp ev o=(do pure (.value (←Ee 133 true (.tuple #[])))):=by simp only[execOp,a]
 have b:(do pure (.value (←Ee 133 true (.tuple #[]))):Sem Next).run lT w= .ok (.value (.pk w.heap.size 0)) (w.alloc (.cells jg.toArray 133)):=k_
 rw[e,b]
theorem QJ(j:Nat)(f:j<6)(a:o.op= .fieldAddr 133 x j)(c:ev x= .pk b 0):(execOp ev o).run lT w= .ok (.value (.pk b j)) w:=by
 have e:execOp ev o=(do pure (.value (←a53 133 (.pk b 0) j))):=by simp only[execOp,a,c]
 have d:(do pure (.value (←a53 133 (.pk b 0) j)):Sem Next).run lT w= .ok (.value (.pk b j)) w:=by rcases(o_:j=0\/j=1\/j=2\/j=3\/j=4\/j=5)with rfl|rfl|rfl|rfl|rfl|rfl<;>kernel_rfl
 rw[e,d]
theorem Ot:(lT.info? 133).map (·.size)=some 6:=k_
theorem PK:Tryz.f75.body=some (.seq (rG Tryz.f75 0) (.seq (rG Tryz.f75 1) (.seq (.seq (rG Tryz.f75 2) (.cond (.tmp 14) (.seq (rG Tryz.f75 3) .ret) .skip)) (.seq (.seq (rG Tryz.f75 4) (.cond (.tmp 20) (.seq (rG Tryz.f75 5) .ret) .skip)) (.seq (.seq (rG Tryz.f75 6) (.cond (.tmp 25) (.seq (rG Tryz.f75 7) .ret) .skip)) (.seq (rD Tryz.f75 8) (.seq (.seq (rG Tryz.f75 9) (.cond (.tmp 43) (.seq (rG Tryz.f75 10) .ret) .skip)) (.seq (rG Tryz.f75 11) .ret)))))))):=k_
theorem Gt(KS:List Int)(E:KS.length=64)(s:ByteArray)(st le:Int)(i j:Value)(us:List Bool)(hs:List ByteArray)(w:World)(hU:sW w i (us.map .bool))(hH:sW w j (hs.map .string))(P:us.length<4611686018427387904)(O:s.size<=281474976000000)(U:w.rangeAt 0 0 (aH KS))(K:0<w.heap.size):
 Calls lT 75 #[.s s, .agg (ik st le i j)] w λe w'=>∃n c,e= .returned (.tuple #[.i n, .i c])/\ja KS s le us hs n c/\Bw w w':=by
 refine i8 (t:=4) (u:=5) Lf.func75 rfl λcs=> ?_;rw[aV (N:=47) [.s s, .agg (ik st le i j)] Lf.func75 PK rfl];have b:=aN [.s s, .agg (ik st le i j)] 47 s_;refine Rn.gr ?_;refine Rn.z b 3 1 48 rfl λa b=> ?_;show Rn _ _ _ _ (w.alloc (.cells (ik st le i j) 48));have H:=aZ w (.cells (ik st le i j) 48);have p:=bJ w (.cells (ik st le i j) 48);have R:=aQ w (.cells (ik st le i j) 48);revert H p R;generalize w.alloc (.cells (ik st le i j) 48)=w1;intro H p R
 iterate 3 refine Rn.uu b λa b=> ?_
 refine Rn.cw b Lf.func89 ((IG s w1 O)) λf L a b=> ?_;have Z:Bw w f:=aB H H.size L;have z2:=L.size;have p:=(L.block _ o_).trans p
 iterate 3 refine Rn.uu b λa b=> ?_
 refine Rn.vv b (λo C=>L4 C) λa b=> ?_;have x:=aZ f (.cells jg.toArray 133);have G:=bJ f (.cells jg.toArray 133);revert x G;generalize f.alloc (.cells jg.toArray 133)=M;intro x G;have p:=(x.block _ o_).trans p;have m:=Lj s.data.toList;have B:=Li s.data.toList;refine Rn.nn b (λo C=>db (cells:=(mO s.data.toList).1.toArray) C (b.G 6) (b.G 11) G (by rw[Ot,Gh,m]) (by rw[Gh,Gh,m];rfl) (by rw[Array.all_eq_true'];intro v y;exact B v (by simpa using y))) λa b=> ?_;have h:=setRow_heap M f.heap.size _ (mO s.data.toList).1.toArray _ _ G;have g:Bw f (M.setRow f.heap.size (mO s.data.toList).1.toArray):=x.trans (ei _ _ _ (a36 _));have V:=(g.block _ (o_:w.heap.size<f.heap.size)).trans ((x.block _ o_).symm.trans p);revert h g V;generalize M.setRow f.heap.size (mO s.data.toList).1.toArray=S;intro h g V;have g:Bw w S:=aB Z Z.size g;refine Rn.uu b λa b=> ?_;clear H L x p G
 iterate 2 refine Rn.uu b λa b=> ?_
 refine Rn.p rfl (Rn.cond _ (b.G 14) ?_);by_cases J:(mO s.data.toList).2=0
 ·rw[show((mO s.data.toList).2 !=0)=false from by simpa using J];obtain⟨v,F,q,d,l,k,D,g1,g2,g3,g4,g5⟩:=IH s J;rw[D]at h;have e3:((d+l:Nat):Int)=(d:Int)+l:=NY _ _
  iterate 5 refine Rn.uu b λa b=> ?_
  refine Rn.p rfl (Rn.cond _ (b.G 20) ?_);by_cases Q:v<le
  ·rw[decide_eq_true Q]
   iterate 2 refine Rn.uu b λa b=> ?_
   exact Rn.fj b ⟨0,7,rfl, .inr ⟨v,F,q,d,l,k,D, .inl ⟨Q,rfl,rfl⟩⟩,g⟩
  rw[decide_eq_false Q];refine Rn.vv b (λo C=>QJ 5 d_ C (b.G 6)) λa b=> ?_
  iterate 2 refine Rn.uu b λa b=> ?_
  refine Rn.cw b Lf.func90 ((yW KS E ⟨k.toArray⟩ st le i j us hs S (hU.below g) (hH.below g) P (by show k.toArray.size<=_;rw[Gh];omega) (SA K g U) (a38 K g.size))) λw5 X a b=> ?_;have r:Bw w w5:=aB g g.size X;have h:=(X.block _ (gA h).1).trans h;refine Rn.uu b λa b=> ?_;refine Rn.p rfl (Rn.cond _ (b.G 25) ?_);cases y:dh us hs (qK KS [⟨k.toArray⟩])with
  |false=>
   iterate 2 refine Rn.uu b λa b=> ?_
   exact Rn.fj b ⟨0,8,rfl, .inr ⟨v,F,q,d,l,k,D, .inr (.inl ⟨o_,y,rfl,rfl⟩)⟩,r⟩
  |true=>
   obtain⟨c,T,A⟩:=Kd KS E ⟨k.toArray⟩ (s.extract 0 q) (s.extract d (d+l)) (by rw[a52];omega) (by rw[a52];omega);have b:aW [(6, .pt f.heap.size),(0, .s s)] 47 [] a:=b.only ⟨rfl,rfl,trivial⟩;refine Rn.p rfl (Rn.p rfl ?_);refine Rn.tab (v:= .i c) b [(26, .pk f.heap.size 5),(27, .string ⟨k.toArray⟩),(28, .s s),(29, .pk f.heap.size 1),(30, .i q),(31, .s (s.extract 0 q)),(32, .s s),(33, .pk f.heap.size 3),(34, .i d),(35, .pk f.heap.size 3),(36, .i d),(37, .pk f.heap.size 4),(38, .i l),(39, .i (d+l:Nat)),(40, .s (s.extract d (d+l))),(41, .i c),(7, .i c)] [28,32,7] 7
    ⟨tq,
     λz=>dv (aP bM z.e (z.k 26) ((aK ((z.b.block _ (gA h).1).trans h) 5).trans rfl)).1,
     tq,
     tq,
     λz=>dv (t6 z.e (z.k 28) (z.k 30) o_),
     tq,
     tq,
     tq,
     tq,
     tq,
     tq,
     λz=>CR (tX (u:=3) z.e (z.k 36) (z.k 38) o_) (by rw[e3]),
     λz=>dv (fA z.e (z.k 32) (z.k 34) (z.k 39) o_ o_).1,
     λz=>z.c3 (z.k 27) (z.k 31) (z.k 40) (A _ (SA K (aB r r.size z.b) U) (a38 K (aB r r.size z.b).size)),
     trivial⟩ λa w6 ⟨W,b⟩=> ?_
   have Y:Bw w w6:=aB r r.size W;have h:=(W.block _ (gA h).1).trans h
   iterate 2 refine Rn.uu b λa b=> ?_
   refine Rn.p rfl (Rn.cond _ (b.G 43) ?_);by_cases I:c=0
   ·rw[show(c !=0)=false from by simpa using I]
    iterate 4 refine Rn.uu b λa b=> ?_
    exact Rn.fj b ⟨F,0,rfl, .inr ⟨v,F,q,d,l,k,D, .inr (.inr ⟨o_,y,c,T, .inr ⟨I,rfl,rfl⟩⟩)⟩,Y⟩
   ·rw[show(c !=0)=true from by simpa using I]
    iterate 3 refine Rn.uu b λa b=> ?_
    exact Rn.fj b ⟨0,c,rfl, .inr ⟨v,F,q,d,l,k,D, .inr (.inr ⟨o_,y,c,T, .inl ⟨I,rfl,rfl⟩⟩)⟩,Y⟩
 ·rw[show((mO s.data.toList).2 !=0)=true from by simpa using J]
  iterate 3 refine Rn.uu b λa b=> ?_
  exact Rn.fj b ⟨0,_,rfl, .inl ⟨J,rfl,rfl⟩,g⟩
theorem yB{u:Int}{us:List Bool}{hs:List ByteArray}{n t c':Int}(h:ja KS s u us hs n c)(g:ja KS s u us hs t c'):n=t/\c=c':=by
 rcases h with⟨G,rfl,rfl⟩|⟨v,K,C,a,l,k,z,h⟩
 ·rcases g with⟨_,rfl,rfl⟩|⟨B,q,i,A,w,x,r,_⟩
  ·exact⟨rfl,rfl⟩
  ·exact absurd (by rw[r]) G
 ·rcases g with⟨F,_,_⟩|⟨B,q,i,A,w,x,r,g⟩
  ·exact absurd (by rw[z]) F
  ·have e:=z.symm.trans r;simp only[CG,Prod.mk.injEq,List.cons.injEq,Value.int.injEq,Value.string.injEq,true_and,and_true]at e;obtain⟨rfl,J,rfl,I,H,D⟩:=e;obtain rfl:C=i:=o_
   obtain rfl:a=A:=o_
   obtain rfl:l=w:=o_
   obtain rfl:k=x:=by simpa using D
   rcases h with⟨y,rfl,rfl⟩|⟨y,p,rfl,rfl⟩|⟨y,p,d,E,h⟩<;>rcases g with⟨j,rfl,rfl⟩|⟨j,b,rfl,rfl⟩|⟨j,b,L,m,g⟩
   ·exact⟨rfl,rfl⟩
   ·omega
   ·omega
   ·omega
   ·exact⟨rfl,rfl⟩
   ·rw[p]at b;cases b
   ·omega
   ·rw[p]at b;cases b
   ·obtain rfl:=Dx E m;rcases h with⟨o,rfl,rfl⟩|⟨o,rfl,rfl⟩<;>rcases g with⟨f,rfl,rfl⟩|⟨f,rfl,rfl⟩
    ·exact⟨rfl,rfl⟩
    ·exact absurd f o
    ·exact absurd o f
    ·exact⟨rfl,rfl⟩
end L1
section
open Go.Conc Go.RowKit
section
variable{b:Frame}{k:List Item}
def gN(ops:Array Oper)(F:List (Nat×Value)):Option (Nat×Bool)->Bool
 |none=>false
 |some (g,q)=>match (ops[g]?).bind (·.dst)with
  |some s=>match F.lookup s with
   |some (.bool r)=>r !=q
   |_=>false
  |none=>false
theorem G8{e:Option (Nat×Bool)}(f:aW F N ds a)(h:o.guard=e)(b:gN ops F e=true):a39 o (yielded ops a.tmps)=false:=by
 unfold a39 yielded;rw[h];cases e with
 |none=>cases b
 |some i=>
  obtain⟨g,q⟩:=i;simp only[gN]at b;cases c:(ops[g]?).bind (·.dst)with
  |none=>rw[c]at b;simp at b
  |some s=>
   rw[c]at b;simp only at b;cases d:F.lookup s with
   |none=>rw[d]at b;simp at b
   |some u=>
    rw[d]at b;cases u with
    |bool r=>simpa[c,f.slot s _ d]using b
    |_=>simp at b
theorem Rn.us{e:List Item}{d:Tmp}{p:Op}{g:Option (Nat×Bool)}(f:aW F N ds a)(next:∀a',aW ((d,undef)::F) N ds a'->Rn P Goal (b.atR a' (.inRegion ops rest::e)) cs w)(l:mc 6 (b.atR a k)= .inRegion ops (m::rest)::e:=by rfl)
 (h:(ops[m]?).map (λo=>(o.dst,o.op,o.guard))=some (some d,p,g):=by rfl) (i:gN ops F g=true:=by rfl) (j:d<N:=by decide):Rn P Goal (b.atR a k) cs w:=by
 refine Rn.gr ?_ l;cases c:ops[m]? with
 |none=>rw[c]at h;cases h
 |some o=>
  rw[c]at h;simp only[Option.map_some,Option.some.injEq,Prod.mk.injEq]at h;obtain⟨q,r,n⟩:=h;refine Rn.skips c (G8 f n i) ?_;rw[q];exact next _ (f.put j _)
theorem Rn.tabL{id:Nat}{fx:List (Nat×Value)}(u:aW fx N ds a)(c:List (Nat×Value))(g:List Nat)(L:List (Nat×Value))(d:jx P w fx c g ops 0 c)
 (next:∀a w',Bw w w'->aW (L++fx) N ds a->Rn P Goal (b.atR a k) cs w') (e:P.follows .mixedOrders=true:=by kernel_rfl) (i:ops.size=c.length:=by kernel_rfl) (l:uk fx c g ops=uj c g:=by kernel_rfl) (f:nA ops (c.map (·.1)) (fx.map (·.1)) N=true:=by kernel_rfl) (t:(L.map λp=>c.lookup p.1)=L.map (λp=>some p.2):=by kernel_rfl) (j:(fx.map (·.1)).Nodup:=by simp):Rn P Goal (b.atR a (.code (.region id ops true)::k)) cs w:=
 Rn.tabS u c g L d (λm a w'=>m=ops.size/\Bw w w'/\aW (L++fx) N ds a) (λ_ _ x v=>⟨i.symm,x,v⟩) (λn o a w' q y r z s=>by have:=(gA r).1;omega) (λa w' h=>next a w' h.2.1 h.2.2) e l f t j
end
end
end Go.Proofs.YtkmoglhgkcnalabGreatDoor
