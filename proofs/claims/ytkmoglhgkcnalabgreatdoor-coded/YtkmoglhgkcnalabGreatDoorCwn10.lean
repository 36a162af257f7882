/- A part of what the last text of the claim imports: texts laid together, and made small, by a program. -/
import Derived.Conc.AppendEvents3
import Derived.Test.YtkmoglhgkcnalabGreatDoorCwn9
set_option maxHeartbeats 16000000
set_option maxRecDepth 100000
open Array renaming length_toList->LO,mem_push->Y2,toList_append->YS
open Bool renaming false_and->VN,and_false->Xk
open ByteArray renaming size_append->a34,size_extract->a52,empty->VD,extract_append_size_add->X3,extract_append_eq_left->Xh,extract_zero_size->XP,append_empty->Yp,data_append->YD
open Go.Addr renaming add_mid->CH
open Go.Ending renaming returned->Vg
open Go.Frame renaming enter->a49
open Go.Instr renaming build->C9,alloc->Ee,buildSlice->Fi
open Go.IntKind renaming wrap_i64->a5_,i64->A8
open Go.Sem renaming events_bind->Yz
open Go.Value renaming oneCell'->LN
open Go.World renaming cell?->AB,frozen?->Hv
open Int renaming natCast_pow->LK,toNat_of_nonneg->R1,toNat_natCast->VC
open List renaming getD_eq_getElem?_getD->a50,not_mem_nil->Af,range->Ak,mem_cons->AI,getElem?_eq_getElem->AS,replicate->C2,getElem?_map->IS,length_append->LL,append_assoc->ML,all_eq_true->Vk,mem_map->VJ,flatMap_cons->W0,range_succ->WR,append_nil->WS,getElem?_take->WV,length_replicate->Xq,mem_append->XH
open Nat renaming le_refl->a36,lt_of_lt_of_le->a38,zero_add->a46,le_trans->a56,pow_le_pow_right->OZ,xor_lt_two_pow->WU,add_zero->Xg,testBit_eq_decide_div_mod_eq->Xj,xor_self->Ze
open Option renaming map_eq_some_iff->By
open UInt8 renaming ofNat->XE,toNat_ofNat'->Z1
namespace Go.Proofs.YtkmoglhgkcnalabGreatDoor
open Go
variable{n b i N l m k j b3 b4 b7 b9 Wg wd:Nat}{w w' w0 wL wM wE:World}{fr:Frame}{v:Value}{cs:List Frame}{args cv:Array Value}{V RO D V0:Nat->Prop}{q main listen ql:Bool}{g:Goroutine}{a:Act}{K:List Item}{P PL PM:Program}{x:Operand}{ops:Array Oper}{KS:List Int}{t u:TypeId}{o:Oper}{f:FuncId}{es:Array Event}{Goal:Goroutine->World->Prop}{fn:Func}{rest:List Nat}{ds:List Deferred}{X:bS}{F:List (Nat×Value)}{e:Event}{listed:Array Bool}{c:Int}{s msg key sig:ByteArray}{ρ:Nat->Nat}{ev:Operand->Value}{Post:Value->World->Prop}
namespace L1
open Go.Conc Go.RowKit
section
variable{y:Operand}
theorem QR(a:o.op= .makeSlice 25 x y)(c:ev x= .i 8)(b:ev y= .i 8):(execOp ev o).run lT w= .ok (.value (.sk w.heap.size 8 8)) (w.alloc (.cells (C2 8 (Value.string ⟨#[]⟩)).toArray 9)):=by
 have h:=run_make_row' (P:=lT) 25 9 (Value.string ⟨#[]⟩) 16 k_ k_ rfl .i64 .i64 8 o_ o_ w;rw[fp]at h;have e:execOp ev o=(do pure (.value (←Instr.makeSlice 25 (.i 8) (.i 8)))):=by simp only[execOp,a,c,b]
 rw[e];exact o7 h
theorem zY(a:o.op= .alloc 27):(execOp ev o).run lT w= .ok (.value (.pk w.heap.size 0)) (w.alloc (.cells #[.string ⟨#[]⟩, .string ⟨#[]⟩, .slice none 0 0] 27)):=by
 have e:execOp ev o=(do pure (.value (←Ee 27 true (.tuple #[])))):=by simp only[execOp,a]
 have b:(do pure (.value (←Ee 27 true (.tuple #[]))):Sem Next).run lT w= .ok (.value (.pk w.heap.size 0)) (w.alloc (.cells #[.string ⟨#[]⟩, .string ⟨#[]⟩, .slice none 0 0] 27)):=k_
 rw[e,b]
theorem QF{seed:ByteArray}{a:Nat}(b:o.op= .build 27 #[(1,x),(2,y)])(d:ev x= .s seed)(c:ev y= .sk a 8 8):(execOp ev o).run lT w= .ok (.value (.agg (gR ⟨#[]⟩ seed a))) w:=by
 have e:execOp ev o=(do pure (.value (←C9 27 #[(1, .s seed),(2, .sk a 8 8)]))):=by simp[execOp,b,d,c]
 have f:(do pure (.value (←C9 27 #[(1, .s seed),(2, .sk a 8 8)])):Sem Next).run lT w= .ok (.value (.agg (gR ⟨#[]⟩ seed a))) w:=k_
 rw[e,f]
theorem ID:(lT.info? 27).map (·.size)=some 3:=k_
theorem zh{d:Nat}{id seed:ByteArray}{old:Array Value}{c:TypeId}(a:o.op= .store 27 x y)(f:ev x= .pk b 0)(e:ev y= .agg (gR id seed d))(h:w.heap[b]?=some (.cells old c))(g:old.size=3):
 (execOp ev o).run lT w= .ok .skip (gy w b (gR id seed d) c):=by rw[←iq h];exact db a f e h ID g (by simp[gR,LN])
end
def L9(f:Func):Code:= .seq (.seq (rG f 20) (.cond (.tmp 86) .skip (.exit 4))) (.seq (.block 5 (rD f 22)) (rG f 21))
def R8(f:Func):Code:= .seq (rG f 23) .ret
def QK(f:Func):Code:= .seq (.seq (rG f 19) (.block 4 (.loop (L9 f)))) (R8 f)
theorem Pg:Tryz.f10.body=some (.seq (rG Tryz.f10 0) (.seq (rG Tryz.f10 1) (.seq (rG Tryz.f10 2) (.seq (.seq (rG Tryz.f10 3) (.cond (.tmp 21) (.seq (rG Tryz.f10 4) .ret) .skip)) (.seq (rG Tryz.f10 5) (.seq (.seq (rG Tryz.f10 6) (.block 0 (.loop (Qj Tryz.f10)))) (QK Tryz.f10))))))):=k_
section
variable{id seed:ByteArray}{sb nb used:Nat}{NL:List ByteArray}
theorem T9(i:KS.length=64)(s:id.size=16)(t:w0.rangeAt 0 0 (aH KS))(D:0<w0.heap.size)(H:1<=n)(r:n<=3)(f:NL.length=8){A B:ByteArray}(C:NL[2*n]?=some A)(x:NL[2*n+1]?=some B)(y:A.size=32)(u:B.size=32)(c:Gw w0 b4 sb nb id seed NL w)(b:aW [(4, .pt b4),(6, .pt sb),(12, .i n)] 116 [] a)
 (p:∀a w',Gw w0 b4 sb nb id seed (NL.set n (ib KS id n A B)) w'->aW [(4, .pt b4),(6, .pt sb),(12, .i ((n- 1:Nat):Int))] 116 [] a->Rn lT Goal ((base 10).atR a (.code (L9 Tryz.f10):: .inLoop (L9 Tryz.f10):: .inBlock 4::K)) cs w'):
 Rn lT Goal ((base 10).atR a (.code (L9 Tryz.f10):: .inLoop (L9 Tryz.f10):: .inBlock 4::K)) cs w:=by
 have l:∀{w':World},Bw w0 w'->w'.rangeAt 0 0 (aH KS):=λh=>SA D h t
 iterate 2 refine Rn.uc b λa b=> ?_
 refine Rn.p rfl (Rn.cond _ (b.G 86) ?_);rw[decide_eq_true o_];have b:aW [(4, .pt b4),(6, .pt sb),(12, .i n)] 116 [] a:=b.only ⟨rfl,rfl,rfl,trivial⟩;have q:Ob.size=2:=rfl;have F:((NL.map Value.string).toArray)[2*n]?=some (.s A):=by simp[C]
 have E:((NL.map Value.string).toArray)[2*n+1]?=some (.s B):=by simp[x]
 refine Rn.runs 4 _ ?_;refine Rn.tab1 (R:=λa w'=>Gw w0 b4 sb nb id seed (NL.set n (ib KS id n A B)) w'/\aW [(4, .pt b4),(6, .pt sb),(12, .i n)] 116 [] a) (λa G ⟨j,b⟩=> ?_) b
  [(89, .pk sb 2),(90, .sk nb 8 8),(91, .i n),(92, .pt sb),(93, .s id),(94, .i n),(95, .s (ob n 4)),(96, .s (id++ob n 4)),(97, .s (id++ob n 4++Ob)),(98, .pk sb 2),(99, .sk nb 8 8),(100, .i n),(101, .i ((2*n:Nat):Int)),(102, .pk nb (2*n)),(103, .s A),(104, .s (id++ob n 4++Ob++A)),(105, .pk sb 2),(106, .sk nb 8 8),(107, .i n),(108, .i ((2*n:Nat):Int)),(109, .i ((2*n+1:Nat):Int)),(110, .pk nb (2*n+1)),(111, .s B),(112, .s (id++ob n 4++Ob++A++B)),(113, .s (ib KS id n A B)),(114, .pk nb n)] [91,94,100,107] [(113, .s (ib KS id n A B)),(114, .pk nb n)]
  ⟨λz=>dv (gh 2 d_ z.qq (z.k 6)),
   λz=>dv (aP fo z.qq (z.k 89) ((aK (bk z.b c.sec) 2).trans rfl)).1,
   λz=>dv (gh 0 d_ z.qq (z.k 6)),
   λz=>dv (aP bM z.qq (z.k 92) ((aK (bk z.b c.sec) 0).trans rfl)).1,
   λz=>z.c2 (z.k 94) kc (eI n 4 o_ _),
   λz=>dv (bI z.qq (z.k 93) (z.k 95) (by first|(simp only[aG];omega)|(simp only[a34,aG];omega))),
   λz=>dv (bI z.qq (z.k 96) kc (by simp only[a34,aG];show _+Ob.size<=_;omega)),
   λz=>dv (gh 2 d_ z.qq (z.k 6)),
   λz=>dv (aP fo z.qq (z.k 98) ((aK (bk z.b c.sec) 2).trans rfl)).1,
   λz=>dv (ko (m:=2) z.qq kc (z.k 100) o_),
   λz=>dv (qU z.qq (z.k 99) (z.k 101) o_),
   λz=>dv (aP bM z.qq (z.k 102) ((aK (bk z.b c.nod) _).trans F)).1,
   λz=>dv (bI z.qq (z.k 97) (z.k 103) (by first|(simp only[aG];omega)|(simp only[a34,aG];omega))),
   λz=>dv (gh 2 d_ z.qq (z.k 6)),
   λz=>dv (aP fo z.qq (z.k 105) ((aK (bk z.b c.sec) 2).trans rfl)).1,
   λz=>dv (ko (m:=2) z.qq kc (z.k 107) o_),
   λz=>dv (cS (n:=1) z.qq (z.k 108) kc o_),
   λz=>dv (qU z.qq (z.k 106) (z.k 109) o_),
   λz=>dv (aP bM z.qq (z.k 110) ((aK (bk z.b c.nod) _).trans E)).1,
   λz=>dv (bI z.qq (z.k 104) (z.k 111) (by first|(simp only[aG];omega)|(simp only[a34,aG];omega))),
   λz=>z.c1 (z.k 112) (fv KS _ _ (l (aB c.old c.old.size z.b)) i (by first|(simp only[aG];omega)|(simp only[a34,aG];omega))),
   λz=>dv (qU z.qq (z.k 90) (z.k 91) o_),
   trivial⟩ (λa w' k h b g=> ?_)
 ·refine Rn.p rfl ?_;refine Rn.uc b λa b=> ?_;refine Rn.vv b (λo e=>oa (n:=1) e (b.G 87) rfl o_ o_) λa b=> ?_;refine Rn.uc b λa b=> ?_;exact Rn.p rfl (Rn.p rfl (p _ _ j (b.only ⟨rfl,rfl,rfl,trivial⟩)))
 ·have d:=c.below h;refine Rn.does0 b (.store 9 (.tmp 114) (.tmp 113)) k_ s_ (λo e=>fD (v:= .s (ib KS id n A B)) rfl rfl k_ e (b.G 114) (b.G 113) d.nod (by simp[f];omega)) λa b=>g a _ ⟨?_,b.only ⟨rfl,rfl,rfl,trivial⟩⟩;rw[Nr];exact d.set _
end
theorem V6(KS:List Int)(id seed:ByteArray)(used:Nat):GP KS id seed used 4=[⟨#[]⟩,⟨#[]⟩,⟨#[]⟩,⟨#[]⟩,kM KS id seed used 0,kM KS id seed used 1,kM KS id seed used 2,kM KS id seed used 3]:=by unfold GP;generalize kM KS id seed used=f;rfl
section
variable{id seed:ByteArray}{sb nb used:Nat}{NL:List ByteArray}
theorem Ng(g:KS.length=64)(f:id.size=16)(j:w0.rangeAt 0 0 (aH KS))(k:0<w0.heap.size){e d c b:ByteArray}(p:e.size=32)(s1:d.size=32)(o:c.size=32)(m:b.size=32)(h:Gw w0 b4 sb nb id seed [⟨#[]⟩,⟨#[]⟩,⟨#[]⟩,⟨#[]⟩,e,d,c,b] w)(i:aW [(4, .pt b4),(6, .pt sb),(12, .i 3)] 116 [] a)
 (q:∀a w',Gw w0 b4 sb nb id seed [⟨#[]⟩,ib KS id 1 (ib KS id 2 e d) (ib KS id 3 c b),ib KS id 2 e d,ib KS id 3 c b,e,d,c,b] w'->aW [(4, .pt b4),(6, .pt sb),(12, .i 0)] 116 [] a->Rn lT Goal ((base 10).atR a (.code (L9 Tryz.f10):: .inLoop (L9 Tryz.f10):: .inBlock 4::K)) cs w'):
 Rn lT Goal ((base 10).atR a (.code (L9 Tryz.f10):: .inLoop (L9 Tryz.f10):: .inBlock 4::K)) cs w:=by refine T9 g f j k (n:=3) (A:=c) (B:=b) o_ o_ rfl rfl rfl o m h i λa l h i=> ?_;refine T9 g f j k (n:=2) (A:=e) (B:=d) o_ o_ rfl rfl rfl p s1 h i λa l h i=> ?_;exact T9 g f j k (n:=1) (A:=ib KS id 2 e d) (B:=ib KS id 3 c b) o_ o_ rfl rfl rfl (aY ..) (aY ..) h i λa l h i=>q _ _ h i
end
section
variable{seed:ByteArray}
theorem U8(hKl:KS.length=64)(hseed:seed.size<=140737488355320)(used:Nat)(hused:used<16)(hK:w.rangeAt 0 0 (aH KS))(h0:0<w.heap.size)(cs:List Frame):Rn (aI true Tryz.prog) (λg w'=>∃(a:Act) (k:List Item) (bk:Nat) (cells:Array Value) (tt:TypeId),g=gB {(base 10).atR a k with mode:= .returning} cs/\a.defers=[]/\a.tmps[4]?=some (.pk bk 0)/\w'.heap[bk]?=some (.cells cells tt)/\cells.size=3/\∃v,Vg (.agg cells)= .returned v/\∃nb,v= .agg (gR (gi KS seed) seed nb)/\w'.heap[nb]?=some (.cells ((RJ KS (gi KS seed) seed used).map Value.string).toArray 9)/\w.heap.size<=nb/\Bw w w') (a49 (aI true Tryz.prog) 10 #[.string seed, .int .i64 used] .normal) cs w:=by
 rw[aV (N:=116) [.string seed, .int .i64 used] Lf.func10 Pg rfl];have hF:=aN [.string seed, .int .i64 used] 116 s_;have l2:Ql.size=2:=rfl;have hid:=dc KS seed;refine Rn.al hF (λo ho=>zY ho) λw1 a b1 c1 z1 hF=> ?_;refine Rn.uc hF λa hF=> ?_;refine Rn.vv hF (λo ho=>bI (x:= .const (.string Ql)) ho rfl (hF.get (d:=13) rfl) o_) λa hF=> ?_;refine Rn.cw hF Lf.func13 (fv KS (Ql++seed) w1 (SA h0 b1 hK) hKl (by rw[a34];omega)) λw2 b2 a hF=> ?_;have B2:=aB b1 b1.size b2;have c1:=bk b2 c1;have z2:=b2.size
 iterate 2 refine Rn.uc hF λa hF=> ?_
 refine Rn.al hF (λo ho=>QR ho rfl rfl) λw3 a b3 c3 z3 hF=> ?_;refine Rn.vv hF (λo ho=>QF ho (hF.get (d:=16) rfl) (hF.get (d:=17) rfl)) λa hF=> ?_;refine Rn.al hF (λo ho=>zY ho) λw4 a b4 c4 z4 hF=> ?_;refine Rn.nn hF (λo ho=>zh ho (hF.get (d:=6) rfl) (hF.get (d:=18) rfl) c4 rfl) λa hF=> ?_;have c5:=co (cs:=gR ⟨#[]⟩ seed w2.heap.size) (t:=27) c4;refine Rn.uc hF λa hF=> ?_;refine Rn.vv hF (λo ho=>j6 (s:=eq KS (Ql++seed)) ho (hF.get (d:=19) rfl)) λa hF=> ?_;rw[aY]at hF;refine Rn.uc hF λa hF=> ?_;refine Rn.p rfl (Rn.cond _ (hF.get (d:=21) rfl) ?_);refine Rn.uc hF λa hF=> ?_;refine Rn.vv hF (λo ho=>nk (t:=eq KS (Ql++seed)) (n:=16) ho (hF.get (d:=23) rfl) rfl (by rw[aY];omega)) λa hF=> ?_;refine Rn.vv hF (λo ho=>gh 0 d_ ho (hF.get (d:=6) rfl)) λa hF=> ?_;refine Rn.nn hF (λo ho=>fD (v:= .string (gi KS seed)) rfl rfl k_ ho (hF.get (d:=25) rfl) (hF.get (d:=24) rfl) c5 (d_:0<3)) λa hF=> ?_;rw[show(gR ⟨#[]⟩ seed w2.heap.size).setIfInBounds 0 (.string (gi KS seed))=gR (gi KS seed) seed w2.heap.size from rfl,y6];have hG:Gw w w.heap.size w3.heap.size w2.heap.size (gi KS seed) seed (GP KS (gi KS seed) seed used 0) (gy w4 w3.heap.size (gR (gi KS seed) seed w2.heap.size) 27):=
  ⟨(aB (aB B2 B2.size b3) (aB B2 B2.size b3).size b4).trans (cM o_),⟨_,rfl,(cn o_).trans (bk b4 (bk b3 c1))⟩,co c4,(cn o_).trans (bk b4 c3),⟨o_,o_,o_⟩,o_⟩
 revert hG;generalize gy w4 w3.heap.size (gR (gi KS seed) seed w2.heap.size) 27=w5;intro hG;refine Rn.uc hF λa hF=> ?_;refine Rn.runs 3 _ ?_;refine kq hKl hid o_ hused hK h0 (q:=0) o_ hG (hF.only ⟨rfl,rfl,rfl,rfl,rfl,trivial⟩) λa w5 hG hF=> ?_;refine kq hKl hid o_ hused hK h0 (q:=1) o_ hG hF λa w5 hG hF=> ?_;refine kq hKl hid o_ hused hK h0 (q:=2) o_ hG hF λa w5 hG hF=> ?_;refine kq hKl hid o_ hused hK h0 (q:=3) o_ hG hF λa w5 hG hF=> ?_;rw[show 3+1=4 from rfl,V6]at hG;have hF:aW [(4, .pt w.heap.size),(6, .pt w3.heap.size),(7, .int .i64 4)] 116 [] a:=hF.only ⟨rfl,rfl,rfl,trivial⟩;clear c1 c3 c4 c5;refine Rn.uc hF λa hF=> ?_;refine Rn.vv hF (λo ho=>(dw (ql:=true) (m:=4) (n:=4) ho (hF.get (d:=26) rfl) rfl).1) λa hF=> ?_;refine Rn.p rfl (Rn.cond _ (hF.get (d:=27) rfl) ?_);refine Rn.uc hF λa hF=> ?_;refine Rn.runs 3 _ ?_;refine Ng hKl hid hK h0 (cW ..) (cW ..) (cW ..) (cW ..) hG (hF.only ⟨rfl,rfl,rfl,trivial⟩) λa w5 hG hF=> ?_;rw[show[⟨#[]⟩,ib KS (gi KS seed) 1 (ib KS (gi KS seed) 2 (kM KS (gi KS seed) seed used 0) (kM KS (gi KS seed) seed used 1)) (ib KS (gi KS seed) 3 (kM KS (gi KS seed) seed used 2) (kM KS (gi KS seed) seed used 3)),ib KS (gi KS seed) 2 (kM KS (gi KS seed) seed used 0) (kM KS (gi KS seed) seed used 1),ib KS (gi KS seed) 3 (kM KS (gi KS seed) seed used 2) (kM KS (gi KS seed) seed used 3),kM KS (gi KS seed) seed used 0,kM KS (gi KS seed) seed used 1,kM KS (gi KS seed) seed used 2,kM KS (gi KS seed) seed used 3]=RJ KS (gi KS seed) seed used from by rw[RJ,QQ,V7,Ie]]at hG;refine Rn.uc hF λa hF=> ?_;refine Rn.vv hF (λo ho=>nl (m:=0) (n:=0) ho (hF.get (d:=85) rfl) rfl) λa hF=> ?_;refine Rn.p rfl (Rn.cond _ (hF.get (d:=86) rfl) ?_);obtain⟨c,hc3,hc⟩:=hG.res;refine Rn.vv hF (λo ho=>dl ho (hF.get (d:=6) rfl) hG.sec) λa hF=> ?_;refine Rn.nn hF (λo ho=>zh ho (hF.get (d:=4) rfl) (hF.get (d:=115) rfl) hc hc3) λa hF=> ?_;have zz:=hG.old.size;exact Rn.runs 6 _ (Rn.ends rfl (.inr ⟨_,rfl⟩) (Rn.now ⟨_,_,w.heap.size,_,_,rfl,hF.defers,hF.slot 4 _ rfl,co hc,rfl,_,rfl,w2.heap.size,rfl,(cn (cy hG.nod hc d_)).trans hG.nod,o_,hG.old.trans (cM (a36 _))⟩))
end
end L1
section
open Go.Conc Go.RowKit
theorem OK(L:List UInt8)(c:Nat):dj L 2 c<=3:=by have:dj L 2 c<2^2:=Nat.mod_lt _ d_;omega
theorem BG(L:List UInt8):∀n,fR L 2 n<=3*n
 |0=>a36 _
 |n+1=>by have b:=BG L n;have a:eB 2=3:=rfl;rw[fR,a];omega
def ue(KS:List Int)(id seed:ByteArray)(q:Nat)(salt:ByteArray)(D:List UInt8):Nat->ByteArray
 |0=>ob q 4++ob 2 4++salt
 |n+1=>ue KS id seed q salt D n++T2 KS (id++ob q 4++ob n 2) (dj D 2 n) 0 (xF KS id seed q n)
theorem lA(KS:List Int)(id seed:ByteArray)(q:Nat)(salt:ByteArray)(D:List UInt8)(hs:salt.size=32):∀n,(ue KS id seed q salt D n).size=40+32*n
 |0=>by simp only[ue,a34,aG];omega
 |n+1=>by rw[ue,a34,lA KS id seed q salt D hs n,jO _ _ _ _ _ (iV KS id seed q n)];omega
end
namespace L1
open Go.Conc Go.RowKit
def Oh(f:Func):Code:= .seq (.seq (rG f 6) (.cond (.tmp 32) .skip (.exit 0))) (.seq (.block 1 (.seq (rG f 8) (rG f 9))) (rG f 7))
def Og(f:Func):Code:= .seq (.seq (rG f 13) (.cond (.tmp 54) .skip (.exit 2))) (.seq (.block 3 (.seq (rD f 15) (rG f 16))) (rG f 14))
def Io(f:Func):Code:= .seq (.seq (rG f 19) (.cond (.tmp 77) .skip (.exit 4))) (.seq (.block 5 (rG f 21)) (rG f 20))
section
variable{id seed salt hh:ByteArray}{sb nb q:Nat}
theorem U0(p:hh.size=32)
 (d:∀a,aW [(1, .i q),(2, .s salt),(4, .pt sb),(9, .s hh),(10, .i ((fR hh.data.toList 2 128:Nat):Int))] 89 [] a->Rn lT Goal ((base 37).atR a K) cs w):
 ∀(m i:Nat) (a:Act),128- i=m->i<=128->aW [(1, .i q),(2, .s salt),(4, .pt sb),(9, .s hh),(10, .i ((fR hh.data.toList 2 i:Nat):Int)),(11, .i i)] 89 [] a->Rn lT Goal ((base 37).atR a (.code (Oh Tryz.f37):: .inLoop (Oh Tryz.f37):: .inBlock 0::K)) cs w:=by
 intro m;induction m with
 |zero=>
  intro i a h j b;refine Rn.uc b λa b=> ?_;refine Rn.vv b (λo c=>(dw (ql:=true) (n:=128) c (b.G 31) rfl).1) λa b=> ?_;refine Rn.p rfl (Rn.cond _ (b.G 32) ?_);rw[decide_eq_false o_];obtain rfl:i=128:=o_
  exact Rn.p rfl (d _ (b.only ⟨rfl,rfl,rfl,rfl,rfl,trivial⟩))
 |succ m e=>
  intro i a h j b;refine Rn.uc b λa b=> ?_;refine Rn.vv b (λo c=>(dw (ql:=true) (n:=128) c (b.G 31) rfl).1) λa b=> ?_;refine Rn.p rfl (Rn.cond _ (b.G 32) ?_);rw[decide_eq_true o_]
  iterate 2 refine Rn.uc b λa b=> ?_
  refine Rn.cw b Lf.func54 (wS hh i o_ o_ w) λl f a b=> ?_;rw[f];have r:=OK hh.data.toList i;have g:=BG hh.data.toList i;have k:eB 2=3:=rfl
  iterate 2 refine Rn.uc b λa b=> ?_
  refine Rn.vv b (λo c=>cS (n:=3) c (b.G 38) rfl o_) λa b=> ?_;refine Rn.uc b λa b=> ?_;refine Rn.vv b (λo c=>oa c (b.G 39) (b.G 40) o_ o_) λa b=> ?_;rw[show fR hh.data.toList 2 i+3- dj hh.data.toList 2 i=fR hh.data.toList 2 (i+1)from by rw[fR,k];omega]at b
  iterate 2 refine Rn.uc b λa b=> ?_
  refine Rn.vv b (λo c=>cS (n:=1) c (b.G 33) rfl o_) λa b=> ?_;refine Rn.uc b λa b=> ?_;exact Rn.p rfl (Rn.p rfl (e (i+1) _ o_ o_ (b.only ⟨rfl,rfl,rfl,rfl,rfl,rfl,trivial⟩)))
theorem FU(l:KS.length=64)(h:id.size=16)(d:seed.size<=140737488355328)(f:salt.size=32)(F:hh.size=34)(C:w0.rangeAt 0 0 (aH KS))(r:0<w0.heap.size)
 (u:∀a w',Bw w0 w'->w'.heap[sb]?=some (.cells (gR id seed nb) 27)->aW [(1, .i q),(4, .pt sb),(13, .s (ue KS id seed q salt hh.data.toList 133))] 89 [] a->Rn lT Goal ((base 37).atR a K) cs w'):
 ∀(m i:Nat) (a:Act) (w:World),133- i=m->i<=133->Bw w0 w->w.heap[sb]?=some (.cells (gR id seed nb) 27)->aW [(1, .i q),(4, .pt sb),(9, .s hh),(13, .s (ue KS id seed q salt hh.data.toList i)),(14, .i i)] 89 [] a->Rn lT Goal ((base 37).atR a (.code (Og Tryz.f37):: .inLoop (Og Tryz.f37):: .inBlock 2::K)) cs w:=by
 intro m;induction m with
 |zero=>
  intro i a w A B c j b;refine Rn.uc b λa b=> ?_;refine Rn.vv b (λo g=>(dw (ql:=true) (n:=133) g (b.G 53) rfl).1) λa b=> ?_;refine Rn.p rfl (Rn.cond _ (b.G 54) ?_);rw[decide_eq_false o_];obtain rfl:i=133:=o_
  exact Rn.p rfl (u _ _ c j (b.only ⟨rfl,rfl,rfl,trivial⟩))
 |succ m v=>
  intro i a w A B c j b;refine Rn.uc b λa b=> ?_;refine Rn.vv b (λo g=>(dw (ql:=true) (n:=133) g (b.G 53) rfl).1) λa b=> ?_;refine Rn.p rfl (Rn.cond _ (b.G 54) ?_);rw[decide_eq_true o_];have b:aW [(1, .i q),(4, .pt sb),(9, .s hh),(13, .s (ue KS id seed q salt hh.data.toList i)),(14, .i i)] 89 [] a:=b.only ⟨rfl,rfl,rfl,rfl,rfl,trivial⟩;have p:∀{w':World},Bw w w'->w'.rangeAt 0 0 (aH KS)/\0<w'.heap.size:=λk=>⟨SA r (aB c c.size k) C,a38 r (aB c c.size k).size⟩;refine Rn.runs 4 _ ?_;refine Rn.tabL b [(57, .agg (gR id seed nb)),(58, .i q),(59, .i i),(60, .s hh),(61, .i i),(62, .i ((dj hh.data.toList 2 i:Nat):Int)),(63, .agg (gR id seed nb)),(64, .i q),(65, .i i),(66, .s (xF KS id seed q i)),(67, .s (T2 KS (id++ob q 4++ob i 2) (dj hh.data.toList 2 i) 0 (xF KS id seed q i))),(15, .s (T2 KS (id++ob q 4++ob i 2) (dj hh.data.toList 2 i) 0 (xF KS id seed q i)))] [58,59,60,61,64,65,15] [(15, .s (T2 KS (id++ob q 4++ob i 2) (dj hh.data.toList 2 i) 0 (xF KS id seed q i)))]
   ⟨λz=>dv (dl z.qq (z.k 4) (bk z.b j)),
    λz=>z.c2 (z.k 60) (z.k 61) ((wS hh i o_ o_ _).mono λe w' ⟨E,D⟩=>⟨E,D▸bR⟩),
    λz=>dv (dl z.qq (z.k 4) (bk z.b j)),
    λz=>z.c3 (z.k 63) (z.k 64) (z.k 65) (vN l h d q i (p z.b).1 (p z.b).2),
    λz=>z.c6 (z.k 57) (z.k 58) (z.k 59) kc (z.k 62) (z.k 66) (E1 l h q i (dj hh.data.toList 2 i) (OK _ _) _ (iV _ _ _ _ _) (p z.b).1 (p z.b).2),
    trivial⟩ λa t s b=> ?_
  have y:=lA KS id seed q salt hh.data.toList f i;have x:=jO KS (id++ob q 4++ob i 2) (dj hh.data.toList 2 i) 0 _ (iV KS id seed q i)
  iterate 2 refine Rn.uc b λa b=> ?_
  refine Rn.vv b (λo g=>bI g (b.G 68) (b.G 69) o_) λa b=> ?_
  iterate 2 refine Rn.uc b λa b=> ?_
  refine Rn.vv b (λo g=>cS (n:=1) g (b.G 55) rfl o_) λa b=> ?_;refine Rn.uc b λa b=> ?_;exact Rn.p rfl (Rn.p rfl (v (i+1) _ t o_ o_ (aB c c.size s) (bk s j) (b.only ⟨rfl,rfl,rfl,rfl,rfl,trivial⟩)))
end
end L1
section
open Go.Conc Go.RowKit
def Oe:ByteArray:=⟨#[129,129]⟩
def GQ(KS:List Int)(id:ByteArray)(q:Nat)(salt msg:ByteArray):ByteArray:=eq KS (id++ob q 4++Oe++salt++msg)
def TK(KS:List Int)(id:ByteArray)(q:Nat)(salt msg:ByteArray):ByteArray:=GQ KS id q salt msg++ob (fR (GQ KS id q salt msg).data.toList 2 128*2^6) 2
def lq(KS:List Int)(id seed:ByteArray)(q:Nat)(salt msg X1 X2:ByteArray):ByteArray:=ue KS id seed q salt (TK KS id q salt msg).data.toList 133++ob 226 4++X1++X2
end
namespace L1
open Go.Conc Go.RowKit
section
variable{y:Operand}
theorem Ks(f:m<1000)(d:n<1000)(a:o.op= .binOp .xor 3 x y u)(c:ev x= .i m)(b:ev y= .i n):(execOp ev o).run lT w= .ok (.value (.i ((m^^^n:Nat):Int))) w:=by have e:=Ae m n o_ o_;simp[execOp,a,c,b,go_sem,e]
theorem Kx(d:m<100000)(a:o.op= .binOp .shl 3 x y u)(c:ev x= .i m)(b:ev y= .int .u64 6):(execOp ev o).run lT w= .ok (.value (.i ((m*2^6:Nat):Int))) w:=by
 have e:A8.wrap ((m:Int)*64)=((m*64:Nat):Int):=by rw[a5_];omega
 simp[execOp,a,c,b,go_sem,e]
end
section
variable{id seed out X:ByteArray}{sb nb:Nat}{NL:List ByteArray}
theorem wm(m:1<n)(g:n<8)(j:NL[n^^^1]?=some X)(i:X.size=32)(c:out.size<=100000)(e:n^^^1<8)(h:w.heap[sb]?=some (.cells (gR id seed nb) 27))(k:w.heap[nb]?=some (.cells (NL.map Value.string).toArray 9))(b:aW [(4, .pt sb),(13, .s out),(16, .int .i64 n)] 89 [] a)
 (f:∀a,aW [(4, .pt sb),(13, .s (out++X)),(16, .int .i64 ((n/2:Nat):Int))] 89 [] a->Rn (aI true tP) Goal ((base 37).atR a (.code (Io Tryz.f37):: .inLoop (Io Tryz.f37):: .inBlock 4::K)) cs w):
 Rn (aI true tP) Goal ((base 37).atR a (.code (Io Tryz.f37):: .inLoop (Io Tryz.f37):: .inBlock 4::K)) cs w:=by
 have l:((NL.map Value.string).toArray)[n^^^1]?=some (.s X):=by simp[j]
 refine Rn.uc b λa b=> ?_;refine Rn.vv b (λo c=>nl (n:=1) c (b.get (d:=76) rfl) rfl) λa b=> ?_;refine Rn.p rfl (Rn.cond _ (b.get (d:=77) rfl) ?_);rw[decide_eq_true o_];refine Rn.uc b λa b=> ?_;refine Rn.vv b (λo c=>gh 2 d_ c (b.get (d:=4) rfl)) λa b=> ?_;refine Rn.vv b (λo c=>(aP fo c (b.get (d:=81) rfl) ((aK h 2).trans rfl)).1) λa b=> ?_;refine Rn.uc b λa b=> ?_;refine Rn.vv b (λo c=>Ks (n:=1) o_ o_ c (b.get (d:=83) rfl) rfl) λa b=> ?_;refine Rn.vv b (λo c=>qU c (b.get (d:=82) rfl) (b.get (d:=84) rfl) e) λa b=> ?_;refine Rn.vv b (λo c=>(aP bM c (b.get (d:=85) rfl) ((aK k _).trans l)).1) λa b=> ?_;refine Rn.vv b (λo c=>bI c (b.get (d:=80) rfl) (b.get (d:=86) rfl) o_) λa b=> ?_
 iterate 2 refine Rn.uc b λa b=> ?_
 refine Rn.vv b (λo c=>xR (n:=2) c (b.get (d:=78) rfl) rfl o_ o_) λa b=> ?_;refine Rn.uc b λa b=> ?_;exact Rn.p rfl (Rn.p rfl (f _ (b.only ⟨rfl,rfl,rfl,trivial⟩)))
end
theorem OQ:Tryz.f37.body=some (.seq (rG Tryz.f37 0) (.seq (rD Tryz.f37 1) (.seq (.seq (rG Tryz.f37 2) (.cond (.tmp 30) (.seq (rG Tryz.f37 3) .ret) .skip)) (.seq (rG Tryz.f37 4) (.seq (.seq (rG Tryz.f37 5) (.block 0 (.loop (Oh Tryz.f37)))) (.seq (rG Tryz.f37 10) (.seq (rG Tryz.f37 11) (.seq (.seq (rG Tryz.f37 12) (.block 2 (.loop (Og Tryz.f37)))) (.seq (rG Tryz.f37 17) (.seq (.seq (rG Tryz.f37 18) (.block 4 (.loop (Io Tryz.f37)))) (.seq (rG Tryz.f37 22) .ret))))))))))):=k_
section
variable{id seed salt X1 X2:ByteArray}{nb:Nat}{NL:List ByteArray}
theorem Fc(g:KS.length=64)(p:id.size=16)(l:seed.size<=140737488355320)(f:salt.size=32)(y:msg.size<=1000000){q:Nat}(hq:q<4)(A:w.heap[nb]?=some (.cells (NL.map Value.string).toArray 9))(Y:NL[(4+q)^^^1]?=some X1)(X:NL[(4+q)/2^^^1]?=some X2)(L:X1.size=32)(K:X2.size=32)(B:w.rangeAt 0 0 (aH KS))(C:0<w.heap.size):
 Calls (aI true tP) 37 #[.agg (gR id seed nb), .int .i64 q, .s salt, .s msg] w λe w'=>e= .returned (.s (lq KS id seed q salt msg X1 X2))/\Bw w w':=by
 refine aT (t:=8) Lf.func37 rfl λcs=> ?_;rw[aV (N:=89) [.agg (gR id seed nb), .int .i64 q, .s salt, .s msg] Lf.func37 OQ rfl];have b:=aN [.agg (gR id seed nb), .int .i64 q, .s salt, .s msg] 89 s_;refine Rn.zz b λw1 a h E J b=> ?_;refine Rn.uc b λa b=> ?_;have b:aW [(1, .int .i64 q),(2, .s salt),(3, .s msg),(4, .pt w.heap.size)] 89 [] a:=b.only ⟨rfl,rfl,rfl,rfl,trivial⟩;have U:Oe.size=2:=rfl;refine Rn.p rfl (Rn.p rfl ?_);refine Rn.tabL b [(17, .pt w.heap.size),(18, .s id),(19, .int .i64 q),(20, .s (ob q 4)),(21, .s (id++ob q 4)),(22, .s (id++ob q 4++Oe)),(23, .s salt),(24, .s (id++ob q 4++Oe++salt)),(25, .s msg),(26, .s (id++ob q 4++Oe++salt++msg)),(27, .s (GQ KS id q salt msg)),(9, .s (GQ KS id q salt msg))] [19,23,25,9] [(9, .s (GQ KS id q salt msg))]
  ⟨λz=>dv (gh 0 d_ z.qq (z.k 4)),
   λz=>dv (aP bM z.qq (z.k 17) ((aK (bk z.b E) 0).trans rfl)).1,
   λz=>z.c2 (z.k 19) kc (eI q 4 o_ _),
   λz=>dv (bI z.qq (z.k 18) (z.k 20) (by first|(simp only[aG];omega)|(simp only[a34,aG];omega))),
   λz=>dv (bI z.qq (z.k 21) kc (by simp only[a34,aG];show _+Oe.size<=_;omega)),
   λz=>dv (bI z.qq (z.k 22) (z.k 23) (by first|(simp only[aG];omega)|(simp only[a34,aG];omega))),
   λz=>dv (bI z.qq (z.k 24) (z.k 25) (by first|(simp only[aG];omega)|(simp only[a34,aG];omega))),
   λz=>z.c1 (z.k 26) (fv KS _ _ (SA C (aB h h.size z.b) B) g (by first|(simp only[aG];omega)|(simp only[a34,aG];omega))),
   trivial⟩ λa T H b=> ?_
 have x:=aB h h.size H;have c2:=bk H E;have N2:=bk x A;have k:(GQ KS id q salt msg).size=32:=aY ..;have b:aW [(1, .int .i64 q),(2, .s salt),(4, .pt w.heap.size),(9, .s (GQ KS id q salt msg))] 89 [] a:=b.only ⟨rfl,rfl,rfl,rfl,trivial⟩;refine Rn.uc b λa b=> ?_;refine Rn.vv b (λo c=>j6 c (b.get (d:=28) rfl)) λa b=> ?_;rw[k]at b;refine Rn.vv b (λo c=>kG (m:=32) (n:=32) c (b.get (d:=29) rfl) rfl) λa b=> ?_;refine Rn.p rfl (Rn.cond _ (b.get (d:=30) rfl) ?_)
 iterate 2 refine Rn.uc b λa b=> ?_
 refine Rn.runs 3 _ ?_;refine U0 k (λa b=> ?_) 128 0 _ rfl o_ (b.only ⟨rfl,rfl,rfl,rfl,rfl,rfl,trivial⟩);have W:=BG (GQ KS id q salt msg).data.toList 128
 iterate 2 refine Rn.uc b λa b=> ?_
 refine Rn.vv b (λo c=>Kx o_ c (b.get (d:=43) rfl) rfl) λa b=> ?_;refine Rn.cw b Lf.func23 (eI _ 2 o_ T) λS G a b=> ?_;refine Rn.vv b (λo c=>bI (u:=ob (fR (GQ KS id q salt msg).data.toList 2 128*2^6) 2) c (b.get (d:=42) rfl) (b.get (d:=45) rfl) (by rw[aG];omega)) λa b=> ?_;have i:=aB x x.size G;have b:aW [(1, .int .i64 q),(2, .s salt),(4, .pt w.heap.size),(46, .s (TK KS id q salt msg))] 89 [] a:=b.only ⟨rfl,rfl,rfl,rfl,trivial⟩
 iterate 2 refine Rn.uc b λa b=> ?_
 refine Rn.cw b Lf.func23 (eI q 4 o_ S) λR s a b=> ?_;refine Rn.cw b Lf.func23 (eI 2 4 o_ R) λQ F a b=> ?_;have B5:=aB (aB i i.size s) (aB i i.size s).size F;have c5:=bk F (bk s (bk G c2));have b:aW [(1, .int .i64 q),(2, .s salt),(4, .pt w.heap.size),(9, .s (TK KS id q salt msg)),(48, .s (ob q 4)),(49, .s (ob 2 4))] 89 [] a:=b.only ⟨rfl,rfl,rfl,rfl,rfl,rfl,trivial⟩;refine Rn.vv b (λo c=>bI c (b.get (d:=48) rfl) (b.get (d:=49) rfl) (by first|(simp only[aG];omega)|(simp only[a34,aG];omega))) λa b=> ?_;refine Rn.uc b λa b=> ?_;refine Rn.vv b (λo c=>bI c (b.get (d:=50) rfl) (b.get (d:=51) rfl) (by first|(simp only[aG];omega)|(simp only[a34,aG];omega))) λa b=> ?_
 iterate 2 refine Rn.uc b λa b=> ?_
 refine Rn.runs 3 _ ?_;have j:(TK KS id q salt msg).size=34:=by rw[TK,a34,k,aG]
 refine FU (salt:=salt) g p o_ f j B C (λa P v Z b=> ?_) 133 0 _ Q rfl o_ B5 c5 (b.only ⟨rfl,rfl,rfl,rfl,rfl,trivial⟩);have V:=lA KS id seed q salt (TK KS id q salt msg).data.toList f 133;have N6:=bk v A;refine Rn.uc b λa b=> ?_;refine Rn.cw b Lf.func23 (eI 226 4 o_ P) λw7 r a b=> ?_;have B7:=aB v v.size r;have D:=bk r Z;have I:=bk r N6;refine Rn.vv b (λo c=>bI (u:=ob 226 4) c (b.get (d:=71) rfl) (b.get (d:=72) rfl) (by rw[aG];omega)) λa b=> ?_
 iterate 2 refine Rn.uc b λa b=> ?_
 refine Rn.vv b (λo c=>cS (m:=4) c rfl (b.get (d:=74) rfl) o_) λa b=> ?_;refine Rn.uc b λa b=> ?_;refine Rn.runs 3 _ ?_;have O:(4+q)^^^1<8:=WU (n:=3) o_ o_;have M:(4+q)/2^^^1<8:=WU (n:=3) o_ o_;refine wm (n:=4+q) o_ o_ Y L (by rw[a34,aG];omega) O D I (b.only ⟨rfl,rfl,rfl,trivial⟩) λa b=> ?_;refine wm (n:=(4+q)/2) o_ o_ X K (by rw[a34,a34,aG];omega) M D I b λa b=> ?_;rw[show(4+q)/2/2=1 by omega]at b;refine Rn.uc b λa b=> ?_;refine Rn.vv b (λo c=>nl (m:=1) (n:=1) c (b.get (d:=76) rfl) rfl) λa b=> ?_;refine Rn.p rfl (Rn.cond _ (b.get (d:=77) rfl) ?_)
 iterate 2 refine Rn.uc b λa b=> ?_
 exact Rn.fi b ⟨rfl,B7⟩
end
end L1
section
open Go.Conc Go.RowKit
def iD:ByteArray:=⟨#[76,78,84,76]⟩
def z6:ByteArray:=⟨#[0,0,0,0,0,0]⟩
def ow:ByteArray:=⟨#[115,97,108,116]⟩
def oy(b:ByteArray):ByteArray:=if 500<b.size then b.extract 0 500 else b
def ru(en:Nat)(bd:ByteArray):Nat:=if en%2=1/\8<bd.size then 84 else 80
def pD(id rt:ByteArray)(v e:Nat)(bd:ByteArray):ByteArray:=iD++ob v 2++ob (84+bd.size) 4++ob e 4++ob (84+bd.size) 4++ob 4364 4++L1.pi id rt++z6++bd
def lW(n:Nat):ByteArray:=⟨(C2 n (0:UInt8)).toArray⟩
theorem jl(n:Nat):(lW n).size=n:=by show(C2 n (0:UInt8)).toArray.size=n;simp
def vl(KS:List Int)(id seed rt X1 X2:ByteArray)(q v e:Nat)(bd:ByteArray):ByteArray:=pD id rt v e bd++lq KS id seed q (eq KS (ow++bd)) (pD id rt v e bd) X1 X2++lW (8192-(pD id rt v e bd++lq KS id seed q (eq KS (ow++bd)) (pD id rt v e bd) X1 X2).size)
theorem jK(id rt:ByteArray)(b:id.size=16)(a:rt.size=32):(L1.pi id rt).size=56:=by simp only[L1.pi,a34,aG];omega
end
namespace L1
open Go.Conc Go.RowKit
def My(f:Func):Code:= .seq (rG f 7) (.seq (rG f 8) (.seq (rG f 9) (.seq (.seq (rG f 10) (.cond (.tmp 78) (rG f 11) .skip)) (.seq (rG f 12) .ret))))
def Mz(f:Func):Code:= .seq (rG f 3) (.seq (rD f 4) (.seq (.seq (rG f 5) (.cond (.tmp 45) (rD f 6) .skip)) (My f)))
section
variable{id seed rt bd X1 X2:ByteArray}{nb q v en:Nat}{NL:List ByteArray}
theorem yi(p:KS.length=64)(k:id.size=16)(h:seed.size<=140737488355320)(t:rt.size=32)(K:bd.size<=500){e:Nat}(I:q<4)(O:NL[(4+q)^^^1]?=some X1)(N:NL[(4+q)/2^^^1]?=some X2)(H:X1.size=32)(G:X2.size=32)(M:w0.rangeAt 0 0 (aH KS))(E:0<w0.heap.size)(g:Bw w0 w)(s:w.heap[w0.heap.size]?=some (.cells (gR id seed nb) 27))(z:w.heap[nb]?=some (.cells (NL.map Value.string).toArray 9))(b:aW [(1, .int .i64 q),(4, .s bd),(5, .pt w0.heap.size),(12, .s (iD++ob v 2++ob (84+bd.size) 4++ob e 4++ob (84+bd.size) 4++ob 4364 4++pi id rt))] 88 [] a)
 (C:∀a w',Bw w0 w'->aW [(10, .s ((vl KS id seed rt X1 X2 q v e bd).extract 0 8192))] 88 [] a->Rn (aI true tP) Goal ((base 27).atR a [.code .ret]) cs w'):
 Rn (aI true tP) Goal ((base 27).atR a [.code (My Tryz.f27)]) cs w:=by
 have l4:iD.size=4:=rfl;have l6:z6.size=6:=rfl;have W:ow.size=4:=rfl;have X:(pi id rt).size=56:=jK id rt k t;have r:∀{w':World},Bw w w'->w'.rangeAt 0 0 (aH KS)/\0<w'.heap.size:=λl=>⟨SA E (aB g g.size l) M,a38 E (aB g g.size l).size⟩;have V:(pD id rt v e bd).size=84+bd.size:=by simp only[pD,a34,aG];omega
 have Y:(lq KS id seed q (eq KS (ow++bd)) (pD id rt v e bd) X1 X2).size=4364:=by rw[lq,a34,a34,a34,lA _ _ _ _ _ _ (aY ..),aG];omega
 refine Rn.uc b λa b=> ?_;refine Rn.vv b (λo c=>bI (y:= .const (.s z6)) c (b.get (d:=62) rfl) rfl (by simp only[a34,aG];omega)) λa b=> ?_;refine Rn.uc b λa b=> ?_;refine Rn.vv b (λo c=>bI c (b.get (d:=63) rfl) (b.get (d:=64) rfl) (by simp only[a34,aG];omega)) λa b=> ?_;have b:aW [(1, .int .i64 q),(4, .s bd),(5, .pt w0.heap.size),(65, .s (pD id rt v e bd))] 88 [] a:=b.only ⟨rfl,rfl,rfl,rfl,trivial⟩
 iterate 2 refine Rn.uc b λa b=> ?_
 refine Rn.vv b (λo c=>bI (x:= .const (.s ow)) c rfl (b.get (d:=66) rfl) o_) λa b=> ?_;refine Rn.cw b Lf.func13 (fv KS (ow++bd) w (r (bR)).1 p (by rw[a34];omega)) λU i a b=> ?_;have b:aW [(1, .int .i64 q),(5, .pt w0.heap.size),(12, .s (pD id rt v e bd)),(68, .s (eq KS (ow++bd)))] 88 [] a:=b.only ⟨rfl,rfl,rfl,rfl,trivial⟩
 iterate 2 refine Rn.uc b λa b=> ?_
 refine Rn.vv b (λo c=>dl c (b.get (d:=5) rfl) (bk i s)) λa b=> ?_
 iterate 3 refine Rn.uc b λa b=> ?_
 refine Rn.cw b Lf.func37 (Fc (salt:=eq KS (ow++bd)) (msg:=pD id rt v e bd) p k h (aY ..) o_ I (bk i z) O N H G (r i).1 (r i).2) λB R a b=> ?_;have F:=aB (aB g g.size i) (aB g g.size i).size R;refine Rn.vv b (λo c=>bI c (b.get (d:=69) rfl) (b.get (d:=74) rfl) o_) λa b=> ?_;have Z:(pD id rt v e bd++lq KS id seed q (eq KS (ow++bd)) (pD id rt v e bd) X1 X2).size=4448+bd.size:=by rw[a34];omega
 have b:aW [(75, .s (pD id rt v e bd++lq KS id seed q (eq KS (ow++bd)) (pD id rt v e bd) X1 X2))] 88 [] a:=b.only ⟨rfl,trivial⟩;have L:vl KS id seed rt X1 X2 q v e bd=pD id rt v e bd++lq KS id seed q (eq KS (ow++bd)) (pD id rt v e bd) X1 X2++lW (8192-(pD id rt v e bd++lq KS id seed q (eq KS (ow++bd)) (pD id rt v e bd) X1 X2).size):=rfl;rw[L]at C;generalize pD id rt v e bd++lq KS id seed q (eq KS (ow++bd)) (pD id rt v e bd) X1 X2=f at*
 iterate 2 refine Rn.uc b λa b=> ?_
 refine Rn.vv b (λo c=>j6 c (b.get (d:=76) rfl)) λa b=> ?_;refine Rn.vv b (λo c=>(dw (ql:=true) (n:=8192) c (b.get (d:=77) rfl) rfl).1) λa b=> ?_;refine Rn.p rfl (Rn.cond _ (b.get (d:=78) rfl) ?_);rw[decide_eq_true o_]
 iterate 2 refine Rn.uc b λa b=> ?_
 refine Rn.vv b (λo c=>j6 c (b.get (d:=80) rfl)) λa b=> ?_;refine Rn.vv b (λo c=>oa (m:=8192) c rfl (b.get (d:=81) rfl) o_ o_) λa b=> ?_;refine Rn.al b (λo c=>Il o_ c (b.get (d:=82) rfl) (b.get (d:=82) rfl)) λT a Q P S b=> ?_;have D:(C2 (8192- f.size) (0:UInt8)).length=8192- f.size:=Xq;rw[show Value.sk B.heap.size (8192- f.size) (8192- f.size)= .sk B.heap.size (C2 (8192- f.size) (0:UInt8)).length (8192- f.size)from by rw[D]]at b;refine Rn.vv b (λo c=>xN c (b.get (d:=83) rfl) λj J=> ?_) λa b=> ?_
 ·rw[aK P];have A:j<8192- f.size:=by rw[←D];exact J
  rw[List.getElem?_toArray,List.getElem?_replicate,if_pos A,List.getElem_replicate];rfl
 have hz:=jl (8192- f.size);refine Rn.vv b (λo c=>bI (u:=lW (8192- f.size)) c (b.get (d:=79) rfl) (b.get (d:=84) rfl) o_) λa b=> ?_
 iterate 2 refine Rn.uc b λa b=> ?_
 refine Rn.vv b (λo c=>nk (n:=8192) c (b.get (d:=86) rfl) rfl (by rw[a34];omega)) λa b=> ?_;refine Rn.uc b λa b=> ?_;exact Rn.p rfl (C _ _ (aB F F.size Q) (b.only ⟨rfl,trivial⟩))
end
theorem Pb:Tryz.f27.body=some (.seq (rG Tryz.f27 0) (.seq (.seq (rG Tryz.f27 1) (.cond (.tmp 16) (rG Tryz.f27 2) .skip)) (Mz Tryz.f27))):=k_
section
variable{id seed rt bd X1 X2:ByteArray}{nb q v en:Nat}{NL:List ByteArray}
theorem Ek(r:KS.length=64)(j:id.size=16)(c:seed.size<=140737488355320)(k:NL[1]?=some rt)(i:rt.size=32)(C:q<4)(F:NL[(4+q)^^^1]?=some X1)(E:NL[(4+q)/2^^^1]?=some X2)(B:X1.size=32)(A:X2.size=32)(p:bd.size<=500)(D:w0.rangeAt 0 0 (aH KS))(G:0<w0.heap.size)(J:Bw w0 w)(t:w.heap[w0.heap.size]?=some (.cells (gR id seed nb) 27))(u:w.heap[nb]?=some (.cells (NL.map Value.string).toArray 9))(b:aW [(1, .i q),(2, .i v),(3, .i en),(4, .s bd),(5, .pt w0.heap.size)] 88 [] a)
 (s:∀a w',Bw w0 w'->aW [(10, .s ((vl KS id seed rt X1 X2 q v (ru en bd) bd).extract 0 8192))] 88 [] a->Rn lT Goal ((base 27).atR a [.code .ret]) cs w'):
 Rn lT Goal ((base 27).atR a [.code (Mz Tryz.f27)]) cs w:=by
 have O:iD.size=4:=rfl;have N:(pi id rt).size=56:=jK id rt j i;refine Rn.uc b λa b=> ?_;refine Rn.vv b (λo d=>j6 d (b.G 19)) λa b=> ?_;refine Rn.vv b (λo d=>cS (m:=84) d rfl (b.G 20) o_) λa b=> ?_;refine Rn.uc b λa b=> ?_;have b:aW [(1, .i q),(2, .i v),(3, .i en),(4, .s bd),(5, .pt w0.heap.size),(11, .i ((84+bd.size:Nat):Int))] 88 [] a:=b.only ⟨rfl,rfl,rfl,rfl,rfl,rfl,trivial⟩;refine Rn.p rfl (Rn.p rfl ?_);refine Rn.tabL b [(22, .i v),(23, .s (ob v 2)),(24, .s (iD++ob v 2)),(25, .i ((84+bd.size:Nat):Int)),(26, .s (ob (84+bd.size) 4)),(27, .s (iD++ob v 2++ob (84+bd.size) 4)),(28, .s (ob 80 4)),(29, .s (iD++ob v 2++ob (84+bd.size) 4++ob 80 4)),(30, .i ((84+bd.size:Nat):Int)),(31, .s (ob (84+bd.size) 4)),(32, .s (iD++ob v 2++ob (84+bd.size) 4++ob 80 4++ob (84+bd.size) 4)),(33, .s (ob 4364 4)),(34, .s (iD++ob v 2++ob (84+bd.size) 4++ob 80 4++ob (84+bd.size) 4++ob 4364 4)),(35, .agg (gR id seed nb)),(36, .s (pi id rt)),(37, .s (iD++ob v 2++ob (84+bd.size) 4++ob 80 4++ob (84+bd.size) 4++ob 4364 4++pi id rt)),(12, .s (iD++ob v 2++ob (84+bd.size) 4++ob 80 4++ob (84+bd.size) 4++ob 4364 4++pi id rt))] [22,25,30,12] [(12, .s (iD++ob v 2++ob (84+bd.size) 4++ob 80 4++ob (84+bd.size) 4++ob 4364 4++pi id rt))]
  ⟨λz=>z.c2 (z.k 22) kc (eI v 2 o_ _),
   λz=>dv (bI z.qq kc (z.k 23) (by simp only[aG];show iD.size+_<=_;omega)),
   λz=>z.c2 (z.k 25) kc (eI (84+bd.size) 4 o_ _),
   λz=>dv (bI z.qq (z.k 24) (z.k 26) (by first|(simp only[aG];omega)|(simp only[a34,aG];omega))),
   λz=>z.c2 kc kc (eI 80 4 o_ _),
   λz=>dv (bI z.qq (z.k 27) (z.k 28) (by first|(simp only[aG];omega)|(simp only[a34,aG];omega))),
   λz=>z.c2 (z.k 30) kc (eI (84+bd.size) 4 o_ _),
   λz=>dv (bI z.qq (z.k 29) (z.k 31) (by first|(simp only[aG];omega)|(simp only[a34,aG];omega))),
   λz=>z.c2 kc kc (eI 4364 4 o_ _),
   λz=>dv (bI z.qq (z.k 32) (z.k 33) (by first|(simp only[aG];omega)|(simp only[a34,aG];omega))),
   λz=>dv (dl z.qq (z.k 5) (bk z.b t)),
   λz=>z.c1 (z.k 35) (qj j (bk z.b u) k i),
   λz=>dv (bI z.qq (z.k 34) (z.k 36) (by first|(simp only[aG];omega)|(simp only[a34,aG];omega))),
   trivial⟩ λa M I b=> ?_
 have y:=aB J J.size I;have f:=bk I t;have g:=bk I u;refine Rn.uc b λa b=> ?_;refine Rn.vv b (λo d=>xQ (n:=2) d (b.G 38) rfl o_) λa b=> ?_;refine Rn.vv b (λo d=>ca (n:=1) d (b.G 39) rfl) λa b=> ?_;refine Rn.uc b λa b=> ?_;by_cases l:en%2=1
 ·rw[show(((en%2:Nat):Int)==1)=true from by rw[l];rfl]at b;refine Rn.uc b λa b=> ?_;refine Rn.vv b (λo d=>j6 d (b.G 42)) λa b=> ?_;refine Rn.vv b (λo d=>nl (n:=8) d (b.G 43) rfl) λa b=> ?_;refine Rn.vv b (λo d=>mK d (b.G 41) (b.G 44)) λa b=> ?_;refine Rn.p rfl (Rn.cond _ (b.G 45) ?_);by_cases K:8<bd.size
  ·rw[decide_eq_true o_];have x:ru en bd=84:=if_pos ⟨l,K⟩;rw[x]at s;have b:aW [(1, .i q),(2, .i v),(3, .i en),(4, .s bd),(5, .pt w0.heap.size),(11, .i ((84+bd.size:Nat):Int))] 88 [] a:=b.only ⟨rfl,rfl,rfl,rfl,rfl,rfl,trivial⟩;refine Rn.tabL b [(46, .i v),(47, .s (ob v 2)),(48, .s (iD++ob v 2)),(49, .i ((84+bd.size:Nat):Int)),(50, .s (ob (84+bd.size) 4)),(51, .s (iD++ob v 2++ob (84+bd.size) 4)),(52, .s (ob 84 4)),(53, .s (iD++ob v 2++ob (84+bd.size) 4++ob 84 4)),(54, .i ((84+bd.size:Nat):Int)),(55, .s (ob (84+bd.size) 4)),(56, .s (iD++ob v 2++ob (84+bd.size) 4++ob 84 4++ob (84+bd.size) 4)),(57, .s (ob 4364 4)),(58, .s (iD++ob v 2++ob (84+bd.size) 4++ob 84 4++ob (84+bd.size) 4++ob 4364 4)),(59, .agg (gR id seed nb)),(60, .s (pi id rt)),(61, .s (iD++ob v 2++ob (84+bd.size) 4++ob 84 4++ob (84+bd.size) 4++ob 4364 4++pi id rt)),(12, .s (iD++ob v 2++ob (84+bd.size) 4++ob 84 4++ob (84+bd.size) 4++ob 4364 4++pi id rt))] [46,49,54,12] [(12, .s (iD++ob v 2++ob (84+bd.size) 4++ob 84 4++ob (84+bd.size) 4++ob 4364 4++pi id rt))]
    ⟨λz=>z.c2 (z.k 46) kc (eI v 2 o_ _),
     λz=>dv (bI z.qq kc (z.k 47) (by simp only[aG];show iD.size+_<=_;omega)),
     λz=>z.c2 (z.k 49) kc (eI (84+bd.size) 4 o_ _),
     λz=>dv (bI z.qq (z.k 48) (z.k 50) (by first|(simp only[aG];omega)|(simp only[a34,aG];omega))),
     λz=>z.c2 kc kc (eI 84 4 o_ _),
     λz=>dv (bI z.qq (z.k 51) (z.k 52) (by first|(simp only[aG];omega)|(simp only[a34,aG];omega))),
     λz=>z.c2 (z.k 54) kc (eI (84+bd.size) 4 o_ _),
     λz=>dv (bI z.qq (z.k 53) (z.k 55) (by first|(simp only[aG];omega)|(simp only[a34,aG];omega))),
     λz=>z.c2 kc kc (eI 4364 4 o_ _),
     λz=>dv (bI z.qq (z.k 56) (z.k 57) (by first|(simp only[aG];omega)|(simp only[a34,aG];omega))),
     λz=>dv (dl z.qq (z.k 5) (bk z.b f)),
     λz=>z.c1 (z.k 59) (qj j (bk z.b g) k i),
     λz=>dv (bI z.qq (z.k 58) (z.k 60) (by first|(simp only[aG];omega)|(simp only[a34,aG];omega))),
     trivial⟩ λa L H b=> ?_
   exact yi (e:=84) r j c i p C F E B A D G (aB y y.size H) (bk H f) (bk H g) (b.only ⟨rfl,rfl,rfl,rfl,trivial⟩) s
  ·rw[decide_eq_false o_];have x:ru en bd=80:=if_neg λh=>K h.2;rw[x]at s;exact Rn.p rfl (yi (e:=80) r j c i p C F E B A D G y f g (b.only ⟨rfl,rfl,rfl,rfl,trivial⟩) s)
 ·rw[show(((en%2:Nat):Int)==1)=false from by rw[show en%2=0 by omega];rfl]at b
  iterate 3 refine Rn.us b λa b=> ?_
  refine Rn.vv b (λo d=>i0 d (b.G 41) rfl) λa b=> ?_;refine Rn.p rfl (Rn.cond _ (b.G 45) ?_);have x:ru en bd=80:=if_neg λh=>l h.1;rw[x]at s;exact Rn.p rfl (yi (e:=80) r j c i p C F E B A D G y f g (b.only ⟨rfl,rfl,rfl,rfl,trivial⟩) s)
end
section
variable{id seed rt X1 X2:ByteArray}{nb q:Nat}{NL:List ByteArray}
theorem wF(j:KS.length=64)(i:id.size=16)(c:seed.size<=140737488355320)(d:NL[1]?=some rt)(f:rt.size=32)(r:q<4)(y:NL[(4+q)^^^1]?=some X1)(x:NL[(4+q)/2^^^1]?=some X2)(p:X1.size=32)(m:X2.size=32)(v en:Nat)(B:ByteArray)(h:w.heap[nb]?=some (.cells (NL.map Value.string).toArray 9))(s:w.rangeAt 0 0 (aH KS))(z:0<w.heap.size):
 Calls lT 27 #[.agg (gR id seed nb), .i q, .i v, .i en, .s B] w λe w'=>e= .returned (.s ((vl KS id seed rt X1 X2 q v (ru en (oy B)) (oy B)).extract 0 8192))/\Bw w w':=by
 refine aT (t:=10) Lf.func27 rfl λE=> ?_;rw[aV (N:=88) [.agg (gR id seed nb), .i q, .i v, .i en, .s B] Lf.func27 Pb rfl];have b:=aN [.agg (gR id seed nb), .i q, .i v, .i en, .s B] 88 s_;refine Rn.zz b λD a k A C b=> ?_
 iterate 2 refine Rn.uc b λa b=> ?_
 refine Rn.vv b (λo g=>j6 g (b.G 14)) λa b=> ?_;refine Rn.vv b (λo g=>nl (n:=500) g (b.G 15) rfl) λa b=> ?_;refine Rn.p rfl (Rn.cond _ (b.G 16) ?_);by_cases u:500<B.size
 ·rw[decide_eq_true o_,show oy B=B.extract 0 500 from if_pos u];refine Rn.uc b λa b=> ?_;refine Rn.vv b (λo g=>nk (n:=500) g (b.G 17) rfl o_) λa b=> ?_;refine Rn.uc b λa b=> ?_;exact Rn.p rfl (Ek j i c d f r y x p m (by rw[a52];omega) s z k A (bk k h) (b.only ⟨rfl,rfl,rfl,rfl,rfl,trivial⟩) λa w' l b=>Rn.fi b ⟨rfl,l⟩)
 ·rw[decide_eq_false o_,show oy B=B from if_neg u];exact Rn.p rfl (Ek j i c d f r y x p m o_ s z k A (bk k h) (b.only ⟨rfl,rfl,rfl,rfl,rfl,trivial⟩) λa w' l b=>Rn.fi b ⟨rfl,l⟩)
end
end L1
section
open Go.Conc Go.RowKit
def Rb(KS:List Int)(id seed rt n3 l1 a:ByteArray):ByteArray:=(vl KS id seed rt l1 n3 0 3 (ru 0 (oy a)) (oy a)).extract 0 8192
def Ra(KS:List Int)(id seed rt n3 l0 b:ByteArray):ByteArray:=(vl KS id seed rt l0 n3 1 4 (ru 1 (oy b)) (oy b)).extract 0 8192
theorem Ov(KS:List Int)(id seed rt b c a:ByteArray):(Rb KS id seed rt b c a).size<=8192:=by rw[Rb,a52];omega
theorem Ou(KS:List Int)(id seed rt a c b:ByteArray):(Ra KS id seed rt a c b).size<=8192:=by rw[Ra,a52];omega
def GN(KS:List Int)(id seed rt n3 l1 a:ByteArray)(has:Nat):ByteArray:=if has&&&1=1 then Rb KS id seed rt n3 l1 a else lW 8192
def Hf(KS:List Int)(id seed rt n3 l0 b:ByteArray)(has:Nat):ByteArray:=if has&&&2=2 then Ra KS id seed rt n3 l0 b else lW 8192
theorem Np(KS:List Int)(id seed rt c d a:ByteArray)(b:Nat):(GN KS id seed rt c d a b).size<=8192:=by
 unfold GN;split
 ·exact Ov ..
 ·rw[jl];omega
theorem Nn(KS:List Int)(id seed rt c d b:ByteArray)(a:Nat):(Hf KS id seed rt c d b a).size<=8192:=by
 unfold Hf;split
 ·exact Ou ..
 ·rw[jl];omega
end
namespace L1
open Go.Conc Go.RowKit
def R7(f:Func):Code:= .seq (rG f 7) .ret
def Mw(f:Func):Code:= .seq (.seq (rG f 5) (.cond (.tmp 21) (rG f 6) .skip)) (R7 f)
theorem OP:Tryz.f11.body=some (.seq (rG Tryz.f11 0) (.seq (rG Tryz.f11 1) (.seq (rG Tryz.f11 2) (.seq (.seq (rG Tryz.f11 3) (.cond (.tmp 15) (rG Tryz.f11 4) .skip)) (Mw Tryz.f11))))):=k_
section
variable{id seed rt n2 n3 l0 l1 l2 l3:ByteArray}{nb:Nat}
theorem xB(r:KS.length=64)(m:id.size=16)(f:seed.size<=140737488355320)(G:rt.size=32)(F:n3.size=32)(O:l0.size=32)(M:l1.size=32)(c:Nat)(Y:c<4)(A B:ByteArray)(l:w.heap[nb]?=some (.cells ([⟨#[]⟩,rt,n2,n3,l0,l1,l2,l3].map Value.string).toArray 9))(S:w.rangeAt 0 0 (aH KS))(H:0<w.heap.size):
 Calls lT 11 #[.agg (gR id seed nb), .i c, .s A, .s B] w λe w'=>e= .returned (.s (GN KS id seed rt n3 l1 A c++Hf KS id seed rt n3 l0 B c))/\Bw w w':=by
 refine aT (t:=8) Lf.func11 rfl λI=> ?_;rw[aV (N:=28) [.agg (gR id seed nb), .i c, .s A, .s B] Lf.func11 OP rfl];have b:=aN [.agg (gR id seed nb), .i c, .s A, .s B] 28 s_;refine Rn.zz b λQ a u T L b=> ?_;refine Rn.uc b λa b=> ?_;refine Rn.cw b Lf.func26 (sc Q) λP E a b=> ?_;refine Rn.uc b λa b=> ?_;refine Rn.cw b Lf.func26 (sc P) λX K a b=> ?_;have j:=aB (aB u u.size E) (aB u u.size E).size K;have D:=bk K (bk E T);have b:aW [(1, .i c),(2, .s A),(3, .s B),(4, .pt w.heap.size),(9, .s (lW 8192)),(12, .s (lW 8192))] 28 [] a:=b.only ⟨rfl,rfl,rfl,rfl,rfl,rfl,trivial⟩
 iterate 2 refine Rn.uc b λa b=> ?_
 refine Rn.vv b (λo d=>kH (n:=1) d (b.G 13) rfl) λa b=> ?_;rw[show(1:Int)=((1:Nat):Int)from rfl,SC c 1 o_ o_]at b;refine Rn.vv b (λo d=>ca (n:=1) d (b.G 14) rfl) λa b=> ?_;refine Rn.p rfl (Rn.cond _ (b.G 15) ?_);have s:∀{w':World},Bw w w'->w'.rangeAt 0 0 (aH KS)/\0<w'.heap.size:=λp=>⟨SA H p S,a38 H p.size⟩;have h:∀{a:Act} {w':World},Bw w w'->w'.heap[w.heap.size]?=some (.cells (gR id seed nb) 27)->aW [(1, .i c),(3, .s B),(4, .pt w.heap.size),(9, .s (GN KS id seed rt n3 l1 A c)),(10, .s (lW 8192))] 28 [] a->Rn lT (λg w'=>∃(a:Act) (k:List Item) (v:Value),g=gB {(base 11).atR a k with mode:= .returning} I/\a.defers=[]/\a.tmps[8]?=some v/\Vg v= .returned (.s (GN KS id seed rt n3 l1 A c++Hf KS id seed rt n3 l0 B c))/\Bw w w') ((base 11).atR a [.code (Mw Tryz.f11)]) I w':=λ{a w'} i R b=>by
  have e1:=Np KS id seed rt n3 l1 A c;have Z:=Nn KS id seed rt n3 l0 B c;refine Rn.uc b λa b=> ?_;refine Rn.vv b (λo d=>kH (n:=2) d (b.G 19) rfl) λa b=> ?_;rw[show(2:Int)=((2:Nat):Int)from rfl,SC c 2 o_ o_]at b;refine Rn.vv b (λo d=>ca (n:=2) d (b.G 20) rfl) λa b=> ?_;refine Rn.p rfl (Rn.cond _ (b.G 21) ?_);by_cases x:c&&&2=2
  ·rw[show(((c&&&2:Nat):Int)==2)=true from by rw[x];rfl];refine Rn.vv b (λo d=>dl d (b.G 4) R) λa b=> ?_;refine Rn.uc b λa b=> ?_;refine Rn.cw b Lf.func27 (wF (q:=1) (X1:=l0) (X2:=n3) r m f rfl G o_ rfl rfl O F 4 1 B (bk i l) (s i).1 (s i).2) λV U a b=> ?_;have z:Hf KS id seed rt n3 l0 B c=Ra KS id seed rt n3 l0 B:=if_pos x;have b:aW [(9, .s (GN KS id seed rt n3 l1 A c)),(24, .s (Hf KS id seed rt n3 l0 B c))] 28 [] a:=by rw[z];exact b.only ⟨rfl,rfl,trivial⟩
   iterate 3 refine Rn.uc b λa b=> ?_
   refine Rn.vv b (λo d=>bI d (b.G 25) (b.G 26) o_) λa b=> ?_;refine Rn.uc b λa b=> ?_;exact Rn.fi b ⟨rfl,aB i i.size U⟩
  ·rw[show(((c&&&2:Nat):Int)==2)=false from by rw[beq_eq_false_iff_ne];omega];have z:Hf KS id seed rt n3 l0 B c=lW 8192:=if_neg x;have b:aW [(9, .s (GN KS id seed rt n3 l1 A c)),(10, .s (Hf KS id seed rt n3 l0 B c))] 28 [] a:=by rw[z];exact b.only ⟨rfl,rfl,trivial⟩
   iterate 2 refine Rn.uc b λa b=> ?_
   refine Rn.vv b (λo d=>bI d (b.G 25) (b.G 26) o_) λa b=> ?_;refine Rn.uc b λa b=> ?_;exact Rn.fi b ⟨rfl,i⟩
 by_cases y:c&&&1=1
 ·rw[show(((c&&&1:Nat):Int)==1)=true from by rw[y];rfl];refine Rn.vv b (λo d=>dl d (b.G 4) D) λa b=> ?_;refine Rn.uc b λa b=> ?_;refine Rn.cw b Lf.func27 (wF (q:=0) (X1:=l1) (X2:=n3) r m f rfl G o_ rfl rfl M F 3 0 A (bk j l) (s j).1 (s j).2) λW J a b=> ?_;refine Rn.uc b λa b=> ?_;have C:GN KS id seed rt n3 l1 A c=Rb KS id seed rt n3 l1 A:=if_pos y;exact Rn.p rfl (h (aB j j.size J) (bk J D) (by rw[C];exact b.only ⟨rfl,rfl,rfl,rfl,rfl,trivial⟩))
 ·rw[show(((c&&&1:Nat):Int)==1)=false from by rw[beq_eq_false_iff_ne];omega];have C:GN KS id seed rt n3 l1 A c=lW 8192:=if_neg y;exact Rn.p rfl (h j D (by rw[C];exact b.only ⟨rfl,rfl,rfl,rfl,rfl,trivial⟩))
end
end L1
section
open Go.Conc Go.RowKit
section
variable{b:Frame}{k:List Item}
theorem Rn.ve{i:List Item}{d:Tmp}{p:Op}{R:Value->World->Prop}{l:Option (Nat×Bool)}(j:aW F N ds a)(q:∀o:Oper,o.op=p->∃v w',(execOp a.eval o).run P w= .ok (.value v) w'/\R v w')(next:∀v w',R v w'->∀a',aW ((d,v)::F) N ds a'->Rn P Goal (b.atR a' (.inRegion ops rest::i)) cs w')(x:mc 6 (b.atR a k)= .inRegion ops (m::rest)::i:=by rfl)
 (h:(ops[m]?).map (λo=>(o.dst,o.op,o.guard))=some (some d,p,l):=by rfl) (r:gF ops F l=true:=by rfl) (s:d<N:=by decide) (f:nd p=true:=by rfl):Rn P Goal (b.atR a k) cs w:=by
 refine Rn.gr ?_ x;cases g:ops[m]? with
 |none=>rw[g]at h;cases h
 |some o=>
  rw[g]at h;simp only[Option.map_some,Option.some.injEq,Prod.mk.injEq]at h;obtain⟨z,n,y⟩:=h;obtain⟨v,w',u,t⟩:=q o n;refine Rn.ran g (lF j y r) (λc e=>by rw[←n,e]at f;cases f) u ?_;rw[z];exact next v w' t _ (j.put s v)
end
def dR(L:List Int):List Value:=L.map (Value.int .i64)
theorem wD(L:List Int):∀u∈dR L,u.oneCell'=true:=by intro u a;obtain⟨_,_,rfl⟩:=VJ.1 a;rfl
def rP(hs:ByteArray)(j:Nat):Nat:=(hs.data.toList.getD (2*j) 0).toNat*2^8|||(hs.data.toList.getD (2*j+1) 0).toNat
def Bp(hs:ByteArray)(on:Bool)(j:Nat):List Int:=(Ak j).map λx=>if on then((rP hs x:Nat):Int)else 0
theorem IF(hs:ByteArray)(on:Bool)(j:Nat):Bp hs on (j+1)=Bp hs on j++[if on then((rP hs j:Nat):Int)else 0]:=by simp[Bp,WR]
end
namespace L1
open Go.Conc Go.RowKit
section
variable{y:Operand}
theorem Jn{base gb:Nat}{L news:List Int}(b:w.ownsRow base 3 1 v n (dR L))(s:w.heap[gb]?=some (.cells (dR news).toArray 3))(q:news.length=m)(h:ev (.tmp k)=v)(g:ev (.tmp j)= .sk gb m m)(z:n+m<=1000)(f:base<=w.heap.size)(p:∀c,v.ownBlock=some c->base<=c)(o:Oper)(d:o.op= .call {callee:= .builtin .append,args:=#[.tmp k, .tmp j],argTypes:=#[22,22]}):
 ∃v' w',(execOp ev o).run lT w= .ok (.value v') w'/\w'.ownsRow base 3 1 v' (n+m) (dR (L++news))/\Below base w w':=by
 obtain⟨i,r,a⟩:=By.1 (show(lT.info? 3).map (λi=>(i.zero,i.size,i.bytes))=some (some (.i 0),1,8) by kernel_rfl);simp only[Prod.mk.injEq]at a;obtain⟨v',w',y,x,t,_⟩:=run_append_own (P:=aI true tP) w base 22 o.type 3 i (.i 0) 1 8 k_ r a.1 a.2.1 a.2.2 rfl o_ v n (dR L) b ⟨gb,0,none⟩ m m (dR news) (by simp[dR,q]) (λj u l=>by rw[CH,a46,aK s];simpa using l) (wD news) (by unfold maxLen;omega) o_ f;refine⟨v',w', ?_,by rw[show dR (L++news)=dR L++dR news from List.map_append ..];exact x,(Below.refl base w).grown t f p⟩;have e:execOp ev o=(do pure (.value (←Builtin.append_ #[22,22] o.type #[v, .sk gb m m]))):=by simp[execOp,d,resolve,h,g,invoke,builtin]
 rw[e];exact o7 y
theorem NO{m:Int}(a:o.op= .buildSlice 22 1 #[(0,x)])(b:ev x= .i m):(execOp ev o).run lT w= .ok (.value (.sk w.heap.size 1 1)) (w.alloc (.cells #[.i m] 3)):=by
 have e:execOp ev o=(do pure (.value (←Fi 22 1 #[(0, .i m)]))):=by simp[execOp,a,b]
 have c:(do pure (.value (←Fi 22 1 #[(0, .i m)])):Sem Next).run lT w= .ok (.value (.sk w.heap.size 1 1)) (w.alloc (.cells #[.i m] 3)):=k_
 rw[e,c]
theorem Kw(d:m<256)(a:o.op= .binOp .shl 3 x y u)(c:ev x= .i m)(b:ev y= .int .u64 8):(execOp ev o).run lT w= .ok (.value (.i ((m*2^8:Nat):Int))) w:=by
 have e:A8.wrap ((m:Int)*256)=((m*256:Nat):Int):=by rw[a5_];omega
 simp[execOp,a,c,b,go_sem,e]
theorem BV(f:m<100000)(d:n<100000)(a:o.op= .binOp .or 3 x y u)(c:ev x= .i m)(b:ev y= .i n):(execOp ev o).run lT w= .ok (.value (.i ((m|||n:Nat):Int))) w:=by have e:=pj m n o_ o_;simp[execOp,a,c,b,go_sem,e]
end
theorem qY{base:Nat}{xs:List Value}(h:w.ownsRow base 3 1 v n xs):∀c,v.ownBlock=some c->base<=c:=λc a=>by
 rcases h.2 with⟨rfl,_⟩|⟨f,e,d,rfl,b,_⟩
 ·cases a
 ·cases a;exact b
theorem qX{base:Nat}{xs:List Value}(h:w.ownsRow base 3 1 v n xs)(a:Bw w w'):w'.ownsRow base 3 1 v n xs:=
 h.kept (row:=none) ⟨a.os,a.tape,a.output,a.size,λk b _=>a.block k b⟩ (by cases v.ownBlock<;>simp)
end L1
section
open Go.Conc Go.RowKit
section
variable{S:Nat->Prop}{b:Frame}{k:List Item}
theorem em.runs:∀(n:Nat) (k:List Item),em P Post S (gB (b.atR a (mc n (b.atR a k))) cs) w->em P Post S (gB (b.atR a k) cs) w
 |0,_,h=>h
 |n+1,k,h=>by
  unfold mc at h;split at h
  ·exact h
  ·split at h
   ·rename_i t c;exact em.plain c (em.runs n t h)
   ·exact h
theorem em.gr{c:List Item}(next:em P Post S (gB (b.atR a (.inRegion ops (m::rest)::c)) cs) w)(h:mc 6 (b.atR a k)= .inRegion ops (m::rest)::c:=by rfl):em P Post S (gB (b.atR a k) cs) w:=em.runs 6 k (by rw[h];exact next)
theorem em.cond{A B:Code}(q:Bool)(c:a.eval x= .bool q)(h:em P Post S (gB (b.atR a (.code (if q then A else B)::k)) cs) w):em P Post S (gB (b.atR a (.code (.cond x A B)::k)) cs) w:=by
 refine em.plain (t:= .code (if q then A else B)::k) ?_ h;have e:(b.atR a (.code (.cond x A B)::k)).eval x= .bool q:=by rw[Frame.eval_atR];exact c
 show(match (b.atR a (.code (.cond x A B)::k)).eval x with| .bool q=>some (Item.code (if q then A else B)::k)|_=>none)=_;rw[e]
theorem em.vv{i:List Item}{d:Tmp}{p:Op}{s:Option (Nat×Bool)}(r:aW F N ds a)(n:∀(o:Oper) (c:Nat),o.op=p->Yl P a.eval o (w.at c) v es)(j:∀e∈es,EvL (eZ S) w.heap.size e)(next:∀a',aW ((d,v)::F) N ds a'->em P Post S (gB (b.atR a' (.inRegion ops rest::i)) cs) w)(x:mc 6 (b.atR a k)= .inRegion ops (m::rest)::i:=by rfl)
 (h:(ops[m]?).map (λo=>(o.dst,o.op,o.guard))=some (some d,p,s):=by rfl) (t:gF ops F s=true:=by rfl) (u:d<N:=by decide) (f:nd p=true:=by rfl):em P Post S (gB (b.atR a k) cs) w:=by
 refine em.gr ?_ x;cases g:ops[m]? with
 |none=>rw[g]at h;cases h
 |some o=>
  rw[g]at h;simp only[Option.map_some,Option.some.injEq,Prod.mk.injEq]at h;obtain⟨z,l,y⟩:=h;refine em.oper g (lF r y t) (λc e=>by rw[←l,e]at f;cases f) λc=>⟨.value v,w.at c,(n o c l).1,rfl,Nat.le_refl _,λe q=>j e (by rw[(n o c l).2]at q;exact q),em.at ?_ c⟩;show em P Post S (gB ((b.atR a (.inRegion ops (m::rest)::i)).finish v) cs) w;rw[Frame.finish_atR,g,Option.bind_some,z];exact next _ (r.put u v)
theorem em.us{k':List Item}{d:Tmp}{p:Op}{g:Nat}(hF:aW F N ds a)(next:∀a',aW ((d,undef)::F) N ds a'->em P Post S (gB (b.atR a' (.inRegion ops rest::k')) cs) w)(h0:mc 6 (b.atR a k)= .inRegion ops (m::rest)::k':=by rfl)
 (h:(ops[m]?).map (λo=>(o.dst,o.op,o.guard))=some (some d,p,some (g,q)):=by rfl) (hw:gF ops F (some (g, !q))=true:=by rfl) (hd:d<N:=by decide):em P Post S (gB (b.atR a k) cs) w:=by
 refine em.gr ?_ h0;cases ho:ops[m]? with
 |none=>rw[ho]at h;cases h
 |some o=>
  rw[ho]at h;simp only[Option.map_some,Option.some.injEq,Prod.mk.injEq]at h;obtain⟨e1,e2,e3⟩:=h;have hwd:Region.wanted o (yielded ops a.tmps)=false:=by
   unfold Region.wanted yielded;rw[e3];simp only[gF]at hw;cases hs:(ops[g]?).bind (·.dst)with
   |none=>rw[hs]at hw;simp at hw
   |some s=>
    rw[hs]at hw;simp only at hw;cases hr:F.lookup s with
    |none=>rw[hr]at hw;simp at hw
    |some u=>
     rw[hr]at hw;cases u with
     |bool r=>simp[hs,hF.slot s _ hr];cases r<;>cases q<;>simp_all
     |_=>simp at hw
  refine em.exec rfl λc=>⟨_,w.at c,#[],jq (fr:=b.atR a (.inRegion ops (m::rest)::k')) rfl (by rw[ho];exact hwd),Nat.le_refl _,λe he=>by simp at he,em.at ?_ c⟩;show em P Post S (gB ((b.atR a (.inRegion ops (m::rest)::k')).finish undef) cs) w;rw[Frame.finish_atR,ho,Option.bind_some,e1];exact next _ (hF.put hd undef)
theorem em.aa{k':List Item}{d:Tmp}{p:Op}{cells:Array Value}{u:Value}(hF:aW F N ds a)(hy:∀(o:Oper) (c:Nat),o.op=p->(execOp a.eval o).run P (w.at c)= .ok (.value u) ((w.at c).alloc (.cells cells t))/\(execOp a.eval o).events P (w.at c) #[]=#[])
 (next:∀w' a',Bw w w'->w'.heap[w.heap.size]?=some (.cells cells t)->w'.heap.size=w.heap.size+1->aW ((d,u)::F) N ds a'->em P Post S (gB (b.atR a' (.inRegion ops rest::k')) cs) w') (h0:mc 6 (b.atR a k)= .inRegion ops (m::rest)::k':=by rfl)
 (h:(ops[m]?).map (λo=>(o.dst,o.op,o.guard))=some (some d,p,none):=by rfl) (hd:d<N:=by decide) (hnd:nd p=true:=by rfl):em P Post S (gB (b.atR a k) cs) w:=by
 refine em.gr ?_ h0;cases ho:ops[m]? with
 |none=>rw[ho]at h;cases h
 |some o=>
  rw[ho]at h;simp only[Option.map_some,Option.some.injEq,Prod.mk.injEq]at h;obtain⟨e1,e2,e3⟩:=h;refine em.oper ho (by simp[Region.wanted,e3]) (λc e=>by rw[←e2,e]at hnd;cases hnd) λc=>⟨.value u,_,(hy o c e2).1,rfl,by rw[aQ];exact Nat.le_succ _,λe he=>by rw[(hy o c e2).2]at he;simp at he, ?_⟩;show em P Post S (gB ((b.atR a (.inRegion ops (m::rest)::k')).finish u) cs) _;rw[Frame.finish_atR,ho,Option.bind_some,e1];have hat:Bw w (w.at c):=⟨rfl,rfl,rfl,Nat.le_refl _,λ_ _=>rfl⟩;exact next _ _ (hat.trans (aZ (w.at c) _)) (bJ (w.at c) _) (aQ (w.at c) _) (hF.put hd u)
theorem em.ss{l:List Item}{p:Op}{r:Nat}{d:Nat->World}(t:aW F N ds a)(n:r<w.heap.size)(q:¬S r)(i:∀(o:Oper) (c:Nat),o.op=p->(execOp a.eval o).run P (w.at c)= .ok .skip (d c)/\(d c).heap.size=w.heap.size/\∀e∈(execOp a.eval o).events P (w.at c) #[],∃k,e=⟨.cell ⟨r,k,none⟩,true,false⟩)
 (next:∀c a',aW F N ds a'->em P Post S (gB (b.atR a' (.inRegion ops rest::l)) cs) (d c)) (u:mc 6 (b.atR a k)= .inRegion ops (m::rest)::l:=by rfl)
 (h:(ops[m]?).map (λo=>(o.dst,o.op,o.guard))=some (none,p,none):=by rfl) (f:nd p=true:=by rfl):em P Post S (gB (b.atR a k) cs) w:=by
 refine em.gr ?_ u;cases j:ops[m]? with
 |none=>rw[j]at h;cases h
 |some o=>
  rw[j]at h;simp only[Option.map_some,Option.some.injEq,Prod.mk.injEq]at h;obtain⟨x,g,v⟩:=h;refine em.oper j (by simp[Region.wanted,v]) (λc e=>by rw[←g,e]at f;cases f) λc=>⟨.skip,d c,(i o c g).1,rfl,Nat.le_of_eq (i o c g).2.1.symm,λe s=> ?_, ?_⟩
  ·obtain⟨k,rfl⟩:=(i o c g).2.2 e s;exact T7 (by rw[(i o c g).2.1];exact n) q
  ·show em P Post S (gB ((b.atR a (.inRegion ops (m::rest)::l)).finish undef) cs) (d c);rw[Frame.finish_atR,j,Option.bind_some,x];exact next c _ t
theorem em.cc{d:Tmp}{xs:Array Operand}{ats:Array TypeId}{vs:List Value}{j:List Item}(r:aW F N ds a)(u:P.funcs[f]?=some fn)
 (l:∀c':Frame,(∀t,c'.mode≠ .panicking t)->(∀(n:Nat->Prop) (w':World) (v:Value),(∀a',aW ((d,v)::F) N ds a'->em P Post n (gB (b.atR a' (.inRegion ops rest::j)) cs) w')->em P Post n (gB (c'.finish v) cs) w')->em P Post S (cd P f vs.toArray (c'::cs)) w) (A:mc 6 (b.atR a k)= .inRegion ops (m::rest)::j:=by rfl)
 (h:(ops[m]?).map (λo=>(o.dst,o.op,o.guard))=some (some d, .call {callee:= .value (.func f),args:=xs,argTypes:=ats},none):=by rfl) (z:OB F xs.toList=some vs:=by rfl) (x:d<N:=by decide) (g:(fn.name== "runtime.NumGoroutine")=false:=by kernel_rfl) (y:fn.body.isNone=false:=by kernel_rfl):em P Post S (gB (b.atR a k) cs) w:=by
 refine em.gr ?_ A;cases i:ops[m]? with
 |none=>rw[i]at h;cases h
 |some o=>
  rw[i]at h;simp only[Option.map_some,Option.some.injEq,Prod.mk.injEq]at h;obtain⟨C,s,B⟩:=h;refine em.oper i (by simp[Region.wanted,B]) (λc e=>by rw[s]at e;cases e) λc=> ?_;have q:=bU (w:=w.at c) s (by rw[←To r _ _ z,←Array.toList_map,Array.toArray_toList]) (dq u g y vs.toArray);refine⟨.enter f vs.toArray,w.at c,q.1,rfl,Nat.le_refl _,λe p=>by rw[q.2]at p;simp at p,em.at ?_ c⟩;refine l (b.atR a (.inRegion ops (m::rest)::j)) (λt e=>by cases e) λn w' v next=> ?_
  rw[Frame.finish_atR,i,Option.bind_some,C];exact next _ (r.put x v)
end
section
variable{y z:Operand}
theorem UU(a:o.op= .move x)(b:ev x=v):Yl P ev o w v #[]:=b▸cz P (.inl a)
theorem UX(a:o.op= .assign x)(b:ev x=v):Yl P ev o w v #[]:=b▸cz P (.inr a)
theorem UW{vs:Array Value}(a:o.op= .extract x i)(b:ev x= .tuple vs)(hv:vs[i]?=some v):Yl P ev o w v #[]:=⟨zv a b hv,by simp[execOp,a,b,hv,go_sem]⟩
theorem UR(a:o.op= .pick x y z)(c:ev x= .bool true)(b:ev y=v):Yl tP ev o w v #[]:=by constructor<;>simp[execOp,a,c,b,asBool]
theorem US(a:o.op= .pick x y z)(c:ev x= .bool false)(b:ev z=v):Yl tP ev o w v #[]:=by constructor<;>simp[execOp,a,c,b,asBool]
theorem Ur(a:o.op= .binOp .eql 33 x y u)(d:ev x= .pk b 0)(c:ev y= .pointer none):Yl tP ev o w (.bool false) #[]:=by
 have e:execOp ev o=(do pure (.value (←(do eqGuard .eql 33 x y (.pk b 0) (.pointer none);binOp .eql 33 (.pk b 0) (.pointer none))))):=by simp only[execOp,a,d,c]
 unfold Yl;rw[e];constructor<;>kernel_rfl
theorem Up(a:o.op= .binOp .neq 33 x y u)(d:ev x= .pk b 0)(c:ev y= .pointer none):Yl tP ev o w (.bool true) #[]:=by
 have e:execOp ev o=(do pure (.value (←(do eqGuard .neq 33 x y (.pk b 0) (.pointer none);binOp .neq 33 (.pk b 0) (.pointer none))))):=by simp only[execOp,a,d,c]
 unfold Yl;rw[e];constructor<;>kernel_rfl
theorem UV(j:Nat)(d:j<5)(a:o.op= .fieldAddr 36 x j)(c:ev x= .pk b 0):Yl tP ev o w (.pk b j) #[]:=by
 have e:execOp ev o=(do pure (.value (←Instr.fieldAt 36 (.pk b 0) j))):=by simp only[execOp,a,c]
 unfold Yl;rw[e];rcases(o_:j=0\/j=1\/j=2\/j=3\/j=4)with rfl|rfl|rfl|rfl|rfl<;>constructor<;>kernel_rfl
theorem Us{m n:Int}(a:o.op= .binOp .eql 34 x y u)(c:ev x= .i m)(b:ev y= .i n):Yl tP ev o w (.bool (m==n)) #[]:=by constructor<;>simp[execOp,a,c,b,go_sem]
theorem UT(f:m<100000)(d:n<100000)(a:o.op= .binOp .or 3 x y u)(c:ev x= .i m)(b:ev y= .i n):Yl tP ev o w (.i ((m|||n:Nat):Int)) #[]:=by have e:=pj m n o_ o_;constructor<;>simp[execOp,a,c,b,go_sem,e]
theorem TR(f:m<100000)(d:n<100000)(a:o.op= .binOp .xor 3 x y u)(c:ev x= .i m)(b:ev y= .i n):Yl tP ev o w (.i ((m^^^n:Nat):Int)) #[]:=by have e:=Ae m n o_ o_;constructor<;>simp[execOp,a,c,b,go_sem,e]
theorem Uo(g:k<16)(a:o.op= .binOp .shl 3 x y u)(c:ev x= .i 1)(b:ev y= .i k):Yl tP ev o w (.i ((2^k:Nat):Int)) #[]:=by
 have i:(0:Int)<=(k:Int):=o_
 have h:(k:Int)<=64:=o_
 have d:(2:Nat)^k<=2^16:=OZ o_ o_;have e:A8.wrap ((2:Int)^k)=((2^k:Nat):Int):=by
  rw[a5_];have f:(2:Int)^k=((2^k:Nat):Int):=by rw[LK];rfl
  rw[f];generalize 2^k=q at d;omega
 constructor<;>simp[execOp,a,c,b,go_sem,e]
theorem Uq{p:Option Addr}{c:Nat}(a:o.op= .call {callee:= .builtin .len,args:=#[.tmp k],argTypes:=#[22]})(b:ev (.tmp k)= .slice p l c):Yl tP ev o w (.i l) #[]:=by
 have d:Tryz.prog.underlying 22=some (.slice 3):=k_
 constructor<;>simp[execOp,a,resolve,b,invoke,builtin,Builtin.len_,run_underlying d,goInt]
theorem Tc{a:Addr}{len cap:Nat}(b:o.op= .indexAddr 22 x y)(d:ev x= .slice (some a) len cap)(c:ev y= .i n)(f:n<len):Yl tP ev o w (.pointer (some (a.add n))) #[]:=eA (e:=3) k_ (λw=>k_) b d c f
theorem U6:Bq tP 4:=λw=>⟨k_,k_⟩
theorem Uz:Bq tP 34:=λw=>⟨k_,k_⟩
end
end
section
open Go.RowKit
def SN:List Int:=[1116352408,1899447441,3049323471,3921009573,961987163,1508970993,2453635748,2870763221,3624381080,310598401,607225278,1426881987,1925078388,2162078206,2614888103,3248222580,3835390401,4022224774,264347078,604807628,770255983,1249150122,1555081692,1996064986,2554220882,2821834349,2952996808,3210313671,3336571891,3584528711,113926993,338241895,666307205,773529912,1294757372,1396182291,1695183700,1986661051,2177026350,2456956037,2730485921,2820302411,3259730800,3345764771,3516065817,3600352804,4094571909,275423344,430227734,506948616,659060556,883997877,958139571,1322822218,1537002063,1747873779,1955562222,2024104815,2227730452,2361852424,2428436474,2756734187,3204031479,3329325298]
theorem bQ:SN.length=64:=by decide+kernel
theorem Ff:ip SN []=[227,176,196,66,152,252,28,20,154,251,244,200,153,111,185,36,39,174,65,228,100,155,147,76,164,149,153,27,120,82,184,85]:=by decide+kernel
theorem Kf:ip SN [97,98,99]=[186,120,22,191,143,1,207,234,65,65,64,222,93,174,34,35,176,3,97,163,150,23,122,156,180,16,255,97,242,0,21,173]:=by decide+kernel
end
namespace L1
open Go.RowKit
theorem rm(w:World)(g:w.rangeAt 0 0 (aH SN))(m:0<w.heap.size):
 Calls lT 8 #[] w λe w'=>e= .returned (.bool true)/\Bw w w':=by
 have f:=fv SN ⟨#[]⟩ w g bQ d_;have k:ip SN (ByteArray.mk #[]).data.toList=[227,176,196,66,152,252,28,20,154,251,244,200,153,111,185,36,39,174,65,228,100,155,147,76,164,149,153,27,120,82,184,85]:=Ff;rw[k]at f;have p:Hid (Calls _ _ _ _ _):=f;have n:Hid (w.rangeAt 0 0 (aH SN)):=g;clear f k g
 go_enter Lf.func8,Tryz.ntmps8
 go_wp2_with fail
 refine p.out.mono ?_;rintro e i ⟨rfl,a⟩;have d:=fv SN ⟨#[97,98,99]⟩ i (aS a m n.out) bQ d_;have j:ip SN (ByteArray.mk #[97,98,99]).data.toList=[186,120,22,191,143,1,207,234,65,65,64,222,93,174,34,35,176,3,97,163,150,23,122,156,180,16,255,97,242,0,21,173]:=Kf;rw[j]at d;have o:Hid (Calls _ _ _ _ _):=d;have c:Hid (Bw w i):=a;clear d j a
 go_wp2_with fail
 refine o.out.mono ?_;rintro e l ⟨rfl,b⟩;have h:Hid (Bw w l):=c.out.trans (b.mono c.out.size);clear b
 go_wp2
 go_ret
 exact⟨rfl,h.out⟩
end L1
section
open Go.Conc Go.RowKit
theorem em.low{S:Nat->Prop}(h:(∀r,S r->r<w.heap.size)->em P Post S g w):em P Post S g w:=λe d b t q a=>h (λr c=>a.low r c) e d b t q a
structure Hd (W:World) (S D:Nat->Prop) (w:World):Prop where
 two:2<=W.heap.size
 old:Bw W w
 shun:∀r,S r->W.heap.size<=r
 own:∀r,D r->W.heap.size<=r/\¬S r/\∃o,w.heap[r]?=some o/\Tm D o
structure Ow (W:World) (S D:Nat->Prop) (w:World) (x:Nat) (o:Obj):Prop where
 new:W.heap.size<=x
 ours:¬S x
 out:¬D x
 lies:w.heap[x]?=some o
def Ud(R:(Nat->Prop)->Value->World->Prop):Prop:=
 (∀E v w,R E v w->R (λ_=>True) v w)/\∀(D:Nat->Prop) (ρ:Nat->Nat) (w w':World) (v:Value),cR 2 0 D ρ w w'->(∀ρ',aR 2 D ρ ρ'->aE ρ' v=aE ρ v)->R (λ_=>True) v w->R (λr=>∃b,D b/\ρ b=r) (aE ρ v) w'
theorem Hd.call{W:World}{S:Nat->Prop}{c:Code}{t:Option Tmp}{u:Option (Bool×Tmp)}{R:(Nat->Prop)->Value->World->Prop}{c':Frame}{cs':List Frame}(a:Hd W S D w)(hf:Tryz.prog.funcs[f]?=some fn)(d:fn.body=some c)(Z:pE f c=true)
 (K:∀v G tmps (w:World),SX t u n v G tmps w->(results fn tmps).run tP w= .ok v w/\∀e∈(results fn tmps).events tP w #[],t.isSome=true/\∃k,e=⟨.cell ⟨G,k,none⟩,false,false⟩) (A:∀v G tmps (w:World),SX t u n v G tmps w->(results fn tmps).run lT w= .ok v w) (hR:Ud R)
 (a2:∀ch,c'.mode≠ .panicking ch) (a0:dt f=0) (a1:f≠105) (p:uy f=false) (ha:∀H,aR 2 D id H->args=args.map (aE H))
 (hK:W.rangeAt 0 0 (aH KS)) (a3:KS.length=64) (I:∃T e z,(∀v∈T,bO v=true)/\W.heap[0]?=some (.cells T e z))
 (hC:∀wL:World,wL.rangeAt 0 0 (aH KS)->2<=wL.heap.size->(∀b,D b->wL.heap[b]?=w.heap[b]?)->Rn lT (λg w'=>T3 f t u n (λE v w=>R E v w/\∀b,D b->w.heap[b]?=wL.heap[b]?) g w'/\∃fr',g=gB fr' []) (a49 lT f args .normal) [] wL)
 (C:∀(s E:Nat->Prop) (w':World) (v:Value),R E v w'->Hd W s E w'->(∀b,D b->E b)->w.heap.size<=w'.heap.size->(∀r,r<w.heap.size->¬S r->w'.heap[r]?=w.heap[r]?/\¬s r)->(∀x o,Ow W S D w x o->Ow W s E w' x o)->em tP Post s (gB (c'.finish v) cs') w'):
 em tP Post S (cd tP f args (c'::cs')) w:=by
 have hz:=a.old.size;have h2:=a.two;have n0:∀r,r<W.heap.size->¬S r:=λr q i=>by have:=a.shun r i;omega
 refine UI (t:=t) (u:=u) (n:=n) (Q:=λE v P=>R E v P/\∀b,D b->P.heap[b]?=w.heap[b]?) (D0:=D) (KS:=KS) hf d Z K A ⟨λE v w h=>⟨hR.1 E v w h.1,h.2⟩,λD1 U P w2 v N hD Y L=>⟨hR.2 D1 U P w2 v N Y L.1,λb d=> ?_⟩⟩ a2 a0 a1 p ha o_ (λb d=> ?_) (λr l=>by have:=a.shun r l;omega) (λj v hj=> ?_) a3 ?_ (λwL k1 k2 k3=> ?_) λs E w' v L hE a5 M O a6 J F B=> ?_
 ·obtain⟨_,_,o,m,y⟩:=a.own b d;have q3:=L.2 b d;rw[m]at q3;obtain⟨o',r1,_,r3⟩:=N.obj b (hD b d).1;rw[q3]at r1;cases r1;have r4:=r3 U N.self;rw[(hD b d).2]at r4;rw[m,r4,y.2 U ⟨⟨N.inj,N.glob⟩,λb d=>(hD b d).2⟩]
 ·obtain⟨q0,m,y⟩:=a.own b d;exact⟨o_,m,y⟩
 ·have:=hK j v hj;unfold AB at this⊢;rw[a.old.block _ (show 0<W.heap.size by omega)];exact this
 ·obtain⟨T,e,z,m,y⟩:=I;exact⟨T,e,z,m,(a.old.block 0 o_).trans y⟩
 ·obtain⟨g',w',q,⟨s1,s2,s3,s4,s5,s6,s7,v,G,s8,s9,V⟩,i⟩:=hC wL k1 k2 k3;exact⟨g',w',q,⟨s1,s2,s3,s4,s5,s6,s7,v,G,s8,s9,λb d=>(V b d).trans (k3 b d)⟩,i⟩
 ·have X:∀r,r<w.heap.size->¬S r->w'.heap[r]?=w.heap[r]?:=λr q i=>by
   by_cases hd:D r
   ·exact L.2 r hd
   ·exact F r q hd i
  have ns:∀r,r<w.heap.size->¬S r->¬s r:=λr q i h4=>by
   rcases O r h4 with h5|h5
   ·omega
   ·exact i h5
  have a4:Hd W s E w':=⟨h2,⟨B.1.trans a.old.os,B.2.2.trans a.old.tape,B.2.1.trans a.old.output,a56 hz J,λr l=>(X r o_ (n0 r l)).trans (a.old.block r l)⟩,λr l=>(O r l).elim (λh=>o_) (a.shun r),λr l=> ?_⟩
  ·refine C s E w' v L.1 a4 a5 J (λr q i=>⟨X r q i,ns r q i⟩) λx o p=> ?_;have hl:=bH p.lies;exact⟨p.new,ns x hl p.ours,λh=>(M x h).elim p.out λh=>o_,(X x hl p.ours).trans p.lies⟩
  ·obtain⟨_,m,y⟩:=hE r l;refine⟨?_,m,y⟩;rcases M r l with h|h
   ·exact(a.own r h).1
   ·omega
end
namespace L1
open Go.Conc Go.RowKit
def La(f:Func):Code:= .seq (.seq (rG f 14) (.cond (.tmp 53) .skip (.exit 2))) (.seq (.block 3 (.seq (rG f 16) (.seq (.seq (rG f 17) (.cond (.tmp 63) (rD f 18) .skip)) (rG f 19)))) (rG f 15))
section
variable{hs:ByteArray}{kk us:Nat}{L:List Int}
theorem Lq(k:hs.size=32)(M:L.length<=100)
 (E:∀a w' v,Bw w0 w'->w'.ownsRow w0.heap.size 3 1 v (L.length+16) (dR (L++Bp hs (decide (i=kk)) 16))->aW [(2, .i kk),(3, .s hs),(4, .i us),(13, .i i),(12,v)] 82 [] a->Rn lT Goal ((base 12).atR a K) cs w'):
 ∀(m j:Nat) (a:Act) (w:World) (v:Value),16- j=m->j<=16->Bw w0 w->w.ownsRow w0.heap.size 3 1 v (L.length+j) (dR (L++Bp hs (decide (i=kk)) j))->aW [(2, .i kk),(3, .s hs),(4, .i us),(13, .i i),(12,v),(16, .i j)] 82 [] a->Rn lT Goal ((base 12).atR a (.code (La Tryz.f12):: .inLoop (La Tryz.f12):: .inBlock 2::K)) cs w:=by
 intro m;induction m with
 |zero=>
  intro j a w v I J h c b;refine Rn.uc b λa b=> ?_;refine Rn.vv b (λo c=>(dw (ql:=true) (n:=16) c (b.G 52) rfl).1) λa b=> ?_;refine Rn.p rfl (Rn.cond _ (b.G 53) ?_);rw[decide_eq_false o_];obtain rfl:j=16:=o_
  exact Rn.p rfl (E _ _ _ h c (b.only ⟨rfl,rfl,rfl,rfl,rfl,trivial⟩))
 |succ m G=>
  intro j a w v I J h c b;refine Rn.uc b λa b=> ?_;refine Rn.vv b (λo c=>(dw (ql:=true) (n:=16) c (b.G 52) rfl).1) λa b=> ?_;refine Rn.p rfl (Rn.cond _ (b.G 53) ?_);rw[decide_eq_true o_];have d:∀{a:Act} {w':World} (x:Int),x=(if decide (i=kk)then((rP hs j:Nat):Int)else 0)->Bw w w'->aW [(2, .i kk),(3, .s hs),(4, .i us),(13, .i i),(12,v),(16, .i j),(17, .i x)] 82 [] a->Rn lT Goal ((base 12).atR a (.code (rG Tryz.f12 19):: .inBlock 3:: .code (rG Tryz.f12 15):: .inLoop (La Tryz.f12):: .inBlock 2::K)) cs w':=λ{a w'} x H g b=>by
   have A:=aB h h.size g
   iterate 2 refine Rn.uc b λa b=> ?_
   refine Rn.al b (λo c=>NO c (b.G 78)) λR a u N Q b=> ?_;have f:=qX (qX c g) u;have y:=aB A A.size u;have D:=y.size;refine Rn.ve b (λo l=>Jn (m:=1) (news:=[x]) f N rfl (b.G 77) (b.G 79) o_ D (qY f) o l) λC B ⟨q,O⟩ a b=> ?_;refine Rn.uc b λa b=> ?_;refine Rn.uc b λa b=> ?_;refine Rn.vv b (λo c=>cS (n:=1) c (b.G 54) rfl o_) λa b=> ?_;refine Rn.uc b λa b=> ?_;refine Rn.p rfl (Rn.p rfl (G (j+1) _ B C o_ o_ (y.trans O) ?_ (b.only ⟨rfl,rfl,rfl,rfl,rfl,rfl,trivial⟩)));rw[IF,←H,←ML];exact q
  iterate 3 refine Rn.uc b λa b=> ?_
  refine Rn.vv b (λo c=>ca c (b.G 56) (b.G 57)) λa b=> ?_;refine Rn.uc b λa b=> ?_;by_cases e:i=kk
  ·rw[show((i:Int)==(kk:Int))=true from by rw[e];simp]at b;refine Rn.uc b λa b=> ?_;refine Rn.vv b (λo c=>j6 c (b.G 60)) λa b=> ?_;rw[k]at b;refine Rn.vv b (λo c=>ca (m:=32) (n:=32) c (b.G 61) rfl) λa b=> ?_;rw[show((32:Int)==32)=true from rfl]at b;refine Rn.vv b (λo c=>mK c (b.G 59) (b.G 62)) λa b=> ?_;refine Rn.p rfl (Rn.cond _ (b.G 63) ?_);have b:aW [(2, .i kk),(3, .s hs),(4, .i us),(13, .i i),(12,v),(16, .i j)] 82 [] a:=b.only ⟨rfl,rfl,rfl,rfl,rfl,rfl,trivial⟩;have t:∀p (s:p<hs.size),hs[p].toNat=(hs.data.toList.getD p 0).toNat:=λp s=>by rw[a50,Array.getElem?_toList,Array.getElem?_eq_getElem (by exact s)];rfl
   have r:=(hs.data.toList.getD (2*j) 0).toNat_lt;have F:=(hs.data.toList.getD (2*j+1) 0).toNat_lt;refine Rn.tabL b [(64, .s hs),(65, .i j),(66, .i ((2*j:Nat):Int)),(67, .int .u8 (((hs.data.toList.getD (2*j) 0).toNat:Nat):Int)),(68, .i (((hs.data.toList.getD (2*j) 0).toNat:Nat):Int)),(69, .i (((hs.data.toList.getD (2*j) 0).toNat*2^8:Nat):Int)),(70, .s hs),(71, .i j),(72, .i ((2*j:Nat):Int)),(73, .i ((2*j+1:Nat):Int)),(74, .int .u8 (((hs.data.toList.getD (2*j+1) 0).toNat:Nat):Int)),(75, .i (((hs.data.toList.getD (2*j+1) 0).toNat:Nat):Int)),(76, .i ((rP hs j:Nat):Int)),(17, .i ((rP hs j:Nat):Int))] [64,65,70,71,17] [(17, .i ((rP hs j:Nat):Int))]
    ⟨λz=>dv (ko (m:=2) z.qq kc (z.k 65) o_),
     λz=>CR (nj z.qq (z.k 64) (z.k 66) o_) (by rw[t]),
     λz=>dv (pP r z.qq (z.k 67)),
     λz=>dv (Kw r z.qq (z.k 68) kc),
     λz=>dv (ko (m:=2) z.qq kc (z.k 71) o_),
     λz=>dv (cS (n:=1) z.qq (z.k 72) kc o_),
     λz=>CR (nj z.qq (z.k 70) (z.k 73) o_) (by rw[t]),
     λz=>dv (pP F z.qq (z.k 74)),
     λz=>dv (BV o_ o_ z.qq (z.k 69) (z.k 75)),
     trivial⟩ λa S P b=> ?_
   exact d ((rP hs j:Nat):Int) (by rw[decide_eq_true e];rfl) P (b.only ⟨rfl,rfl,rfl,rfl,rfl,rfl,rfl,trivial⟩)
  ·rw[show((i:Int)==(kk:Int))=false from by rw[beq_eq_false_iff_ne];omega]at b
   iterate 3 refine Rn.us b λa b=> ?_
   refine Rn.vv b (λo c=>i0 c (b.G 59) rfl) λa b=> ?_;refine Rn.p rfl (Rn.cond _ (b.G 63) ?_);exact Rn.p rfl (d 0 (by rw[decide_eq_false e];rfl) (bR) (b.only ⟨rfl,rfl,rfl,rfl,rfl,rfl,rfl,trivial⟩))
end
end L1
section
open Go.Conc Go.RowKit
def sO(kk us i:Nat):Int:=if i=kk/\us≠1 then 4080 else 61455
def gJ(kk us i:Nat):Int:=if i=kk/\us=2 then 4080 else 61455
def wl(kk us:Nat)(hs:ByteArray)(i:Nat):List Int:=[sO kk us i,sO kk us i,gJ kk us i,gJ kk us i]++Bp hs (decide (i=kk)) 16
def jp(st vv:Int)(kk us:Nat)(hs:ByteArray):Nat->List Int
 |0=>[st,st,vv,vv,vv]
 |i+1=>jp st vv kk us hs i++wl kk us hs i
theorem jP(st vv:Int)(kk us:Nat)(hs:ByteArray):∀i,(jp st vv kk us hs i).length=5+20*i
 |0=>rfl
 |i+1=>by rw[jp,LL,jP st vv kk us hs i];simp[wl,Bp];omega
end
namespace L1
open Go.Conc Go.RowKit
theorem NN{m n:Int}{f d c b:Nat}(a:o.op= .buildSlice 22 4 #[(0, .tmp f),(1, .tmp d),(2, .tmp c),(3, .tmp b)])(k:ev (.tmp f)= .i m)(j:ev (.tmp d)= .i m)(i:ev (.tmp c)= .i n)(h:ev (.tmp b)= .i n):(execOp ev o).run lT w= .ok (.value (.sk w.heap.size 4 4)) (w.alloc (.cells (dR [m,m,n,n]).toArray 3)):=by
 have e:execOp ev o=(do pure (.value (←Fi 22 4 #[(0, .i m),(1, .i m),(2, .i n),(3, .i n)]))):=by simp[execOp,a,k,j,i,h]
 have g:(do pure (.value (←Fi 22 4 #[(0, .i m),(1, .i m),(2, .i n),(3, .i n)])):Sem Next).run lT w= .ok (.value (.sk w.heap.size 4 4)) (w.alloc (.cells (dR [m,m,n,n]).toArray 3)):=k_
 rw[e,g]
def QL(f:Func):Code:= .seq (rG f 12) (.seq (rG f 13) (.block 2 (.loop (La f))))
def QM(f:Func):Code:= .seq (.seq (rG f 10) (.cond (.tmp 44) (rG f 11) .skip)) (QL f)
def Cp(f:Func):Code:= .seq (.seq (rG f 4) (.cond (.tmp 28) .skip (.exit 0))) (.seq (.block 1 (.seq (rG f 6) (.seq (rG f 7) (.seq (.seq (rG f 8) (.cond (.tmp 37) (rG f 9) .skip)) (QM f))))) (rG f 5))
def R9(f:Func):Code:= .seq (rG f 20) .ret
theorem Ph:Tryz.f12.body=some (.seq (rG Tryz.f12 0) (.seq (rG Tryz.f12 1) (.seq (rG Tryz.f12 2) (.seq (.seq (rG Tryz.f12 3) (.block 0 (.loop (Cp Tryz.f12)))) (R9 Tryz.f12))))):=k_
section
variable{hs:ByteArray}{kk us:Nat}{st vv:Int}
theorem qo(l:hs.size=32)(I:i<4)(s:Bw w0 w)(c:w.ownsRow w0.heap.size 3 1 v (jp st vv kk us hs i).length (dR (jp st vv kk us hs i)))(b:aW [(2, .i kk),(3, .s hs),(4, .i us),(13, .i i),(12,v)] 82 [] a)
 (z:∀a w' v,Bw w0 w'->w'.ownsRow w0.heap.size 3 1 v (jp st vv kk us hs (i+1)).length (dR (jp st vv kk us hs (i+1)))->aW [(2, .i kk),(3, .s hs),(4, .i us),(13, .i ((i+1:Nat):Int)),(12,v)] 82 [] a->Rn lT Goal ((base 12).atR a (.code (Cp Tryz.f12):: .inLoop (Cp Tryz.f12):: .inBlock 0::K)) cs w'):
 Rn lT Goal ((base 12).atR a (.code (Cp Tryz.f12):: .inLoop (Cp Tryz.f12):: .inBlock 0::K)) cs w:=by
 have k:=jP st vv kk us hs i;have H:=s.size;have f:∀{a:Act},aW [(2, .i kk),(3, .s hs),(4, .i us),(13, .i i),(12,v),(14, .i (sO kk us i)),(15, .i (gJ kk us i))] 82 [] a->Rn lT Goal ((base 12).atR a (.code (QL Tryz.f12):: .inBlock 1:: .code (rG Tryz.f12 5):: .inLoop (Cp Tryz.f12):: .inBlock 0::K)) cs w:=λ{a} b=>by
  iterate 5 refine Rn.uc b λa b=> ?_
  refine Rn.al b (λo c=>NN c (b.G 46) (b.G 47) (b.G 48) (b.G 49)) λF a t A D b=> ?_;have j:=qX c t;have u:=aB s s.size t;refine Rn.ve b (λo p=>Jn (m:=4) (news:=[sO kk us i,sO kk us i,gJ kk us i,gJ kk us i]) j A rfl (b.G 45) (b.G 50) o_ u.size (qY j) o p) λy x ⟨r,B⟩ a b=> ?_
  iterate 2 refine Rn.uc b λa b=> ?_
  refine Rn.runs 3 _ ?_;refine Lq (L:=jp st vv kk us hs i++[sO kk us i,sO kk us i,gJ kk us i,gJ kk us i]) l (by rw[LL,k];simp;omega) (λa E G C q b=> ?_) 16 0 _ x y rfl o_ (u.trans B) (by rw[LL];simpa[Bp]using r) (b.only ⟨rfl,rfl,rfl,rfl,rfl,rfl,trivial⟩);refine Rn.p rfl ?_;refine Rn.uc b λa b=> ?_;refine Rn.vv b (λo c=>cS (n:=1) c (b.G 29) rfl o_) λa b=> ?_;refine Rn.uc b λa b=> ?_;refine Rn.p rfl (Rn.p rfl (z _ _ _ C ?_ (b.only ⟨rfl,rfl,rfl,rfl,rfl,trivial⟩)));rw[jp,wl,←ML,LL];simpa[Bp]using q
 have g:∀{a:Act},aW [(2, .i kk),(3, .s hs),(4, .i us),(13, .i i),(12,v),(14, .i (sO kk us i)),(15, .i 61455)] 82 [] a->Rn lT Goal ((base 12).atR a (.code (QM Tryz.f12):: .inBlock 1:: .code (rG Tryz.f12 5):: .inLoop (Cp Tryz.f12):: .inBlock 0::K)) cs w:=λ{a} b=>by
  iterate 2 refine Rn.uc b λa b=> ?_
  refine Rn.vv b (λo c=>ca c (b.G 38) (b.G 39)) λa b=> ?_;refine Rn.uc b λa b=> ?_;by_cases d:i=kk
  ·rw[show((i:Int)==(kk:Int))=true from by rw[d];simp]at b;refine Rn.uc b λa b=> ?_;refine Rn.vv b (λo c=>ca (n:=2) c (b.G 42) rfl) λa b=> ?_;refine Rn.vv b (λo c=>mK c (b.G 41) (b.G 43)) λa b=> ?_;refine Rn.p rfl (Rn.cond _ (b.G 44) ?_);by_cases e:us=2
   ·rw[show((us:Int)==2)=true from by rw[e];rfl];refine Rn.uc b λa b=> ?_;exact Rn.p rfl (f (by rw[show gJ kk us i=4080 from if_pos ⟨d,e⟩];exact b.only ⟨rfl,rfl,rfl,rfl,rfl,rfl,rfl,trivial⟩))
   ·rw[show((us:Int)==2)=false from by rw[beq_eq_false_iff_ne];omega];exact Rn.p rfl (f (by rw[show gJ kk us i=61455 from if_neg λh=>e h.2];exact b.only ⟨rfl,rfl,rfl,rfl,rfl,rfl,rfl,trivial⟩))
  ·rw[show((i:Int)==(kk:Int))=false from by rw[beq_eq_false_iff_ne];omega]at b
   iterate 2 refine Rn.us b λa b=> ?_
   refine Rn.vv b (λo c=>i0 c (b.G 41) rfl) λa b=> ?_;refine Rn.p rfl (Rn.cond _ (b.G 44) ?_);exact Rn.p rfl (f (by rw[show gJ kk us i=61455 from if_neg λh=>d h.1];exact b.only ⟨rfl,rfl,rfl,rfl,rfl,rfl,rfl,trivial⟩))
 refine Rn.uc b λa b=> ?_;refine Rn.vv b (λo c=>(dw (ql:=true) (n:=4) c (b.G 27) rfl).1) λa b=> ?_;refine Rn.p rfl (Rn.cond _ (b.G 28) ?_);rw[decide_eq_true o_]
 iterate 4 refine Rn.uc b λa b=> ?_
 refine Rn.vv b (λo c=>ca c (b.G 31) (b.G 32)) λa b=> ?_;refine Rn.uc b λa b=> ?_;by_cases d:i=kk
 ·rw[show((i:Int)==(kk:Int))=true from by rw[d];simp]at b;refine Rn.uc b λa b=> ?_;refine Rn.vv b (λo c=>kG (n:=1) c (b.G 35) rfl) λa b=> ?_;refine Rn.vv b (λo c=>mK c (b.G 34) (b.G 36)) λa b=> ?_;refine Rn.p rfl (Rn.cond _ (b.G 37) ?_);by_cases e:us=1
  ·rw[show((us:Int) !=1)=false from by rw[e];rfl];exact Rn.p rfl (g (by rw[show sO kk us i=61455 from if_neg λh=>h.2 e];exact b.only ⟨rfl,rfl,rfl,rfl,rfl,rfl,rfl,trivial⟩))
  ·rw[show((us:Int) !=1)=true from by rw[bne_iff_ne];omega];refine Rn.uc b λa b=> ?_;exact Rn.p rfl (g (by rw[show sO kk us i=4080 from if_pos ⟨d,e⟩];exact b.only ⟨rfl,rfl,rfl,rfl,rfl,rfl,rfl,trivial⟩))
 ·rw[show((i:Int)==(kk:Int))=false from by rw[beq_eq_false_iff_ne];omega]at b
  iterate 2 refine Rn.us b λa b=> ?_
  refine Rn.vv b (λo c=>i0 c (b.G 34) rfl) λa b=> ?_;refine Rn.p rfl (Rn.cond _ (b.G 37) ?_);exact Rn.p rfl (g (by rw[show sO kk us i=61455 from if_neg λh=>d h.1];exact b.only ⟨rfl,rfl,rfl,rfl,rfl,rfl,rfl,trivial⟩))
end
end L1
section
open Go.Conc Go.RowKit
def gU(least:Nat):Int:=1*2^least- 1
end
namespace L1
open Go.Conc Go.RowKit
theorem NM{m n:Int}{g f d c b:Nat}(a:o.op= .buildSlice 22 5 #[(0, .tmp g),(1, .tmp f),(2, .tmp d),(3, .tmp c),(4, .tmp b)])(p:ev (.tmp g)= .i m)(l:ev (.tmp f)= .i m)(k:ev (.tmp d)= .i n)(j:ev (.tmp c)= .i n)(i:ev (.tmp b)= .i n):(execOp ev o).run lT w= .ok (.value (.sk w.heap.size 5 5)) (w.alloc (.cells (dR [m,m,n,n,n]).toArray 3)):=by
 have e:execOp ev o=(do pure (.value (←Fi 22 5 #[(0, .i m),(1, .i m),(2, .i n),(3, .i n),(4, .i n)]))):=by simp[execOp,a,p,l,k,j,i]
 have h:(do pure (.value (←Fi 22 5 #[(0, .i m),(1, .i m),(2, .i n),(3, .i n),(4, .i n)])):Sem Next).run lT w= .ok (.value (.sk w.heap.size 5 5)) (w.alloc (.cells (dR [m,m,n,n,n]).toArray 3)):=k_
 rw[e,h]
section
variable{hs:ByteArray}
theorem TN(hsz:hs.size=32)(st:Int)(least kk us:Nat)(hle:least<=16):Calls (aI true Tryz.prog) 12 #[.int .i64 st, .int .i64 least, .int .i64 kk, .string hs, .int .i64 us] w λe w'=>∃v,e= .returned v/\∃gb cap cur,v= .sk gb 85 cap/\(w.heap.size<=gb/\85<=cap)/\w'.heap[gb]?=some (.cells cur 3)/\w'.rangeAt gb 0 ((jp st (gU least) kk us hs 4).map (Value.int .i64))/\Bw w w':=by
 refine aT (t:=10) Lf.func12 rfl λcs=> ?_;rw[aV (N:=82) [.int .i64 st, .int .i64 least, .int .i64 kk, .string hs, .int .i64 us] Lf.func12 Ph rfl];have hF:=aN [.int .i64 st, .int .i64 least, .int .i64 kk, .string hs, .int .i64 us] 82 s_;have p1:2^least<=2^16:=OZ o_ hle;have p2:(2:Int)^least=((2^least:Nat):Int):=by rw[LK];rfl
 have p3:0<2^least:=Nat.pow_pos o_
 iterate 2 refine Rn.uc hF λa hF=> ?_
 refine Rn.vv hF (λo ho=>xP (m:=1) (k:=least) ho rfl (hF.get (d:=18) rfl) o_ o_) λa hF=> ?_;refine Rn.vv hF (λo ho=>BU (n:=1) ho (hF.get (d:=19) rfl) rfl o_) λa hF=> ?_;have hF:aW [(0, .int .i64 st),(2, .int .i64 kk),(3, .string hs),(4, .int .i64 us),(20, .int .i64 (gU least))] 82 [] a:=hF.only ⟨rfl,rfl,rfl,rfl,rfl,trivial⟩
 iterate 6 refine Rn.uc hF λa hF=> ?_
 refine Rn.al hF (λo ho=>NM ho (hF.get (d:=21) rfl) (hF.get (d:=22) rfl) (hF.get (d:=23) rfl) (hF.get (d:=24) rfl) (hF.get (d:=25) rfl)) λw1 a b1 c1 z1 hF=> ?_;have ho:w1.ownsRow w.heap.size 3 1 (.sk w.heap.size 5 5) (jp st (gU least) kk us hs 0).length (dR (jp st (gU least) kk us hs 0)):=⟨rfl, .inr ⟨w.heap.size,5,_,rfl,a36 _,c1,a36 _,by unfold maxLen;omega,rfl,rfl⟩⟩
 iterate 2 refine Rn.uc hF λa hF=> ?_
 refine Rn.runs 3 _ ?_;refine qo (i:=0) hsz o_ b1 ho (hF.only ⟨rfl,rfl,rfl,rfl,rfl,trivial⟩) λa w2 v b2 ho hF=> ?_;refine qo (i:=1) hsz o_ b2 ho hF λa w2 v b2 ho hF=> ?_;refine qo (i:=2) hsz o_ b2 ho hF λa w2 v b2 ho hF=> ?_;refine qo (i:=3) hsz o_ b2 ho hF λa w2 v b2 ho hF=> ?_;have hF:aW [(12,v),(13, .int .i64 4)] 82 [] a:=hF.only ⟨rfl,rfl,trivial⟩;refine Rn.uc hF λa hF=> ?_;refine Rn.vv hF (λo ho=>(dw (ql:=true) (m:=4) (n:=4) ho (hF.get (d:=27) rfl) rfl).1) λa hF=> ?_;refine Rn.p rfl (Rn.cond _ (hF.get (d:=28) rfl) ?_)
 iterate 2 refine Rn.uc hF λa hF=> ?_
 have hlen:=jP st (gU least) kk us hs 4;rw[show 3+1=4 from rfl,hlen]at ho;rcases ho.2 with⟨_,h⟩|⟨gb,cap,cur,rfl,h1,h2,h3,h4,h5,h6⟩
 ·omega
 refine Rn.fi hF ⟨_,rfl,gb,cap,cur,rfl,⟨h1,h3⟩,h2,λj u hu=> ?_,b2⟩;rw[a46,aK h2];have hu':(cur.toList.take (85*1))[j]?=some u:=by rw[h6];exact hu
 have hj:j<85:=by have:=(List.getElem?_eq_some_iff.1 hu).1;rw[List.length_map,hlen]at this;omega
 rw[WV,if_pos o_]at hu';simpa using hu'
end
end L1
section
open Go.Conc Go.RowKit
theorem Em(KS:List Int)(a:ByteArray):∀(m n j:Nat) (y:ByteArray),T2 KS a n (j+m) (T2 KS a m j y)=T2 KS a (m+n) j y
 |0,n,j,y=>by rw[a46];rfl
 |m+1,n,j,y=>by rw[show j+(m+1)=j+1+m by omega,show m+1+n=(m+n)+1 by omega,T2,T2];exact Em KS a m n (j+1) _
theorem Lm(KS:List Int)(a:ByteArray)(d:Nat)(b:d<=3)(y:ByteArray):T2 KS a (3- d) d (T2 KS a d 0 y)=T2 KS a 3 0 y:=by
 have:=Em KS a d (3- d) 0 y
 rwa [a46,show d+(3- d)=3 by omega]at this
theorem Ah(KS:List Int)(a:ByteArray):∀(n j:Nat) (y:ByteArray),(T2 KS a n j y).data.toList=iG KS a.data.toList n j y.data.toList
 |0,_,_=>rfl
 |n+1,j,y=>by
  rw[T2,iG,Ah KS a n (j+1)]
  congr 1
theorem Od:Oe=ob 33153 2:=d_
theorem Of:FK=ob 32896 2:=d_
theorem Oc:Qi=ob 33410 2:=d_
theorem Oa:Ob=ob 33667 2:=d_
end
namespace L1
open Go.Conc Go.RowKit
theorem fX(a b c:ByteArray):a++b++c=a++(b++c):=ByteArray.append_assoc
theorem yA(a b c:ByteArray)(e:i=a.size)(d:j=a.size+b.size):(a++b++c).extract i j=b:=by subst e;subst d;have h:=X3 (a:=a) (b:=b++c) (i:=0) (j:=b.size);rw[Xg]at h;rw[fX,h];exact Xh rfl
theorem qs(a b:ByteArray)(d:i=a.size)(c:j=a.size+b.size):(a++b).extract i j=b:=ByteArray.extract_append_eq_right d c
theorem T0(v:Nat):∀k,v<256^k->et (cQ v k)=v:=by
 intro k;induction k generalizing v with
 |zero=>intro h;have:v=0:=by omega
        subst this;rfl
 |succ k a=>
  intro h;rw[cQ,ra,a (v/256) (by rw[Nat.pow_succ]at h;omega),Z1];omega
theorem ju(a r:ByteArray){c b:Nat}(e:c=a.size+i)(d:b=a.size+j):(a++r).extract c b=r.extract i j:=by subst e;subst d;exact X3
theorem ic(a r:ByteArray)(b:j=a.size):(a++r).extract 0 j=a:=Xh b
theorem Ce(b:ByteArray)(i j v:Nat)(h:b.extract i j=ob v 4)(hv:v<4294967296):cP b i j=v:=by rw[cP,h,mm,T0 v 4 (by simpa using hv)]
def FT(KS:List Int)(id seed:ByteArray)(q:Nat)(D:List UInt8):Nat->ByteArray
 |0=>VD
 |n+1=>FT KS id seed q D n++T2 KS (id++ob q 4++ob n 2) (dj D 2 n) 0 (xF KS id seed q n)
theorem um(KS:List Int)(id seed:ByteArray)(q:Nat)(D:List UInt8):∀n,(FT KS id seed q D n).size=32*n
 |0=>rfl
 |n+1=>by rw[FT,a34,um KS id seed q D n,jO _ _ _ _ _ (iV KS id seed q n)];omega
theorem DX(KS:List Int)(id seed:ByteArray)(q:Nat)(salt:ByteArray)(D:List UInt8):∀n,ue KS id seed q salt D n=ob q 4++ob 2 4++salt++FT KS id seed q D n
 |0=>by rw[ue,FT,Yp]
 |n+1=>by rw[ue,FT,DX KS id seed q salt D n,fX _ (FT KS id seed q D n)]
theorem vJ(KS:List Int)(id seed:ByteArray)(M:id.size=16)(q:Nat)(R:q<4)(salt msg X1 X2 rt:ByteArray)(D:salt.size=32)(T:X1.size=32)(S:X2.size=32)(K:rt.size=32)
 (k:vZ KS {tree:=ob 226 4,chains:=ob 2 4,id:=id,root:=rt,height:=2,width:=2,count:=133,shift:=6,q:=q,salt:=salt,links:=FT KS id seed q (TK KS id q salt msg).data.toList 133,path:=X1++X2} 2 2 6 133 q msg=rt)
 (a:Int) (h:sV KS (pi id rt) msg (lq KS id seed q salt msg X1 X2) a):a=0:=by
 obtain⟨b,f⟩:∃b,b=pi id rt:=⟨_,rfl⟩;have A:b=ob 226 4++ob 2 4++id++rt:=f;have z:b=ob 226 4++(ob 2 4++(id++rt)):=by rw[A,fX,fX]
 have o:b.size=56:=by rw[A];simp only[a34,aG];omega
 have m:b.extract 0 4=ob 226 4:=by rw[z];exact ic _ _ (by rw[aG])
 have l:b.extract 4 8=ob 2 4:=by rw[z,ju _ _ (i:=0) (j:=4) (by rw[aG]) (by rw[aG])];exact ic _ _ (by rw[aG])
 have t:b.extract 8 24=id:=by rw[z,ju _ _ (i:=4) (j:=20) (by rw[aG]) (by rw[aG]),ju _ _ (i:=0) (j:=16) (by rw[aG]) (by rw[aG])];exact ic _ _ o_
 have u:b.extract 24 b.size=rt:=by rw[o,A];exact qs _ _ (by simp only[a34,aG];omega) (by simp only[a34,aG];omega)
 have g:cP b 0 4=((226:Nat):Int):=Ce b 0 4 226 m o_;have d:cP b 4 8=((2:Nat):Int):=Ce b 4 8 2 l o_;have r:hK b=2:=by rw[hK,g];rfl
 have B:wK b=2:=by rw[wK,d];rfl
 have p:nK b=133:=by rw[nK,d];rfl
 have E:Mq b=6:=by rw[Mq,d];rfl
 have F:i2 b:=⟨o,by rw[g];decide,by rw[d];decide⟩;obtain⟨Y,G⟩:∃Y,Y=FT KS id seed q (TK KS id q salt msg).data.toList 133:=⟨_,rfl⟩;have N:Y.size=4256:=by rw[G,um]
 obtain⟨c,e⟩:∃c,c=lq KS id seed q salt msg X1 X2:=⟨_,rfl⟩;have w:c=ob q 4++ob 2 4++salt++Y++ob 226 4++(X1++X2):=by rw[e,G,lq,DX,fX _ X1 X2]
 have v:c=ob q 4++(ob 2 4++(salt++(Y++(ob 226 4++(X1++X2))))):=by rw[w];simp only[fX]
 have n:c.size=44+32*133+32*2:=by rw[w];simp only[a34,aG];omega
 have J:c.extract 0 4=ob q 4:=by rw[v];exact ic _ _ (by rw[aG])
 have H:c.extract 4 8=ob 2 4:=by rw[v,ju _ _ (i:=0) (j:=4) (by rw[aG]) (by rw[aG])];exact ic _ _ (by rw[aG])
 have s:c.extract 8 40=salt:=by rw[v,ju _ _ (i:=4) (j:=36) (by rw[aG]) (by rw[aG]),ju _ _ (i:=0) (j:=32) (by rw[aG]) (by rw[aG])];exact ic _ _ o_
 have I:c.extract 40 (40+32*133)=Y:=by rw[v,ju _ _ (i:=36) (j:=36+32*133) (by rw[aG]) (by rw[aG]),ju _ _ (i:=32) (j:=32+32*133) (by rw[aG]) (by rw[aG]),ju _ _ (i:=0) (j:=32*133) o_ o_];exact ic _ _ o_
 have O:c.extract (40+32*133) (44+32*133)=ob 226 4:=by rw[w];exact yA _ _ _ (by simp only[a34,aG];omega) (by simp only[a34,aG];omega)
 have P:c.extract (44+32*133) c.size=X1++X2:=by rw[n,w];exact qs _ _ (by simp only[a34,aG];omega) (by simp only[a34,aG];omega)
 have y:cP c 0 4=(q:Int):=Ce c 0 4 q J o_;have C:kl (gP b) (hK b) (nK b) c:=by
  rw[r,p];refine⟨n, ?_, ?_, ?_⟩
  ·rw[y];omega
  ·rw[H];show _=(b.extract 4 8).data.toList;rw[l]
  ·rw[O];show _=(b.extract 0 4).data.toList;rw[m]
 have L:pN KS b msg c=rt:=by
  rw[pN,r,B,p,E,y,VC];have Q:tI (gP b) 133 c={tree:=ob 226 4,chains:=ob 2 4,id:=id,root:=rt,height:=2,width:=2,count:=133,shift:=6,q:=q,salt:=salt,links:=Y,path:=X1++X2}:=by rw[tI,gP,m,l,t,u,g,d,y,s,I,P];rfl
  rw[Q,G];exact k
 rw[←f,←e]at h;rcases h with⟨x,_⟩|⟨_,x,_⟩|⟨_,_,x,_⟩|⟨_,_,_,x⟩
 ·exact absurd F x
 ·exact absurd C x
 ·exact absurd (by rw[L,u]) x
 ·exact x
theorem Qz(KS:List Int)(a b c d e:ByteArray):qK KS [a,b,c,d,e]=eq KS (a++b++c++d++e):=by simp[qK,eq,W0]
theorem QA(KS:List Int)(a b c d:ByteArray):qK KS [a,b,c,d]=eq KS (a++b++c++d):=by simp[qK,eq,W0]
theorem MD(KS:List Int)(id seed:ByteArray)(q:Nat)(D:List UInt8):∀(n i:Nat) (r:ByteArray),i<n->(FT KS id seed q D n++r).extract (32*i) (32*i+32)=T2 KS (id++ob q 4++ob i 2) (dj D 2 i) 0 (xF KS id seed q i)
 |0,_,_,h=>o_
 |n+1,i,r,h=>by
  have b:=um KS id seed q D n;have c:=jO KS (id++ob q 4++ob n 2) (dj D 2 n) 0 _ (iV KS id seed q n);rw[FT];by_cases a:i=n
  ·subst a;exact yA _ _ _ o_ o_
  ·rw[fX];exact MD KS id seed q D n i _ o_
theorem wR(KS:List Int)(id seed rt salt msg path:ByteArray)(q:Nat)(D:List UInt8):∀n,n<=133->
 nG KS {tree:=ob 226 4,chains:=ob 2 4,id:=id,root:=rt,height:=2,width:=2,count:=133,shift:=6,q:=q,salt:=salt,links:=FT KS id seed q D 133,path:=path} (λc=>(dj D 2 c:Nat)) n=(i5 KS id seed q n).data.toList
 |0,_=>rfl
 |n+1,h=>by
  have b:=wR KS id seed rt salt msg path q D n o_;have a:=MD KS id seed q D 133 n VD o_;rw[Yp]at a;rw[nG,WR,List.flatMap_append,←nG,b,i5];have d:dj D 2 n<=3:=OK D n;have e:(T2 KS (id++ob q 4++ob n 2) 3 0 (xF KS id seed q n)).data.toList=iG KS ((id++ob q 4++ob n 2).data.toList) (3- dj D 2 n) (dj D 2 n) (T2 KS (id++ob q 4++ob n 2) (dj D 2 n) 0 (xF KS id seed q n)).data.toList:=by rw[←Lm KS _ (dj D 2 n) d,Ah]
  simp only[W0,List.flatMap_nil,WS];rw[YD,YS,e]
  congr 1
  simp only[kR,jE];rw[show n*32=32*n by omega,show(n+1)*32=32*n+32 by omega,a];simp[mm,eB]
section
variable(KS:List Int)(id seed rt salt msg X1 X2:ByteArray)(q:Nat)
def QB:dk:={tree:=ob 226 4,chains:=ob 2 4,id:=id,root:=rt,height:=2,width:=2,count:=133,shift:=6,q:=q,salt:=salt,links:=FT KS id seed q (TK KS id q salt msg).data.toList 133,path:=X1++X2}
theorem NU:qB KS (QB KS id seed rt salt msg X1 X2 q) q msg=GQ KS id q salt msg:=by rw[qB,Qz,GQ,Od];rfl
theorem Jo:uK (GQ KS id q salt msg).data.toList 2 6=(TK KS id q salt msg).data.toList:=by rw[uK,TK,YD,YS];rfl
theorem FX:N8 KS (QB KS id seed rt salt msg X1 X2 q) 2 6 133 q (4+q) msg=mE KS id seed q:=by
 have b:MO KS (QB KS id seed rt salt msg X1 X2 q) 2 6 q msg=λc=>dj (TK KS id q salt msg).data.toList 2 c:=by
  funext c
  rw[MO,NU,Jo]
 have a:Ri KS (QB KS id seed rt salt msg X1 X2 q) 2 6 133 q msg=i5 KS id seed q 133:=by rw[Ri,b];have:=wR KS id seed rt salt msg (X1++X2) q (TK KS id q salt msg).data.toList 133 (a36 _);apply ByteArray.ext;rw[←Array.toList_inj];exact this
 rw[N8,Qp,a,QA,QA,mE,Oc,Of];rfl
theorem vY(a:X1.size=32)(d:X2.size=32):vZ KS (QB KS id seed rt salt msg X1 X2 q) 2 2 6 133 q msg=
 EW KS id ((4+q)/2) X2 (EW KS id (4+q) X1 (mE KS id seed q)):=by
 have c:(X1++X2).extract 0 32=X1:=ic _ _ a.symm;have b:((X1++X2).extract 32 (X1++X2).size).extract 0 32=X2:=by rw[show(X1++X2).extract 32 (X1++X2).size=X2 from qs _ _ a.symm (by rw[a34]),←d];exact XP
 rw[vZ,show 2^2+q=4+q from rfl,FX];show EW KS id ((4+q)/2) (((X1++X2).extract 32 (X1++X2).size).extract 0 32) (EW KS id (4+q) ((X1++X2).extract 0 32) (mE KS id seed q))=_;rw[c,b]
theorem xA(n:Nat)(p x:ByteArray):EW KS id n p x=if n%2=1 then ib KS id (n/2) p x else ib KS id (n/2) x p:=by rw[EW,Qz,ib,ib,Oa];split<;>rfl
end
section
variable(KS:List Int)(id seed:ByteArray)(hid:id.size=16)(used:Nat)(salt msg:ByteArray)(hsalt:salt.size=32)(a:Int)
include hid hsalt
theorem BN(b:used%2=1)(h:sV KS (pi id (QQ KS id seed used)) msg (lq KS id seed 0 salt msg (kM KS id seed used 1) (Ie KS id seed used)) a):a=0:=by refine vJ KS id seed hid 0 o_ salt msg _ _ _ hsalt (cW ..) (aY ..) (aY ..) ?_ a h;refine(vY KS id seed _ salt msg _ _ 0 (cW ..) (aY ..)).trans ?_;show _=ib KS id 1 (ib KS id 2 (kM KS id seed used 0) (kM KS id seed used 1)) (Ie KS id seed used);rw[xA,xA,if_neg d_,if_neg d_,show kM KS id seed used 0=mE KS id seed 0 from if_pos (by rw[Nat.pow_zero,Nat.div_one];exact b)];rfl
theorem BM(b:used/2%2=1)(h:sV KS (pi id (QQ KS id seed used)) msg (lq KS id seed 1 salt msg (kM KS id seed used 0) (Ie KS id seed used)) a):a=0:=by refine vJ KS id seed hid 1 o_ salt msg _ _ _ hsalt (cW ..) (aY ..) (aY ..) ?_ a h;refine(vY KS id seed _ salt msg _ _ 1 (cW ..) (aY ..)).trans ?_;show _=ib KS id 1 (ib KS id 2 (kM KS id seed used 0) (kM KS id seed used 1)) (Ie KS id seed used);rw[xA,xA,if_neg d_,if_pos d_,show kM KS id seed used 1=mE KS id seed 1 from if_pos (by rw[Nat.pow_one];exact b)];rfl
end
end L1
section
open Go.Conc Go.RowKit
theorem Nc:(Ak 17).all (λn=>kr (gU n)==(n:Int)&&FJ (gU n).toNat (gU n).toNat (gU n).toNat==(gU n).toNat&&(gU n).toNat&&&((gU n).toNat+1)==0&&decide (0<=gU n)&&decide (gU n<65536))=true:=by decide+kernel
theorem oA(h:n<=16):kr (gU n)=(n:Int)/\FJ (gU n).toNat (gU n).toNat (gU n).toNat=(gU n).toNat/\(gU n).toNat&&&((gU n).toNat+1)=0/\0<=gU n/\gU n<65536:=by have:=Vk.1 Nc n (by simp;omega);simp only[Bool.and_eq_true,beq_iff_eq,decide_eq_true_eq]at this;obtain⟨⟨⟨⟨e,d⟩,c⟩,b⟩,a⟩:=this;exact⟨e,d,c,b,a⟩
theorem ky(st vv:Int)(kk us:Nat)(hs:ByteArray):jp st vv kk us hs 4=[st,st,vv,vv,vv]++wl kk us hs 0++wl kk us hs 1++wl kk us hs 2++wl kk us hs 3:=rfl
theorem QU(a:Int)(h:n<=16)(kk us:Nat)(hs:ByteArray):se (jp a (gU n) kk us hs 4)=(gU n).toNat:=by rw[se,ky];exact(oA h).2.1
theorem wv(a:Int)(h:n<=16)(kk us:Nat)(hs:ByteArray):Ed (jp a (gU n) kk us hs 4)=true/\kr (se (jp a (gU n) kk us hs 4))=(n:Int):=by obtain⟨d,_,c,b,_⟩:=oA h;rw[Ed,QU a h,c];refine⟨rfl, ?_⟩;rw[R1 b];exact d
theorem u9(kk us:Nat)(hs:ByteArray)(i:Nat):(wl kk us hs i).length=20:=by simp[wl,Bp]
theorem zN(st vv:Int)(kk us:Nat)(hs:ByteArray)(l:k<4):kY (jp st vv kk us hs 4) k=wl kk us hs k:=by
 have e:=u9 kk us hs 0;have f:=u9 kk us hs 1;have g:=u9 kk us hs 2;have j:=u9 kk us hs 3;rw[kY,ky];generalize wl kk us hs=p at*;have d:∀(a b c:List Int) (n:Nat),a.length=n->b.length=20->((a++b++c).drop n).take 20=b:=λa b c n i h=>by rw[ML,List.drop_left' i,List.take_left' h]
 rcases(o_:k=0\/k=1\/k=2\/k=3)with rfl|rfl|rfl|rfl
 ·rw[ML _ (p 1),ML _ (p 1++p 2)];exact d _ _ _ _ rfl e
 ·rw[ML _ (p 2)];exact d _ _ _ _ (by simp[e]) f
 ·exact d _ _ _ _ (by simp[e,f]) g
 ·have:=d ([st,st,vv,vv,vv]++p 0++p 1++p 2) (p 3) [] 65 (by simp[e,f,g]) j
  rwa [WS]at this
theorem tU(kk us:Nat)(hs:ByteArray)(k:Nat):iu (wl kk us hs k)=true:=by
 show(nR (sO kk us k) (sO kk us k)&&nR (gJ kk us k) (gJ kk us k))=true;have b:nR (sO kk us k) (sO kk us k)=true:=by unfold sO;split<;>rfl
 have a:nR (gJ kk us k) (gJ kk us k)=true:=by unfold gJ;split<;>rfl
 rw[b,a];rfl
theorem Mp(st vv:Int)(a:st=255\/st=3855\/st=13107\/st=21845)(kk us:Nat)(hs:ByteArray):BJ (jp st vv kk us hs 4)=true:=by rw[BJ,ky];rcases a with rfl|rfl|rfl|rfl<;>rfl
theorem zD(a:Int)(b:a=255\/a=3855\/a=13107\/a=21845)(h:n<=16)(kk us:Nat)(hs:ByteArray):p8 (jp a (gU n) kk us hs 4)=true:=by
 have d:((Ak 4).all λk=>iu (kY (jp a (gU n) kk us hs 4) k))=true:=by rw[Vk];intro k c;rw[zN a (gU n) kk us hs (by simpa using c)];exact tU kk us hs k
 rw[p8,Mp a (gU n) b,(wv a h kk us hs).1,d];rfl
end
namespace L1
open Go.Conc Go.RowKit
theorem px{x:ByteArray}{a:Nat}(h:s.extract a b=x):va s.data.toList a b=x.data.toList:=by rw[←h,fW]
theorem Lh{v e:Nat}{R:ByteArray}(r:key.size=56)(hs:s=iD++(ob v 2++(ob n 4++(ob e 4++(ob n 4++(ob 4364 4++(key++R)))))))(u:s.size=8192)(hv:v<65536)(t:84<=n)(y:n<=584)(A:e=80\/(e=84/\84<n)):mO s.data.toList=(CG v n e n 4364 key.data.toList,0):=by
 have a:iD.size=4:=rfl;have w:va s.data.toList 0 4=[76,78,84,76]:=px (x:=iD) (by rw[hs];exact ic _ _ a.symm);have g:∀i j,s.extract (4+i) (4+j)=(ob v 2++(ob n 4++(ob e 4++(ob n 4++(ob 4364 4++(key++R)))))).extract i j:=λi j=>by rw[hs];exact ju _ _ (by rw[a]) (by rw[a])
 have f:∀i j,s.extract (6+i) (6+j)=(ob n 4++(ob e 4++(ob n 4++(ob 4364 4++(key++R))))).extract i j:=λi j=>by rw[show 6+i=4+(2+i) by omega,show 6+j=4+(2+j) by omega,g];exact ju _ _ (by rw[aG]) (by rw[aG])
 have d:∀i j,s.extract (10+i) (10+j)=(ob e 4++(ob n 4++(ob 4364 4++(key++R)))).extract i j:=λi j=>by rw[show 10+i=6+(4+i) by omega,show 10+j=6+(4+j) by omega,f];exact ju _ _ (by rw[aG]) (by rw[aG])
 have c:∀i j,s.extract (14+i) (14+j)=(ob n 4++(ob 4364 4++(key++R))).extract i j:=λi j=>by rw[show 14+i=10+(4+i) by omega,show 14+j=10+(4+j) by omega,d];exact ju _ _ (by rw[aG]) (by rw[aG])
 have b:∀i j,s.extract (18+i) (18+j)=(ob 4364 4++(key++R)).extract i j:=λi j=>by rw[show 18+i=14+(4+i) by omega,show 18+j=14+(4+j) by omega,c];exact ju _ _ (by rw[aG]) (by rw[aG])
 have h:∀i j,s.extract (22+i) (22+j)=(key++R).extract i j:=λi j=>by rw[show 22+i=18+(4+i) by omega,show 22+j=18+(4+j) by omega,b];exact ju _ _ (by rw[aG]) (by rw[aG])
 have q:et (va s.data.toList 4 6)=v:=by rw[px ((g 0 2).trans (ic _ _ (by rw[aG]))),mm,T0 v 2 o_]
 have p:et (va s.data.toList 6 10)=n:=by rw[px ((f 0 4).trans (ic _ _ (by rw[aG]))),mm,T0 n 4 o_]
 have o:et (va s.data.toList 10 14)=e:=by rw[px ((d 0 4).trans (ic _ _ (by rw[aG]))),mm,T0 e 4 o_]
 have m:et (va s.data.toList 14 18)=n:=by rw[px ((c 0 4).trans (ic _ _ (by rw[aG]))),mm,T0 n 4 o_]
 have l:et (va s.data.toList 18 22)=4364:=by rw[px ((b 0 4).trans (ic _ _ (by rw[aG]))),mm,T0 4364 4 o_];rfl
 have k:va s.data.toList 22 78=key.data.toList:=px ((h 0 56).trans (ic _ _ r.symm));have z:s.data.toList.length=8192:=by rw[LO];exact u
 rw[mO,if_neg o_,if_neg (by rw[show s.data.toList.take 4=_ from w];simp),q,p,o,m,l,k,sP,if_neg o_,if_neg o_]
theorem wG:mO (lW 8192).data.toList=(jg,4):=by have b:(lW 8192).data.toList.length=8192:=Xq ..;have a:(lW 8192).data.toList.take 4=[0,0,0,0]:=List.take_replicate ..;rw[mO,if_neg o_,if_pos (by rw[a];decide)]
section
variable{id seed rt X1 X2 bd:ByteArray}{q v e:Nat}
theorem T4(b:id.size=16)(a:rt.size=32):(pD id rt v e bd).size=84+bd.size:=by have f:iD.size=4:=rfl;have d:z6.size=6:=rfl;have c:=jK id rt b a;simp only[pD,a34,aG];omega
theorem DF(b:X1.size=32)(a:X2.size=32){salt:ByteArray}(hs:salt.size=32)(msg:ByteArray):(lq KS id seed q salt msg X1 X2).size=4364:=by rw[lq,a34,a34,a34,lA _ _ _ _ _ _ hs,aG];omega
variable(hid:id.size=16)(hrt:rt.size=32)(h1:X1.size=32)(h2:X2.size=32)(hbd:bd.size<=500)
include hid hrt h1 h2 hbd
theorem te:(vl KS id seed rt X1 X2 q v e bd).size=8192:=by rw[vl,a34,jl,a34,T4 hid hrt,DF h1 h2 (aY ..)];omega
theorem Ad:(vl KS id seed rt X1 X2 q v e bd).extract 0 8192=vl KS id seed rt X1 X2 q v e bd:=by
 have h:=XP (b:=vl KS id seed rt X1 X2 q v e bd)
 rwa [te hid hrt h1 h2 hbd]at h
variable(hv:v<65536)(he:e=80\/(e=84/\84<84+bd.size))
include hv he
theorem yj:mO (vl KS id seed rt X1 X2 q v e bd).data.toList=(CG v ((84+bd.size:Nat):Int) e ((84+bd.size:Nat):Int) ((4364:Nat):Int) (pi id rt).data.toList,0):=by
 have a:∀S Z:ByteArray,pD id rt v e bd++S++Z=iD++(ob v 2++(ob (84+bd.size) 4++(ob e 4++(ob (84+bd.size) 4++(ob 4364 4++(pi id rt++(z6++(bd++(S++Z))))))))):=λS Z=>by rw[pD];simp only[fX]
 exact Lh (jK id rt hid hrt) (a _ _) (te hid hrt h1 h2 hbd) hv o_ o_ he
section
variable{le:Int}{us:List Bool}{hs:List ByteArray}
theorem J7(c:le<=(v:Int))(b:dh us hs (qK KS [pi id rt])=true)(f:∀d,sV KS (pi id rt) (pD id rt v e bd) (lq KS id seed q (eq KS (ow++bd)) (pD id rt v e bd) X1 X2) d->d=0):ja KS (vl KS id seed rt X1 X2 q v e bd) le us hs e 0:=by
 obtain⟨d,a⟩:=tv KS (pi id rt) (pD id rt v e bd) (lq KS id seed q (eq KS (ow++bd)) (pD id rt v e bd) X1 X2);have h:(vl KS id seed rt X1 X2 q v e bd).extract 0 (84+bd.size)=pD id rt v e bd:=by rw[vl,fX];exact ic _ _ (T4 hid hrt).symm
 have g:(vl KS id seed rt X1 X2 q v e bd).extract (84+bd.size) (84+bd.size+4364)=lq KS id seed q (eq KS (ow++bd)) (pD id rt v e bd) X1 X2:=by rw[vl];exact yA _ _ _ (T4 hid hrt).symm (by rw[T4 hid hrt,DF h1 h2 (aY ..)])
 refine .inr ⟨_,_,_,_,_,_,yj hid hrt h1 h2 hbd hv he, .inr (.inr ⟨c,b,d, ?_, .inr ⟨f d a,rfl,rfl⟩⟩)⟩;rw[h,g];exact a
end
end
theorem uF{a:Int}{us:List Bool}{hs:List ByteArray}:ja KS (lW 8192) a us hs 0 4:= .inl ⟨by rw[wG];decide,rfl,by rw[wG]⟩
theorem lZ{W:List Int}{L A B:ByteArray}{j:Bool}{s n k e i d:Int}(h:gt KS W L j s n c)(q:p8 W=true)(a:W.getD 0 0=255\/W.getD 0 0=3855)(v:L.extract 0 8192=A)(u:L.extract 8192 16384=B)(t:ja KS A (kr (se W)) (lg W) (qk W) k e)(r:ja KS B (kr (se W)) (lg W) (qk W) i d):
 (e=0/\j=true/\s=0/\n=k/\c=0)\/(e≠0/\((d=0/\j=true/\s=1/\n=i/\c=0)\/(d≠0/\j=false/\s=0/\n=0/\c=max e d))):=by
 obtain⟨z,C,E,y,D,f,h⟩:=h;rcases f with⟨_,rfl,rfl,rfl,rfl,rfl⟩|⟨l,_⟩
 ·rcases h with⟨h,_⟩|⟨_,b,g,_⟩|⟨_,_,p,x,b,h⟩
  ·exact absurd rfl h
  ·rcases a with a|a
   ·exact absurd a b
   ·exact absurd a g
  ·rw[v]at b;obtain⟨rfl,rfl⟩:=yB b t;rcases h with h|⟨g,o,w,m,h⟩
   ·exact .inl h
   ·rw[u]at m;obtain⟨rfl,rfl⟩:=yB m r;exact .inr ⟨g,h⟩
 ·rw[q]at l;cases l
theorem Ue{W:List Int}{L:ByteArray}{j:Bool}{s n:Int}(h:gt KS W L j s n c)(d:p8 W=false):j=false/\c=1:=by
 obtain⟨g,i,l,f,k,a,h⟩:=h;rcases a with⟨b,_⟩|⟨_,rfl⟩
 ·rw[d]at b;cases b
 ·rcases h with⟨_,h,_,_,e⟩|⟨h,_⟩|⟨h,_⟩
  ·exact⟨h,e⟩
  ·cases h
  ·cases h
end L1
section
open Go.Conc Go.RowKit
theorem Bv(hs:ByteArray)(j:Nat):rP hs j<65536:=by have b:=(hs.data.toList.getD (2*j) 0).toNat_lt;have a:=(hs.data.toList.getD (2*j+1) 0).toNat_lt;exact Nat.or_lt_two_pow (n:=16) o_ o_
theorem O3(hs:ByteArray)(j:Nat):cQ (rP hs j) 2=[hs.data.toList.getD (2*j) 0,hs.data.toList.getD (2*j+1) 0]:=by
 unfold rP;generalize hs.data.toList.getD (2*j) 0=a;generalize hs.data.toList.getD (2*j+1) 0=b;have d:=a.toNat_lt;have c:=b.toNat_lt;have e:a.toNat*2^8|||b.toNat=a.toNat*256+b.toNat:=by rw[Nat.mul_comm,←Nat.two_pow_add_eq_or_of_lt (i:=8) o_]
 rw[e];show[XE ((a.toNat*256+b.toNat)/256),XE (a.toNat*256+b.toNat)]=_;rw[show(a.toNat*256+b.toNat)/256=a.toNat by omega,UInt8.ofNat_toNat]
 congr 2
 apply UInt8.toNat_inj.1;rw[Z1];omega
theorem El(hs:ByteArray)(h:hs.size=32):eF (Bp hs true 16)=hs.data.toList:=by
 have a:hs.data.toList.length=32:=by rw[LO];exact h
 have e:eF (Bp hs true 16)=(Ak 16).flatMap λj=>[hs.data.toList.getD (2*j) 0,hs.data.toList.getD (2*j+1) 0]:=by simp only[eF,Bp,List.flatMap_map,if_true,VC,O3]
 rw[e];generalize hs.data.toList=L at a
 match L,a with
 |[_,_,_,_,_,_,_,_,_,_,_,_,_,_,_,_,_,_,_,_,_,_,_,_,_,_,_,_,_,_,_,_],_=>rfl
theorem yn(st vv:Int)(c:0<=st/\st<65536)(b:0<=vv/\vv<65536)(kk us:Nat)(hs:ByteArray):∀i,∀x∈jp st vv kk us hs i,0<=x/\x<65536
 |0,x,a=>by simp only[jp,AI,Af,or_false]at a;rcases a with rfl|rfl|rfl|rfl|rfl<;>assumption
 |i+1,x,a=>by
  rcases XH.1 a with a|a
  ·exact yn st vv c b kk us hs i x a
  ·rcases XH.1 a with a|a
   ·have d:0<=sO kk us i/\sO kk us i<65536:=(by unfold sO;split<;>decide);have e:0<=gJ kk us i/\gJ kk us i<65536:=(by unfold gJ;split<;>decide);simp only[AI,Af,or_false]at a;rcases a with rfl|rfl|rfl|rfl<;>assumption
   ·obtain⟨j,_,rfl⟩:=VJ.1 a;have:=Bv hs j;split<;>omega
theorem xw{W:List Int}(a:W.length=85)(h:∀x∈W,0<=x/\x<65536):gD W:=⟨a,λi b=>by rw[a50,AS o_];exact h _ (List.getElem_mem _)⟩
theorem GY(st vv:Int)(b:0<=st/\st<65536)(a:0<=vv/\vv<65536)(kk us:Nat)(hs:ByteArray):gD (jp st vv kk us hs 4):=
 xw (jP st vv kk us hs 4) (yn st vv b a kk us hs 4)
theorem qM(x:ByteArray):∀(us:List Bool) (hs:List ByteArray) (k:Nat) (b:Bool) (y:ByteArray),us[k]?=some b->hs[k]?=some y->(∀i,i≠k->us.getD i false=false)->dh us hs x=(b&&y.data.toList==x.data.toList)
 |[],_,k,b,y,h1,_,_=>by simp at h1
 |_::_,[],k,b,y,_,h2,_=>by simp at h2
 |u::us,h::hs,0,b,y,h1,h2,h3=>by
  obtain rfl:u=b:=by simpa using h1
  obtain rfl:h=y:=by simpa using h2
  have none:∀(us:List Bool) (hs:List ByteArray),(∀i,us.getD i false=false)->dh us hs x=false:=λus=>by
   induction us with
   |nil=>intro hs _;rfl
   |cons u us c=>
    intro hs h;cases hs with
    |nil=>rfl
    |cons e hs=>
     have a:u=false:=(by simpa using h 0);rw[dh,a,c hs λi=>by simpa using h (i+1)];rfl
  rw[dh,none us hs λi=>by simpa using h3 (i+1) o_,Bool.or_false]
 |u::us,h::hs,k+1,b,y,h1,h2,h3=>by
  have a:u=false:=by simpa using h3 0 o_
  rw[dh,a,qM x us hs k b y (by simpa using h1) (by simpa using h2) λi d=>by simpa using h3 (i+1) o_];simp
theorem NW(W:List Int)(i:Nat)(x:Int)(k:Nat):kY (W.set i x) k=if i<5+20*k then kY W k else(kY W k).set (i-(5+20*k)) x:=by
 unfold kY;rw[List.drop_set];split
 ·rfl
 ·rw[List.take_set]
theorem xx{W:List Int}{kk us:Nat}{hs:ByteArray}(c:kk<4)(a:∀k,k<4->kY W k=wl kk us hs k)(b:hs.size=32)(x:ByteArray):dh (lg W) (qk W) x=((us !=1&&us !=2)&&hs.data.toList==x.data.toList):=by
 have e:(us !=1&&us !=2)=(sO kk us kk==4080&&gJ kk us kk==61455):=by
  unfold sO gJ;by_cases g:us=1
  ·subst g;simp
  ·by_cases f:us=2
   ·subst f;simp
   ·simp[g,f]
 rw[e];refine(qM x _ _ kk (fP (wl kk us hs kk)) ⟨(eF (Bp hs true 16)).toArray⟩ ?_ ?_ λi j=> ?_).trans ?_
 ·simp[lg,c,a]
 ·simp[qk,c,a,wl]
 ·by_cases d:i<4
  ·have:(lg W).getD i false=fP (wl kk us hs i):=(by simp[lg,d,a]);rw[this];show(sO kk us i==4080&&_)=false;rw[sO,if_neg λh=>j h.1];rfl
  ·simp[lg,d]
 ·rw[El hs b];rfl
end
namespace L1
open Go.Conc Go.RowKit
theorem Nq(KS:List Int)(a:ByteArray):qK KS [a]=eq KS a:=by simp[qK,eq]
theorem nO(b:ByteArray):(oy b).size<=500:=by
 unfold oy;split
 ·rw[a52];omega
 ·omega
theorem yw(en:Nat)(a:ByteArray):ru en a=80\/(ru en a=84/\84<84+a.size):=by
 unfold ru;split
 ·exact .inr ⟨rfl,o_⟩
 ·exact .inl rfl
section
variable(KS:List Int)(seed:ByteArray)(used:Nat)
def Bo:ByteArray:=QQ KS (gi KS seed) seed used
def jN:ByteArray:=eq KS (pi (gi KS seed) (Bo KS seed used))
def sA(a:ByteArray):ByteArray:=GN KS (gi KS seed) seed (Bo KS seed used) (Ie KS (gi KS seed) seed used) (kM KS (gi KS seed) seed used 1) a used
def sB(b:ByteArray):ByteArray:=Hf KS (gi KS seed) seed (Bo KS seed used) (Ie KS (gi KS seed) seed used) (kM KS (gi KS seed) seed used 0) b used
variable{KS seed used}{le:Int}{us:List Bool}{hs:List ByteArray}{a b:ByteArray}
theorem fa:(jN KS seed used).size=32:=aY ..
theorem DI(b:used&&&1=1):sA KS seed used a=vl KS (gi KS seed) seed (Bo KS seed used) (kM KS (gi KS seed) seed used 1) (Ie KS (gi KS seed) seed used) 0 3 (ru 0 (oy a)) (oy a):=by rw[sA,GN,if_pos b,Rb];exact Ad (dc ..) (aY ..) (cW ..) (aY ..) (nO a)
theorem Ms(a:used&&&2=2):sB KS seed used b=vl KS (gi KS seed) seed (Bo KS seed used) (kM KS (gi KS seed) seed used 0) (Ie KS (gi KS seed) seed used) 1 4 (ru 1 (oy b)) (oy b):=by rw[sB,Hf,if_pos a,Ra];exact Ad (dc ..) (aY ..) (cW ..) (aY ..) (nO b)
theorem DG(b:used&&&1≠1):sA KS seed used a=lW 8192:=by rw[sA,GN,if_neg b]
theorem Mr(a:used&&&2≠2):sB KS seed used b=lW 8192:=by rw[sB,Hf,if_neg a]
theorem nZ:(sA KS seed used a).size=8192:=by
 by_cases b:used&&&1=1
 ·rw[DI b];exact te (dc ..) (aY ..) (cW ..) (aY ..) (nO a)
 ·rw[DG b,jl]
theorem xK:(sB KS seed used b).size=8192:=by
 by_cases a:used&&&2=2
 ·rw[Ms a];exact te (dc ..) (aY ..) (cW ..) (aY ..) (nO b)
 ·rw[Mr a,jl]
theorem CN:(sA KS seed used a++sB KS seed used b).extract 0 8192=sA KS seed used a:=ic _ _ nZ.symm
theorem CM:(sA KS seed used a++sB KS seed used b).extract 8192 16384=sB KS seed used b:=qs _ _ nZ.symm (by rw[nZ,xK])
theorem i4:(sA KS seed used a++sB KS seed used b).size=16384:=by rw[a34,nZ,xK]
theorem Sk:∀{u:Nat},u&&&1=1->u%2=1:=λ{u} h=>by rwa [Nat.and_one_is_mod]at h
theorem Sj{u:Nat}(h:u&&&2=2):u/2%2=1:=by have:=Nat.testBit_and u 2 1;rw[h]at this;rw[Xj,Xj]at this;simpa using this
theorem Jb(b:used&&&1=1)(f:le<=3)(c:dh us hs (jN KS seed used)=true):ja KS (sA KS seed used a) le us hs 80 0:=by rw[DI b];exact J7 (e:=80) (dc ..) (aY ..) (cW ..) (aY ..) (nO a) d_ (yw 0 _) f (by rw[Nq];exact c) λd g=>BN KS _ seed (dc ..) used _ _ (aY ..) d (Sk b) g
theorem Ja(a:used&&&2=2)(e:le<=4)(c:dh us hs (jN KS seed used)=true):ja KS (sB KS seed used b) le us hs (ru 1 (oy b)) 0:=by rw[Ms a];exact J7 (dc ..) (aY ..) (cW ..) (aY ..) (nO b) d_ (yw 1 _) e (by rw[Nq];exact c) λd f=>BM KS _ seed (dc ..) used _ _ (aY ..) d (Sj a) f
theorem Jc(b:used&&&1≠1):ja KS (sA KS seed used a) le us hs 0 4:=by rw[DG b];exact uF
theorem yC(a:used&&&2≠2):ja KS (sB KS seed used b) le us hs 0 4:=by rw[Mr a];exact uF
end
section
variable{seed a b:ByteArray}{W:List Int}{j:Bool}{s n:Int}
variable{st:Int}{le us:Nat}
theorem qn(st vv:Int)(kk us:Nat)(hs:ByteArray):(jp st vv kk us hs 4).getD 0 0=st:=by rw[ky];rfl
end
section
variable{seed a b:ByteArray}{W:List Int}{j:Bool}{s n st:Int}{le kk used:Nat}
theorem I3(i:st=255\/st=3855)(r:le<=3)(m:kk<4)(h:gt KS (jp st (gU le) kk 0 (jN KS seed used) 4) (sA KS seed used a++sB KS seed used b) j s n c):
 (used&&&1=1->j=true/\s=0/\n=80/\c=0)/\(used&&&1≠1->used&&&2=2->j=true/\s=1/\n=ru 1 (oy b)/\c=0)/\(used&&&1≠1->used&&&2≠2->j=false/\c=4):=by
 have d:st=255\/st=3855\/st=13107\/st=21845:=o_
 have l:=zD st d (show le<=16 by omega) kk 0 (jN KS seed used);have o:(jp st (gU le) kk 0 (jN KS seed used) 4).getD 0 0=255\/(jp st (gU le) kk 0 (jN KS seed used) 4).getD 0 0=3855:=by rw[qn];exact i
 have q:=(wv st (show le<=16 by omega) kk 0 (jN KS seed used)).2;have p:dh (lg (jp st (gU le) kk 0 (jN KS seed used) 4)) (qk (jp st (gU le) kk 0 (jN KS seed used) 4)) (jN KS seed used)=true:=by rw[xx m (λk m=>zN st (gU le) kk 0 _ m) fa];simp
 refine⟨λe=> ?_,λe g=> ?_,λe g=> ?_⟩
 ·obtain⟨u,v,t⟩:=AL KS (sB KS seed used b) (kr (se (jp st (gU le) kk 0 (jN KS seed used) 4))) (lg (jp st (gU le) kk 0 (jN KS seed used) 4)) (qk (jp st (gU le) kk 0 (jN KS seed used) 4));rcases lZ h l o CN CM (Jb e (by rw[q];omega) p) t with⟨_,f,h2,h3,d⟩|⟨h,_⟩
  ·exact⟨f,h2,h3,d⟩
  ·exact absurd rfl h
 ·rcases lZ h l o CN CM (Jc e) (Ja g (by rw[q];omega) p)with⟨h,_⟩|⟨_,⟨_,f,h2,h3,d⟩|⟨h,_⟩⟩
  ·cases h
  ·exact⟨f,h2,h3,d⟩
  ·exact absurd rfl h
 ·rcases lZ h l o CN CM (Jc e) (yC g)with⟨h,_⟩|⟨_,⟨h,_⟩|⟨_,f,_,_,d⟩⟩
  ·cases h
  ·cases h
  ·exact⟨f,d⟩
end
end L1
section
open Go.Conc Go.RowKit
theorem SU{x y:Nat}(h:x^^^m=y):m=x^^^y:=by rw[←h,←Nat.xor_assoc,Ze,Nat.zero_xor]
theorem T8{v:Nat}(hv:v=4080\/v=61455)(a:m≠0)(b:m≠65535):nR ((v^^^m:Nat):Int) (v:Int)=false/\nR ((v^^^m:Nat):Int) ((v^^^m:Nat):Int)=false:=by
 have i:v^^^m≠v:=λh=>a (by rw[SU h,Ze]);have g:v^^^m≠4080:=λh=>by
  have:=SU h;rcases hv with rfl|rfl
  ·exact a (by rw[this];decide)
  ·exact b (by rw[this];decide)
 have f:v^^^m≠61455:=λh=>by
  have:=SU h;rcases hv with rfl|rfl
  ·exact b (by rw[this];decide)
  ·exact a (by rw[this];decide)
 have e:(((v^^^m:Nat):Int)==(v:Int))=false:=by rw[beq_eq_false_iff_ne];omega
 have d:(((v^^^m:Nat):Int)==4080)=false:=by rw[beq_eq_false_iff_ne];omega
 have c:(((v^^^m:Nat):Int)==61455)=false:=by rw[beq_eq_false_iff_ne];omega
 constructor
 ·rw[nR,e];rfl
 ·rw[nR,d,c,Bool.or_self,Xk]
def tw(W:List Int)(i m:Nat):List Int:=W.set i (((W.getD i 0).toNat^^^m:Nat):Int)
def Um(W:List Int)(i m:Nat)(both:Bool):List Int:=if both then tw (tw W i m) (i+1) m else tw W i m
def Ug:List Nat:=[0,5,7,25,27,45,47,65,67]
theorem Uu(hs:ByteArray)(g:m%2=1)(a:Bool):BJ (Um (jp 3855 (gU 3) 0 0 hs 4) 0 m a)=false:=by
 have b:3855^^^m≠3855:=λh=>by have:=SU h;rw[Ze]at this;omega
 have e:3855^^^m≠255:=λh=>by have:=SU h;rw[show 3855^^^255=4080 by decide]at this;omega
 have d:3855^^^m≠13107:=λh=>by have:=SU h;rw[show 3855^^^13107=15420 by decide]at this;omega
 have c:3855^^^m≠21845:=λh=>by have:=SU h;rw[show 3855^^^21845=23130 by decide]at this;omega
 have f:∀n:Nat,3855^^^m≠n->(((3855^^^m:Nat):Int)==(n:Int))=false:=λn h=>by rw[beq_eq_false_iff_ne];omega
 cases a with
 |false=>
  show(_&&(((3855^^^m:Nat):Int)==((3855:Nat):Int)))=false;rw[f _ b,Xk]
 |true=>
  show((((3855^^^m:Nat):Int)==((255:Nat):Int)||((3855^^^m:Nat):Int)==((3855:Nat):Int)||((3855^^^m:Nat):Int)==((13107:Nat):Int)||((3855^^^m:Nat):Int)==((21845:Nat):Int))&&_)=false;rw[f _ b,f _ e,f _ d,f _ c];rfl
theorem Uy(hs:ByteArray)(h:m≠0)(f:m≠65535)(k:Nat)(p:k<4)(g:Bool)(b:Bool):iu (kY (Um (jp 3855 (gU 3) 0 0 hs 4) (5+20*k+if g then 2 else 0) m b) k)=false:=by
 have l:=zN 3855 (gU 3) 0 0 hs p;obtain⟨o,n,e⟩:∃o:Nat,sO 0 0 k=(o:Int)/\(o=4080\/o=61455):=by unfold sO;split;exact⟨4080,rfl, .inl rfl⟩;exact⟨61455,rfl, .inr rfl⟩
 obtain⟨q,j,d⟩:∃o:Nat,gJ 0 0 k=(o:Int)/\(o=4080\/o=61455):=by unfold gJ;split;exact⟨4080,rfl, .inl rfl⟩;exact⟨61455,rfl, .inr rfl⟩
 have a:kY (jp 3855 (gU 3) 0 0 hs 4) k=(o:Int)::o::q::q::Bp hs (decide (k=0)) 16:=by rw[l,wl,n,j];rfl
 have r:∀(W:List Int) (x:Nat),x<20->W.getD (5+20*k+x) 0=(kY W k).getD x 0:=λW x i=>by rw[kY,a50,a50,WV,if_pos i,List.getElem?_drop]
 have c:∀(W:List Int) (x:Nat),x<20->kY (tw W (5+20*k+x) m) k=(kY W k).set x ((((kY W k).getD x 0).toNat^^^m:Nat):Int):=λW x i=>by rw[tw,NW,if_neg o_,r W x i,show 5+20*k+x-(5+20*k)=x by omega]
 cases g<;>cases b
 ·show iu (kY (tw _ (5+20*k+0) m) k)=false;rw[c _ 0 d_,a];show(nR ((o^^^m:Nat):Int) (o:Int)&&_)=false;rw[(T8 e h f).1,VN]
 ·show iu (kY (tw (tw _ (5+20*k+0) m) (5+20*k+1) m) k)=false;rw[c _ 1 d_,c _ 0 d_,a];show(nR ((o^^^m:Nat):Int) ((o^^^m:Nat):Int)&&_)=false;rw[(T8 e h f).2,VN]
 ·show iu (kY (tw _ (5+20*k+2) m) k)=false;rw[c _ 2 d_,a];show(_&&nR ((q^^^m:Nat):Int) (q:Int))=false;rw[(T8 d h f).1,Xk]
 ·show iu (kY (tw (tw _ (5+20*k+2) m) (5+20*k+3) m) k)=false;rw[c _ 3 d_,c _ 2 d_,a];show(_&&nR ((q^^^m:Nat):Int) ((q^^^m:Nat):Int))=false;rw[(T8 d h f).2,Xk]
theorem UM(hs:ByteArray)(h:m%2=1)(f:m≠65535)(i:Nat)(j:i<9)(a:Bool):p8 (Um (jp 3855 (gU 3) 0 0 hs 4) (Ug.getD i 0) m a)=false:=by
 have d:m≠0:=o_
 have b:∀(k:Nat),k<4->∀g:Bool,Ug.getD i 0=5+20*k+(if g then 2 else 0)->p8 (Um (jp 3855 (gU 3) 0 0 hs 4) (Ug.getD i 0) m a)=false:=λk c g e=>by
  rw[e,p8];have:((Ak 4).all λx=>iu (kY (Um (jp 3855 (gU 3) 0 0 hs 4) (5+20*k+if g then 2 else 0) m a) x))=false:=by rw[List.all_eq_false];exact⟨k,by simpa using c,by rw[Uy hs d f k c g a];decide⟩
  rw[this,Xk]
 rcases(o_:i=0\/i=1\/i=2\/i=3\/i=4\/i=5\/i=6\/i=7\/i=8)with rfl|rfl|rfl|rfl|rfl|rfl|rfl|rfl|rfl
 ·show p8 (Um _ 0 m a)=false;rw[p8,Uu hs h a,VN,VN]
 ·exact b 0 d_ false rfl
 ·exact b 0 d_ true rfl
 ·exact b 1 d_ false rfl
 ·exact b 1 d_ true rfl
 ·exact b 2 d_ false rfl
 ·exact b 2 d_ true rfl
 ·exact b 3 d_ false rfl
 ·exact b 3 d_ true rfl
theorem Ti:∀(n:Nat) (S:List Nat),S.length<n->∃i,i<n/\i∉S
 |0,S,h=>o_
 |n+1,S,h=>by
  by_cases a:n∈S
  ·obtain⟨i,b,hs⟩:=Ti n (S.erase n) (by rw[List.length_erase_of_mem a];have:=List.length_pos_of_mem a;omega);exact⟨i,o_,λh=>hs ((List.mem_erase_of_ne o_).2 h)⟩
  ·exact⟨n,o_,a⟩
def T6(S:List Nat):Nat:=S.foldl (λm x=>m|||2^x) 1
theorem Tn(S:List Nat):∀m i,(S.foldl (λm x=>m|||2^x) m).testBit i=(m.testBit i||decide (i∈S)):=by
 induction S with
 |nil=>simp
 |cons x S a=>
  intro m i;rw[List.foldl_cons,a,Nat.testBit_or,Nat.testBit_two_pow];by_cases h:x=i
  ·subst h;simp
  ·have b:¬i=x:=λe=>h e.symm;simp[h,b]
theorem U7(S:List Nat)(h:S.length<=6)(hs:∀x∈S,x<16):T6 S%2=1/\T6 S≠65535/\T6 S<65536:=by
 refine⟨?_,λe=> ?_, ?_⟩
 ·have:=Tn S 1 0;rw[Nat.testBit_zero]at this;simpa[T6]using this
 ·obtain⟨i,a,c⟩:=Ti 16 (0::S) (by simp;omega);have:=Tn S 1 i;rw[show S.foldl (λm x=>m|||2^x) 1=65535 from e]at this;have d:(65535:Nat).testBit i=true:=by have:∀i,i<16->(65535:Nat).testBit i=true:=d_;exact this i a
  have b:(1:Nat).testBit i=false:=by have f:i≠0:=λe=>c (by simp[e]);have:∀i,i<16->i≠0->(1:Nat).testBit i=false:=d_;exact this i a f
  rw[d,b]at this;simp at this;exact c (List.mem_cons_of_mem _ this)
 ·apply Nat.lt_pow_two_of_testBit (n:=16);intro i a;rw[show(T6 S).testBit i=_ from Tn S 1 i];have b:(1:Nat).testBit i=false:=by apply Nat.testBit_lt_two_pow;exact a38 (d_:1<2^1) (OZ d_ o_)
  rw[b];simp;exact λh=>by have:=hs i h;omega
theorem Ub(a:Nat):∀(n i:Nat) (b:Array Value) (w:World) (es:Array Event),(∀j,j<n->(w.cell? ⟨a,i+j,none⟩).isSome)->∀ev∈(loadCellsFrom ⟨a,0,none⟩ i n b).events P w es,ev∈es\/∃k,ev=⟨.cell ⟨a,k,none⟩,false,false⟩
 |0,_,_,_,_,_=>λev h=> .inl (by simpa[loadCellsFrom]using h)
 |n+1,i,b,w,es,hc=>λev h=>by
  simp only[loadCellsFrom,Yz]at h;obtain⟨u,c⟩:=Option.isSome_iff_exists.1 (hc 0 o_);have e:(⟨a,0,none⟩:Addr).add i=⟨a,i,none⟩:=by rw[CH,a46]
  rw[e]at h;simp only[Xg]at c;have d:(load ⟨a,i,none⟩).run P w= .ok u w:=by simp[c]
  rw[d]at h;rcases Ub a n (i+1) (b.push u) w _ (λj f=>by have:=hc (j+1) o_;rwa [show i+(j+1)=i+1+j by omega]at this) ev h with h|h
  ·rw[events_load,c]at h;rcases Y2.1 h with h|rfl
   ·exact .inl h
   ·exact .inr ⟨_,rfl⟩
  ·exact .inr h
theorem Ty{a:Nat}{ty:TypeId}{cells:Array Value}{i:TypeId}(g:(isAgg ty).run P w= .ok true w)(p:(isAgg ty).events P w #[]=#[])(f:(sizeOf ty).run P w= .ok n w)(h:w.heap[a]?=some (.cells cells i))(m:cells.size=n):
 (loadVar ty ⟨a,0,none⟩).run P w= .ok (.agg cells) w/\∀e∈(loadVar ty ⟨a,0,none⟩).events P w #[],∃k,e=⟨.cell ⟨a,k,none⟩,false,false⟩:=by
 have o:∀j v,cells.toList[j]?=some v->w.cell? ((⟨a,0,none⟩:Addr).add j)=some v:=λj v l=>by rw[CH,a46,aK h];simpa using l
 have c:(loadCells ⟨a,0,none⟩ cells.toList.length).run P w= .ok cells.toList.toArray w:=run_loadCells_list (P:=P) w ⟨a,0,none⟩ cells.toList o;have b:cells.toList.length=n:=by simpa using m
 rw[b]at c;constructor
 ·simp[loadVar,g,f,c]
 ·intro e d;simp[loadVar,g,p,f]at d;rcases Ub a n 0 #[] w #[] (λj q=>by rw[a46,aK h];simp;omega) e d with h|h
  ·simp at h
  ·exact h
section
variable{ty:TypeId}{t r:Nat}
theorem Tp(c:fn.results=#[.tmp r])(v:Value)(b:Nat)(tmps:Array Value)(w:World)(h:SX none (some (true,r)) n v b tmps w):(results fn tmps).run P w= .ok v w/\∀e∈(results fn tmps).events P w #[],(none:Option Tmp).isSome=true/\∃k,e=⟨.cell ⟨b,k,none⟩,false,false⟩:=by obtain⟨f,d⟩:=pR (P:=P) c (show tmps[r]?=some v from h) w;exact⟨f,λe a=>by rw[d]at a;simp at a⟩
theorem Tq(f:∀w:World,(isAgg ty).run P w= .ok true w/\(isAgg ty).events P w #[]=#[])(o:∀w:World,(sizeOf ty).run P w= .ok n w)(c:fn.results=#[.cell t ty])(v:Value)(g:Nat)(tmps:Array Value)(w:World)(h:SX (some t) none n v g tmps w):(results fn tmps).run P w= .ok v w/\∀e∈(results fn tmps).events P w #[],(some t).isSome=true/\∃k,e=⟨.cell ⟨g,k,none⟩,false,false⟩:=by
 obtain⟨a,p,b,j,i,rfl⟩:=h;obtain⟨m,l⟩:=Ty (P:=P) (f w).1 (f w).2 (o w) j i;constructor
 ·simp[results,c,b,asAddr,m]
 ·intro e d;simp[results,c,b,asAddr]at d;exact⟨rfl,l e d⟩
theorem Tr(j:∀w:World,(isAgg ty).run P w= .ok true w/\(isAgg ty).events P w #[]=#[])(p:∀w:World,(sizeOf ty).run P w= .ok n w)(q:Bool)(d:fn.results=if q then #[.tmp r, .cell t ty]else #[.cell t ty, .tmp r])(v:Value)(l:Nat)(tmps:Array Value)(w:World)(h:SX (some t) (some (q,r)) n v l tmps w):(results fn tmps).run P w= .ok v w/\∀e∈(results fn tmps).events P w #[],(some t).isSome=true/\∃k,e=⟨.cell ⟨l,k,none⟩,false,false⟩:=by
 obtain⟨f,s,x,c,o,m,b,rfl⟩:=h;obtain⟨i,g⟩:=Ty (P:=P) (j w).1 (j w).2 (p w) o m;cases q with
 |true=>
  constructor
  ·simp[results,d,c,b,asAddr,i]
  ·intro e a;simp[results,d,c,b,asAddr]at a;exact⟨rfl,g e a⟩
 |false=>
  constructor
  ·simp[results,d,c,b,asAddr,i]
  ·intro e a;simp[results,d,c,b,asAddr]at a;exact⟨rfl,g e a⟩
end
theorem Uf{r:Nat}{R:(Nat->Prop)->Value->World->Prop}(s:P.funcs[f]?=some fn)(p:fn.results=#[.tmp r])(h:Calls P f args w λe w'=>∃v,e= .returned v/\v≠undef/\R (λ_=>True) v w'):
 Rn P (λg w'=>T3 f none (some (true,r)) n R g w'/\∃fr',g=gB fr' []) (a49 P f args .normal) [] w:=by
 obtain⟨e,w',j,⟨v,rfl,o,q⟩,d,a,c⟩:=h [];obtain⟨m,l,k,t,i,b⟩:=c;rw[a,s]at i;cases i;have u:j.tmps[r]?.getD undef=v:=by rw[results_tmp p]at b;simp at b;exact b
 exact⟨_,w',StepsIn.of_steps d,⟨a,m,l,rfl,rfl,k,rfl,v,0,TM u o,q⟩,j,rfl⟩
theorem SS{v0:Value}(hv:bO v0=true):Ud (λ_ v _=>v=v0):=⟨λ_ _ _ h=>h,λD a w b v _ _ h=>by rw[h,dG a v0 hv]⟩
theorem UG:Ud (λ_ v _=>∃p:Nat,v= .i p/\p<n):=⟨λ_ _ _ h=>h,λD b w c v _ _ ⟨p,h,a⟩=>⟨p,by rw[h,aE],a⟩⟩
theorem U4(a:Nat->Nat)(v:Value):(aE a v).oneCell'=v.oneCell':=by cases v<;>simp[aE,LN]
theorem UH:Ud (λ_ v _=>∃cells:Array Value,v= .tuple #[.agg cells, .i 1]/\cells.size=4/\cells.all (·.oneCell')=true):=⟨λ_ _ _ h=>h,λD a w d v _ _ ⟨p,h,c,b⟩=>⟨p.map (aE a),by rw[h];simp[aE],by simpa using c,by simpa[U4]using b⟩⟩
theorem UD{e:Bool->Int->Int->Int->Prop}:Ud (λ_ v _=>∃a j s n c,v= .tuple #[.pk a 0, .agg (L1.cH 1 j s n c)]/\e j s n c):=⟨λ_ _ _ h=>h,λD b w f v _ _ ⟨a,j,s,n,c,h,d⟩=>⟨b a,j,s,n,c,by rw[h];simp[aE,bC,L1.cH],d⟩⟩
theorem Tf{d c:Nat}(h:cR 2 0 D ρ w w')(b:∀a,aR 2 D ρ a->aE a (.sk d l c)=aE ρ (.sk d l c)):D d:=h.dom λa e=>by have:=b a e;simp only[aE,Option.map_some,bC,Value.slice.injEq,Option.some.injEq,Addr.mk.injEq]at this;exact this.1.1
theorem UE{V:List Int}:Ud (λE v w=>∃a cap b,v= .sk a 85 cap/\(85<=cap/\w.heap[a]?=some (.cells b 3))/\w.rangeAt a 0 (V.map (Value.int .i64))/\E a):=by refine⟨λ_ _ _ ⟨a,cap,b,f,e,i,_⟩=>⟨a,cap,b,f,e,i,trivial⟩,λD d w n v h c ⟨a,cap,b,f,⟨q,e⟩,i,_⟩=> ?_⟩;rw[f]at c;have m:=Tf h c;obtain⟨o,l,_,p⟩:=h.obj a m;rw[e]at l;cases l;have k:n.heap[d a]?=some (.cells (b.map (aE d)) 3):=p d h.self;refine⟨d a,cap,_,by rw[f];simp[aE,bC],⟨q,k⟩,λj u g=> ?_,a,m,rfl⟩;have:=i j u g;rw[a46,aK e]at this;rw[a46,aK k,Array.getElem?_map,this];rw[IS,By]at g;obtain⟨x,_,rfl⟩:=g;simp[aE]
theorem UF{id seed:ByteArray}{n:List ByteArray}:Ud (λE v w=>∃a,v= .agg (gR id seed a)/\w.heap[a]?=some (.cells (n.map Value.string).toArray 9)/\E a):=by
 refine⟨λ_ _ _ ⟨a,d,h,_⟩=>⟨a,d,h,trivial⟩,λD b w p v g f ⟨a,d,h,_⟩=> ?_⟩;have m:D a:=Tf (l:=8) (c:=8) g λe r=>by have:=f e r;rw[d]at this;simp only[aE,gR,Value.agg.injEq]at this;have:=congrArg (·[2]?) this;simpa using this
 obtain⟨o,j,_,q⟩:=g.obj a m;rw[h]at j;cases j;have i:p.heap[b a]?=some (.cells ((n.map Value.string).toArray.map (aE b)) 9):=q b g.self;rw[jJ λv k=>by simp only[List.mem_toArray,VJ]at k;obtain⟨s,_,rfl⟩:=k;simp[aE]]at i
 exact⟨b a,by rw[d];simp[aE,bC,gR],i,a,m,rfl⟩
theorem qC(h:fn.body.elim false (pE f)=true):∃c,fn.body=some c/\pE f c=true:=by
 cases a:fn.body with
 |none=>rw[a]at h;cases h
 |some c=>rw[a]at h;exact⟨c,rfl,h⟩
section
variable{W:World}{S:Nat->Prop}{r t:Nat}{ty:TypeId}{R:(Nat->Prop)->Value->World->Prop}{c':Frame}{cs':List Frame}
theorem Hd.keep(f:Hd W S D w)(d:∀b,D b->wL.heap[b]?=w.heap[b]?)(e:Bw wL w'):∀b,D b->w'.heap[b]?=wL.heap[b]?:=λb a=>by obtain⟨_,_,o,c,_⟩:=f.own b a;exact e.block b (bH ((d b a).trans c))
def Nx(W w:World)(S D:Nat->Prop)(R:(Nat->Prop)->Value->World->Prop)(K:(Nat->Prop)->World->Value->Prop):Prop:=
 ∀(S' E:Nat->Prop) (w':World) (v:Value),R E v w'->Hd W S' E w'->(∀b,D b->E b)->w.heap.size<=w'.heap.size->(∀r,r<w.heap.size->¬S r->w'.heap[r]?=w.heap[r]?/\¬S' r)->(∀x o,Ow W S D w x o->Ow W S' E w' x o)->K S' w' v
structure Tb (W:World):Prop where
 rng:W.rangeAt 0 0 (aH SN)
 obj:∃cl e z,(∀v∈cl,bO v=true)/\W.heap[0]?=some (.cells cl e z)
theorem Hd.slot(q:Hd W S D w)(p:Tb W)(m:∀I,c'.mode≠ .panicking I)(B:Ud R)(A:∀d,aR 2 D id d->args=args.map (aE d))(z:Tryz.prog.funcs[f]?=some fn)(k:lT.funcs[f]?=some fn)
 (C:∀wL:World,wL.rangeAt 0 0 (aH SN)->2<=wL.heap.size->(∀b,D b->wL.heap[b]?=w.heap[b]?)->Calls lT f args wL λe w'=>∃v,e= .returned v/\v≠undef/\R (λ_=>True) v w'/\Bw wL w')
 (c:Nx W w S D R λK w' v=>em tP Post K (gB (c'.finish v) cs') w') (a:fn.body.elim false (pE f)=true:=by kernel_rfl) (i:fn.results=#[.tmp r]:=by rfl) (j:dt f=0:=by rfl) (l:f≠105:=by decide) (y:uy f=false:=by kernel_rfl):em tP Post S (cd tP f args (c'::cs')) w:=
 let ⟨_,hb,a⟩:=qC a
 q.call (t:=none) (u:=some (true,r)) (n:=0) z hb a (Tp i) (λv J g w h=>(Tp i v J g w h).1) B m j l y A p.rng bQ p.obj (λwL x s o=>Uf k i ((C wL x s o).mono λ_ _ ⟨v,H,G,F,E⟩=>⟨v,H,G,F,q.keep o E⟩)) c
theorem Hd.cell1(y:Hd W S D w)(x:Tb W)(p:∀T,c'.mode≠ .panicking T)(N:Ud R)(M:∀i,aR 2 D id i->args=args.map (aE i))(L:Tryz.prog.funcs[f]?=some fn)
 (Q:∀w:World,(isAgg ty).run tP w= .ok true w/\(isAgg ty).events tP w #[]=#[]) (P:∀w:World,(sizeOf ty).run tP w= .ok n w) (J:∀w:World,(isAgg ty).run lT w= .ok true w/\(isAgg ty).events lT w #[]=#[]) (I:∀w:World,(sizeOf ty).run lT w= .ok n w)
 (O:∀wL:World,wL.rangeAt 0 0 (aH SN)->2<=wL.heap.size->(∀b,D b->wL.heap[b]?=w.heap[b]?)->Rn lT (λg w'=>∃(a:Act) (k:List Item) (e:Nat) (cells:Array Value) (l:TypeId),g=gB {(base f).atR a k with mode:= .returning} []/\a.defers=[]/\a.tmps[t]?=some (.pk e 0)/\w'.heap[e]?=some (.cells cells l)/\cells.size=n/\R (λ_=>True) (.agg cells) w'/\Bw wL w') (Frame.enter lT f args .normal) [] wL)
 (d:Nx W w S D R λU w' v=>em tP Post U (gB (c'.finish v) cs') w') (c:fn.body.elim false (pE f)=true:=by kernel_rfl) (r:fn.results=#[.cell t ty]:=by rfl) (m:dt f=0:=by rfl) (o:f≠105:=by decide) (K:uy f=false:=by kernel_rfl):em tP Post S (cd tP f args (c'::cs')) w:=
 let ⟨_,hb,c⟩:=qC c
 y.call (t:=some t) (u:=none) (n:=n) L hb c (Tq Q P r) (λv e j w h=>(Tq J I r v e j w h).1) N p m o K M x.rng bQ x.obj (λwL H G q=>by obtain⟨V,w',s,a,k,e,cells,l,rfl,F,E,C,B,A,z⟩:=O wL H G q;exact⟨_,w',s,⟨rfl,rfl,F,rfl,rfl,rfl,rfl, .agg cells,e,⟨cells,l,E,C,B,rfl⟩,A,y.keep q z⟩,_,rfl⟩) d
theorem Hd.both(q:Bool)(B:Hd W S D w)(A:Tb W)(p:∀Y,c'.mode≠ .panicking Y)(T:Ud R)(Q:∀i,aR 2 D id i->args=args.map (aE i))(P:Tryz.prog.funcs[f]?=some fn)
 (X:∀w:World,(isAgg ty).run tP w= .ok true w/\(isAgg ty).events tP w #[]=#[]) (V:∀w:World,(sizeOf ty).run tP w= .ok n w) (N:∀w:World,(isAgg ty).run lT w= .ok true w/\(isAgg ty).events lT w #[]=#[]) (M:∀w:World,(sizeOf ty).run lT w= .ok n w)
 (U:∀wL:World,wL.rangeAt 0 0 (aH SN)->2<=wL.heap.size->(∀b,D b->wL.heap[b]?=w.heap[b]?)->Rn lT (λg w'=>∃(a:Act) (k:List Item) (e:Nat) (cells:Array Value) (l:TypeId) (x:Value),g=gB {(base f).atR a k with mode:= .returning} []/\a.defers=[]/\a.tmps[t]?=some (.pk e 0)/\w'.heap[e]?=some (.cells cells l)/\cells.size=n/\a.tmps[r]?=some x/\R (λ_=>True) (.tuple (if q then #[x, .agg cells]else #[.agg cells,x])) w'/\Bw wL w') (Frame.enter lT f args .normal) [] wL)
 (d:Nx W w S D R λZ w' v=>em tP Post Z (gB (c'.finish v) cs') w') (z:fn.results=if q then #[.tmp r, .cell t ty]else #[.cell t ty, .tmp r]) (c:fn.body.elim false (pE f)=true:=by kernel_rfl) (m:dt f=0:=by rfl) (o:f≠105:=by decide) (O:uy f=false:=by kernel_rfl):em tP Post S (cd tP f args (c'::cs')) w:=
 let ⟨_,hb,c⟩:=qC c
 B.call (t:=some t) (u:=some (q,r)) (n:=n) P hb c (Tr X V q z) (λv e j w h=>(Tr N M q z v e j w h).1) T p m o O Q A.rng bQ A.obj (λwL L K y=>by obtain⟨g',w',s,a,k,e,cells,l,x,rfl,J,I,H,G,F,E,C⟩:=U wL L K y;exact⟨_,w',s,⟨rfl,rfl,J,rfl,rfl,rfl,rfl,_,e,⟨cells,l,x,I,H,G,F,rfl⟩,E,B.keep y C⟩,_,rfl⟩) d
end
end
section
open Go.RowKit
theorem Lf.func22:(aI q Tryz.prog).funcs[22]?=some Tryz.f22:=aM Tryz.func22 d_ rfl rfl k_
end
namespace L1
open Go.Conc Go.RowKit
theorem UN:Tryz.f22.body=some (.seq (rG Tryz.f22 0) (.seq (rG Tryz.f22 1) .ret)):=k_
theorem UC{W:List Int}{gb cap:Nat}(hW:gD W)(hno:p8 W=false)(hr:w.rangeAt gb 0 (W.map (Value.int .i64)))(hlt:gb<w.heap.size)(h85:85<=cap)(cs:List Frame):Rn lT (λg w'=>∃(a:Act) (k:List Item) (bk:Nat) (cells:Array Value) (tt:TypeId) (x:Value),g=gB {(base 22).atR a k with mode:= .returning} cs/\a.defers=[]/\a.tmps[2]?=some (.pk bk 0)/\w'.heap[bk]?=some (.cells cells tt)/\cells.size=4/\a.tmps[3]?=some x/\(x= .i 1/\cells.all (·.oneCell')=true)/\Bw w w') (a49 lT 22 #[.sk gb 85 cap] .normal) cs w:=by
 rw[aV (N:=8) [.sk gb 85 cap] Lf.func22 UN rfl];have hF:=aN [.sk gb 85 cap] 8 s_;refine Rn.al hF (λo ho=>Ij ho) λw1 a b1 c1 z1 hF=> ?_
 iterate 2 refine Rn.uc hF λa hF=> ?_
 refine Rn.cl hF Lf.func36 (t8 W w1 gb 0 cap h85 hW (λj v hv=>cG b1 (hr j v hv)) o_) λv w2 hv a hF=> ?_;obtain⟨st,le,c,pu,lu,qu,ph,lh,qh,us,hs,rfl,hp,b2,_⟩:=hv;obtain rfl:c=1:=by
  rcases hp with⟨h,_⟩|⟨_,h⟩
  ·rw[hno]at h;cases h
  ·exact h
 have c1:=bk b2 c1;have B2:=aB b1 b1.size b2
 iterate 2 refine Rn.uc hF λa hF=> ?_
 refine Rn.nn hF (λo ho=>vO ho (hF.G 2) (hF.G 6) c1 rfl) λa hF=> ?_;refine Rn.uc hF λa hF=> ?_;exact Rn.runs 6 _ (Rn.ends rfl (.inr ⟨_,rfl⟩) (Rn.now ⟨_,_,w.heap.size,_,_,_,rfl,hF.defers,hF.slot 2 _ rfl,co c1,rfl,hF.slot 3 _ rfl,⟨rfl,by simp[ik,LN]⟩,B2.trans (cM (a36 _))⟩))
section
variable{y:Operand}
theorem Kk{W:List Int}{d:Array Value}(h:w.heap[b]?=some (.cells d t))(g:w.rangeAt b 0 (W.map (Value.int .i64)))(n:Int):(gy w b (d.setIfInBounds i (.i n)) t).rangeAt b 0 ((W.set i n).map (Value.int .i64)):=λj v a=>by
 rw[a46,aK (co h)];rw[IS,List.getElem?_set]at a;by_cases c:i=j
 ·subst c;rw[if_pos rfl]at a;by_cases f:i<W.length
  ·rw[if_pos f]at a;have e:=g i _ (by rw[IS,AS f];rfl);rw[a46,aK h]at e;have k:=(gA e).1;rw[Array.getElem?_setIfInBounds_self_of_lt k,←a];rfl
  ·rw[if_neg f]at a;cases a
 ·rw[if_neg c]at a;have e:=g j v (by rw[IS];exact a);rw[a46,aK h]at e;rwa [sN c]
end
end L1
section
open Go.Conc Go.RowKit
theorem Ua(b:Nat)(t:TypeId):∀(vs:List Value) (i:Nat) (a:Array Value) (w:World) (es:Array Event),w.heap[b]?=some (.cells a t)->i+vs.length<=a.size->(∀v∈vs,v.oneCell'=true)->
 ∀ev∈(storeCells ⟨b,0,none⟩ vs i).events P w es,ev∈es\/∃k,ev=⟨.cell ⟨b,k,none⟩,true,false⟩
 |[],_,_,_,_,_,_,_=>λev h=> .inl (by simpa[storeCells]using h)
 |v::rest,i,a,w,es,hg,hl,h1=>λev h=>by
  have l:i<a.size:=by simp at hl;omega
  have e:(⟨b,0,none⟩:Addr).add i=⟨b,i,none⟩:=by rw[CH,a46]
  have c:w.cell? ⟨b,i,none⟩=some a[i]:=by rw[aK hg];simp[l]
  have d:w.frozen? ⟨b,i,none⟩=false:=by simp[Hv,hg]
  have f:(store ((⟨b,0,none⟩:Addr).add i) v).run P w= .ok () (gy w b (a.setIfInBounds i v) t):=by rw[e,run_store P w _ v _ (h1 v s_),c];simp[d,nc v hg]
  have g:(store ((⟨b,0,none⟩:Addr).add i) v).events P w es=es.push ⟨.cell ⟨b,i,none⟩,true,false⟩:=by rw[e,events_store P w es _ v _ (h1 v s_),c];simp only[d,Bool.false_eq_true,if_false];rfl
  simp only[storeCells,Yz,f,Result.evThen_ok,g]at h;rcases Ua b t rest (i+1) (a.setIfInBounds i v) _ _ (co hg) (by simp at hl⊢;omega) (λx j=>h1 x (by simp[j])) ev h with h|h
  ·rcases Y2.1 h with h|rfl
   ·exact .inl h
   ·exact .inr ⟨_,rfl⟩
  ·exact .inr h
section
variable{y:Operand}{ty:TypeId}{bk:Nat}{cells old:Array Value}
theorem Tw(n:∀w:World,(sizeOf ty).run P w= .ok cells.size w/\(sizeOf ty).events P w #[]=#[])(a:o.op= .store ty x y)(g:ev x= .pk bk 0)(f:ev y= .agg cells)(c:w.heap[bk]?=some (.cells old t))(b:(P.info? ty).map (·.size)=some cells.size)(j:old.size=cells.size)(d:cells.all (·.oneCell')=true):
 (execOp ev o).run P w= .ok .skip (gy w bk cells t)/\∀e∈(execOp ev o).events P w #[],∃k,e=⟨.cell ⟨bk,k,none⟩,true,false⟩:=by
 constructor
 ·rw[←iq c];exact db a g f c b j d
 ·intro e l;simp[execOp,a,g,f,Instr.storeAt,storeVar,Value.cells,(n w).1,go_sem]at l;rcases Ua (P:=P) bk t cells.toList 0 old w #[] c (by simp[j]) (λv m=>by rw[Array.all_eq_true]at d;obtain⟨i,b,rfl⟩:=List.mem_iff_getElem.1 m;exact d i (by simpa using b)) e l with h|h
  ·simp at h
  ·exact h
theorem U1(hv:v.cells=#[v])(a:v.oneCell'=true)(i:(sizeOf ty).run tP w= .ok 1 w)(b:o.op= .store ty x y)(h:ev x= .pk bk k)(g:ev y=v)(c:w.heap[bk]?=some (.cells old t))(j:k<old.size):
 (execOp ev o).run tP w= .ok .skip (gy w bk (old.setIfInBounds k v) t)/\∀e∈(execOp ev o).events tP w #[],∃k,e=⟨.cell ⟨bk,k,none⟩,true,false⟩:=by obtain⟨f,l⟩:=eK (v0:=old[k]) hv a i b h g (by rw[aK c];simp[j]) (by simp[Hv,c]);rw[nc v c]at f;exact⟨f,λe d=>by rw[l]at d;exact⟨k,by simpa using d⟩⟩
end
section
variable{W:World}{S:Nat->Prop}{x y:Nat}{o p:Obj}
theorem Hd.made(a:Hd W S D w)(k:∀r,S r->r<w.heap.size)(b:Bw w w')(j:w'.heap[w.heap.size]?=some o):Hd W S D w'/\Ow W S D w' w.heap.size o/\∀y p,Ow W S D w y p->Ow W S D w' y p:=by
 have e:=a.old.size;refine⟨⟨a.two,⟨b.os.trans a.old.os,b.tape.trans a.old.tape,b.output.trans a.old.output,a56 e b.size,λr d=>(b.block r o_).trans (a.old.block r d)⟩,a.shun,λr d=> ?_⟩,⟨e,λh=>by have:=k _ h;omega,λh=> ?_,j⟩,λy p h=>⟨h.new,h.ours,h.out,(b.block y (bH h.lies)).trans h.lies⟩⟩
 ·obtain⟨i,g,o,c,f⟩:=a.own r d;exact⟨i,g,o,(b.block r (bH c)).trans c,f⟩
 ·obtain⟨_,_,o,c,_⟩:=a.own _ h;have:=bH c;omega
theorem Hd.set(b:Hd W S D w)(a:Ow W S D w x o)(cs:Array Value)(t:TypeId):Hd W S D (gy w x cs t)/\Ow W S D (gy w x cs t) x (.cells cs t)/\∀y p,y≠x->Ow W S D w y p->Ow W S D (gy w x cs t) y p:=by have d:=a.new;refine⟨⟨b.two,b.old.trans (cM d),b.shun,λr c=> ?_⟩,⟨d,a.ours,a.out,co a.lies⟩,λy p j h=>⟨h.new,h.ours,h.out,(cn j).trans h.lies⟩⟩;obtain⟨i,g,o,f,e⟩:=b.own r c;exact⟨i,g,o,(cn (by rintro rfl;exact a.out c)).trans f,e⟩
theorem Hd.poke(b:Hd W S D w)(j:D x){a:Array Value}(k:w.heap[x]?=some (.cells a t))(i:Nat)(n:Int):Hd W S D (gy w x (a.setIfInBounds i (.i n)) t)/\∀y p,Ow W S D w y p->Ow W S D (gy w x (a.setIfInBounds i (.i n)) t) y p:=by
 obtain⟨c,_,_⟩:=b.own x j;refine⟨⟨b.two,b.old.trans (cM c),b.shun,λr m=> ?_⟩,λy p h=>⟨h.new,h.ours,h.out,(cn (by rintro rfl;exact h.out j)).trans h.lies⟩⟩;obtain⟨c,g,o,f,d⟩:=b.own r m;by_cases e:r=x
 ·subst e;rw[k]at f;cases f;refine⟨c,g,_,co k,d.1,λl q=> ?_⟩;have:=d.2 l q;simp only[eC,Obj.cells.injEq,and_true]at this⊢;rw[Array.map_setIfInBounds,this];simp[aE]
 ·exact⟨c,g,o,(cn e).trans f,d⟩
theorem Hd.at(a:Hd W S D w)(c:Nat):Hd W S D (w.at c):=⟨a.two,a.old.trans ⟨rfl,rfl,rfl,a36 _,λ_ _=>rfl⟩,a.shun,a.own⟩
end
section
variable{S:Nat->Prop}{b:Frame}{k:List Item}
theorem em.sp{j:List Item}{p:Op}{f:Nat}{d:Array Value}{n:Obj}(r:aW F N ds a)(q:w.heap[f]?=some n)(i:¬S f)(l:∀(o:Oper) (c:Nat),o.op=p->(execOp a.eval o).run tP (w.at c)= .ok .skip (gy (w.at c) f d t)/\∀e∈(execOp a.eval o).events tP (w.at c) #[],∃k,e=⟨.cell ⟨f,k,none⟩,true,false⟩)
 (next:∀a',aW F N ds a'->em tP Post S (gB (b.atR a' (.inRegion ops rest::j)) cs) (gy w f d t)) (s:mc 6 (b.atR a k)= .inRegion ops (m::rest)::j:=by rfl)
 (h:(ops[m]?).map (λo=>(o.dst,o.op,o.guard))=some (none,p,none):=by rfl) (g:nd p=true:=by rfl):em tP Post S (gB (b.atR a k) cs) w:=
 em.ss (d:=λc=>(gy w f d t).at c) r (bH q) i (λo c e=>⟨(l o c e).1,jD,(l o c e).2⟩) (λc a' h=>em.at (next a' h) c) s h g
theorem yq{p:Prop}(h:p:=by
 first
 |exact UU ho gx
 |exact UX ho gx
 |exact UW ho gx rfl
 |exact tl ho gx
 |exact dw ho gx gx
 |exact UR ho gx gx
 |exact US ho gx gx
 |exact Ur ho gx gx
 |exact Up ho gx gx
 |exact UV _ d_ ho gx
 |exact Us ho gx gx
 |exact Uq ho gx):p:=h
theorem em.uu{g:List Item}{d:Tmp}{p:Op}{i:Option (Nat×Bool)}(r:aW F N ds a)(next:∀a',aW ((d,v)::F) N ds a'->em tP Post S (gB (b.atR a' (.inRegion ops rest::g)) cs) w)(s:mc 6 (b.atR a k)= .inRegion ops (m::rest)::g:=by rfl)
 (h:(ops[m]?).map (λo=>(o.dst,o.op,o.guard))=some (some d,p,i):=by rfl) (l:gF ops F i=true:=by rfl) (j:∀(o:Oper) (c:Nat),o.op=p->Yl tP a.eval o (w.at c) v #[]:=by intro o c ho;exact yq) (q:d<N:=by decide) (f:nd p=true:=by rfl):em tP Post S (gB (b.atR a k) cs) w:=em.vv r j (λe n=>by simp at n) next s h l q f
end
end
section
open Go.Conc Go.RowKit Go.Proofs.YtkmoglhgkcnalabGreatDoor.L1
theorem SP(h:∀vs,v≠ .tuple vs):v≠undef:=h _
section
variable{W:World}{S:Nat->Prop}{c':Frame}{cs':List Frame}
theorem Hd.known(g:Hd W S D w)(f:Tb W)(b:∀i,c'.mode≠ .panicking i)(a:Nx W w S D (λ_ v _=>v= .bool true) λj w' v=>em tP Post j (gB (c'.finish v) cs') w'):em tP Post S (cd tP 8 #[] (c'::cs')) w:=
 g.slot (r:=0) f b (SS rfl) (λ_ _=>s_) Tryz.func8 Lf.func8 (λc d k _=>(rm c d o_).mono λ_ _ h=>⟨_,h.1,SP (λ_ e=>by cases e),rfl,h.2⟩) a
theorem Hd.sha(s:ByteArray)(hs:s.size<=576460752303423488)(g:Hd W S D w)(f:Tb W)(b:∀i,c'.mode≠ .panicking i)(a:Nx W w S D (λ_ v _=>v= .string ⟨(ip SN s.data.toList).toArray⟩) λj w' v=>em tP Post j (gB (c'.finish v) cs') w'):em tP Post S (cd tP 13 #[.s s] (c'::cs')) w:=
 g.slot (r:=2) f b (SS rfl) (λ_ _=>by simp[aE]) Tryz.func13 Lf.func13 (λc d k _=>(fv SN s c d bQ hs).mono λ_ _ h=>⟨_,h.1,SP (λ_ e=>by cases e),rfl,h.2⟩) a
theorem Hd.pick(x:Int)(n:Nat)(l:0<n)(d: -9223372036854775808<=x/\x<9223372036854775808)(i:Hd W S D w)(g:Tb W)(b:∀j,c'.mode≠ .panicking j)(a:Nx W w S D (λ_ v _=>∃p:Nat,v= .i p/\p<n) λk w' v=>em tP Post k (gB (c'.finish v) cs') w'):em tP Post S (cd tP 9 #[.i x, .i n] (c'::cs')) w:=
 i.slot (r:=4) g b UG (λ_ _=>by simp[aE]) Tryz.func9 Lf.func9 (λc _ _ _=>(iY x n c o_ d.1 o_).mono λe w' h=>by obtain⟨⟨v,rfl,f⟩,rfl⟩:=h;exact⟨_,rfl,SP (λ_ e=>by cases e),⟨v.toNat,by rw[R1 f.1],o_⟩,bR⟩) a
theorem Hd.fuses{hs:ByteArray}(f:hs.size=32)(d:Int)(least kk us:Nat)(g:least<=16)(l:Hd W S D w)(k:Tb W)(i:∀q,c'.mode≠ .panicking q)(a:Nx W w S D (λE v w=>∃c cap b,v= .sk c 85 cap/\(85<=cap/\w.heap[c]?=some (.cells b 3))/\w.rangeAt c 0 ((jp d (gU least) kk us hs 4).map (Value.int .i64))/\E c) λs w' v=>em tP Post s (gB (c'.finish v) cs') w'):em tP Post S (cd tP 12 #[.i d, .i least, .i kk, .s hs, .i us] (c'::cs')) w:=
 l.slot (r:=10) k i UE (λ_ _=>by simp[aE]) Tryz.func12 Lf.func12 (λt _ _ _=>(TN f d least kk us g).mono λe w' ⟨v,h,c,cap,b,j,p,o,n,m⟩=>⟨v,h,by rw[j];exact SP (λ_ e=>by cases e),⟨c,cap,b,j,⟨p.2,o⟩,n,trivial⟩,m⟩) a
theorem Hd.grown(seed:ByteArray)(c:seed.size<=140737488355320)(used:Nat)(b:used<16)(l:Hd W S D w)(j:Tb W)(g:∀B,c'.mode≠ .panicking B)(d:Nx W w S D (λE v w=>∃f,v= .agg (gR (gi SN seed) seed f)/\w.heap[f]?=some (.cells ((RJ SN (gi SN seed) seed used).map Value.string).toArray 9)/\E f) λF w' v=>em tP Post F (gB (c'.finish v) cs') w'):em tP Post S (cd tP 10 #[.s seed, .i used] (c'::cs')) w:=
 l.cell1 (t:=4) (n:=3) (ty:=27) j g UF (λ_ _=>by simp[aE]) Tryz.func10 (λw=>⟨k_,k_⟩) (λw=>k_) (λw=>⟨k_,k_⟩) (λw=>k_) (λG i H _=>by obtain⟨A,w',s,a,k,C,e,h,z,y,x,u,r,v,q,f,p,o,_,m⟩:=U8 (seed:=seed) bQ c used b i o_ [];cases q;exact⟨A,w',s,a,k,C,e,h,z,y,x,u,r,⟨f,p,o,trivial⟩,m⟩) d
theorem Hd.started{L m:ByteArray}{V:List Int}{b cap:Nat}(H:L.size=16384)(i:m.size=16)(E:gD V)(C:w.rangeAt b 0 (V.map (Value.int .i64)))(o:D b)(I:Hd W S D w)(F:Tb W)(l:∀X,c'.mode≠ .panicking X)(d:Nx W w S D (λ_ v _=>∃f j s n c,v= .tuple #[.pk f 0, .agg (L1.cH 1 j s n c)]/\gt SN V L j s n c) λZ w' v=>em tP Post Z (gB (c'.finish v) cs') w'):em tP Post S (cd tP 15 #[.s L, .sk b 85 cap, .s m, .slice none 0 0] (c'::cs')) w:=
 I.both (t:=9) (r:=8) (n:=5) (ty:=36) true F l UD (λp h=>by
  have:p b=b:=h.2 b o;simp[aE,bC,this]) Tryz.func15 (λw=>⟨k_,k_⟩) (λw=>k_) (λw=>⟨k_,k_⟩) (λw=>k_) (λq A k2 z=>by
  have g:q.rangeAt b 0 (V.map (Value.int .i64)):=λj v B=>by have:=C j v B;unfold AB at this⊢;rw[z b o];exact this
  obtain⟨U,w',s,a,k,Y,e,u,x,T,R,Q,P,O,N,v,M,f,cb,fl,j,y,n,c,K,_,G,_,J⟩:=Tv (cap:=cap) t8 bQ H i E g o_ A [];cases M;exact⟨U,w',s,a,k,Y,e,u,x,T,R,Q,P,O,N,⟨f,j,y,n,c,K,G.step⟩,J⟩) d rfl
theorem Hd.fuL{V:List Int}{b cap:Nat}(C:gD V)(f:p8 V=false)(B:w.rangeAt b 0 (V.map (Value.int .i64)))(i:85<=cap)(d:D b)(m:Hd W S D w)(E:Tb W)(g:∀O,c'.mode≠ .panicking O)(c:Nx W w S D (λ_ v _=>∃cells:Array Value,v= .tuple #[.agg cells, .i 1]/\cells.size=4/\cells.all (·.oneCell')=true) λQ w' v=>em tP Post Q (gB (c'.finish v) cs') w'):em tP Post S (cd tP 22 #[.sk b 85 cap] (c'::cs')) w:=
 m.both (t:=2) (r:=3) (n:=4) (ty:=48) false E g UH (λq h=>by
  have:q b=b:=h.2 b d;simp[aE,bC,this]) Tryz.func22 (λw=>⟨k_,k_⟩) (λw=>k_) (λw=>⟨k_,k_⟩) (λw=>k_) (λu T R l=>by
  have e:u.rangeAt b 0 (V.map (Value.int .i64)):=λj v A=>by have:=B j v A;unfold AB at this⊢;rw[l b d];exact this
  obtain⟨_,_,o,z,_⟩:=m.own b d;obtain⟨N,w',s,a,k,P,cells,y,x,M,L,K,J,p,I,⟨H,G⟩,F⟩:=UC C f e (bH ((l b d).trans z)) i [];exact⟨N,w',s,a,k,P,cells,y,x,M,L,K,J,p,I,⟨cells,by rw[H];rfl,p,G⟩,F⟩) c rfl
theorem Hd.twoI{id seed rt t f i g x u:ByteArray}{b:Nat}(k:id.size=16)(c:seed.size<=140737488355320)(p:rt.size=32)(o:f.size=32)(s:i.size=32)(q:g.size=32)(a:Nat)(C:a<4)(A B:ByteArray)(j:w.heap[b]?=some (.cells ([⟨#[]⟩,rt,t,f,i,g,x,u].map Value.string).toArray 9))(m:D b)(F:Hd W S D w)(E:Tb W)(l:∀G,c'.mode≠ .panicking G)(d:Nx W w S D (λ_ v _=>v= .s (GN SN id seed rt f g A a++Hf SN id seed rt f i B a)) λH w' v=>em tP Post H (gB (c'.finish v) cs') w'):em tP Post S (cd tP 11 #[.agg (gR id seed b), .i a, .s A, .s B] (c'::cs')) w:=
 F.slot (r:=8) E l (SS rfl) (λn h=>by have:n b=b:=h.2 b m;simp[aE,bC,gR,this]) Tryz.func11 Lf.func11 (λI z J y=>(xB bQ k c p o s q a C A B ((y b m).trans j) z o_).mono λ_ _ h=>⟨_,h.1,SP (λ_ e=>by cases e),rfl,h.2⟩) d
theorem Hd.kyy{id seed rt:ByteArray}{i:List ByteArray}{a:Nat}(d:id.size=16)(m:w.heap[a]?=some (.cells (i.map Value.string).toArray 9))(o:i[1]?=some rt)(c:rt.size=32)(g:D a)(n:Hd W S D w)(l:Tb W)(f:∀p,c'.mode≠ .panicking p)(b:Nx W w S D (λ_ v _=>v= .s (pi id rt)) λq w' v=>em tP Post q (gB (c'.finish v) cs') w'):em tP Post S (cd tP 14 #[.agg (gR id seed a)] (c'::cs')) w:=
 n.slot (r:=2) l f (SS rfl) (λj h=>by have:j a=a:=h.2 a g;simp[aE,bC,gR,this]) Tryz.func14 Lf.func14 (λs _ _ k=>(qj d ((k a g).trans m) o c).mono λ_ _ h=>⟨_,h.1,SP (λ_ e=>by cases e),rfl,h.2⟩) b
end
end
end Go.Proofs.YtkmoglhgkcnalabGreatDoor
