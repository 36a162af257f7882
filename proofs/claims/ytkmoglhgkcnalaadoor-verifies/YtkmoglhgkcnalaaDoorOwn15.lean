/- A part of what the last text of the claim imports: texts laid together, and made small, by a program. -/
import Derived.Test.YtkmoglhgkcnalaaDoorOwn14
set_option maxHeartbeats 16000000
set_option maxRecDepth 100000
namespace Go.Proofs.YtkmoglhgkcnalaaDoor.L1
open Go Go.Conc Go.RowKit Go.Proofs.YtkmoglhgkcnalaaDoor
def BE(KS:List Int)(id ys:ByteArray)(q tp:Nat)(dg:Nat->Nat):Nat->ByteArray
 |0=>⟨#[]⟩
 |i+1=>BE KS id ys q tp dg i++Dw KS id q i (tp- dg i) (dg i) (ys.extract (32*i) (32*i+32))
def gv(KS:List Int)(id path:ByteArray)(lf:Nat)(x:ByteArray):Nat->ByteArray
 |0=>x
 |i+1=>EK KS id (dq lf i) (path.extract (32*i) (32*i+32)) (gv KS id path lf x i)
theorem rl(KS:List Int)(id:ByteArray)(q i:Nat):∀(m j:Nat) (y:ByteArray),y.size=32->(Dw KS id q i m j y).size=32
 |0,_,_,h=>h
 |m+1,j,_,_=>rl KS id q i m (j+1) _ (qE KS _)
theorem ru(KS:List Int)(id ys:ByteArray)(q tp:Nat)(dg:Nat->Nat):∀i,32*i<=ys.size->(BE KS id ys q tp dg i).size=32*i
 |0,_=>rfl
 |i+1,h=>by
  have ih:=ru KS id ys q tp dg i (by omega)
  have hg:=rl KS id q i (tp- dg i) (dg i) (ys.extract (32*i) (32*i+32)) (by rw[ByteArray.size_extract];omega)
  rw[BE,ByteArray.size_append,ih,hg]
  omega
theorem y7(KS:List Int)(id path:ByteArray)(lf:Nat)(x:ByteArray)(hx:x.size=32):∀i,(gv KS id path lf x i).size=32
 |0=>hx
 |_+1=>iv _ _
def yD(f:Func):Code:= .seq (.seq (.region 4 (ae f 4) false) (.cond (.tmp 36) .skip (.exit 0))) (.seq (.block 1 (.seq (.region 6 (ae f 6) true) (.region 7 (ae f 7) false))) (.region 5 (ae f 5) false))
def EX(f:Func):Code:= .seq (.seq (.region 11 (ae f 11) false) (.cond (.tmp 76) .skip (.exit 2))) (.seq (.block 3 (.seq (.region 13 (ae f 13) false) (.seq (.seq (.region 14 (ae f 14) false) (.cond (.tmp 88) (.region 15 (ae f 15) false) (.region 16 (ae f 16) false))) (.region 17 (ae f 17) false)))) (.region 12 (ae f 12) false))
theorem IE:Tryd.f20.body=some (.seq (.region 0 (ae Tryd.f20 0) false) (.seq (.region 1 (ae Tryd.f20 1) true) (.seq (.region 2 (ae Tryd.f20 2) false) (.seq (.seq (.region 3 (ae Tryd.f20 3) false) (.block 0 (.loop (yD Tryd.f20))))
 (.seq (.region 8 (ae Tryd.f20 8) false) (.seq (.region 9 (ae Tryd.f20 9) false) (.seq (.seq (.region 10 (ae Tryd.f20 10) false) (.block 2 (.loop (EX Tryd.f20)))) (.seq (.region 18 (ae Tryd.f20 18) false) .ret)))))))):=by kernel_rfl
section
variable{KS:List Int}(hKl:KS.length=64)(hKw:l7 KS){cv:Array Value}{id ys path:ByteArray}{q h wd n sh gb cap b8 b9:Nat}{t c:Int}{dg:Nat->Nat}{w0:World}{Goal:Goroutine->World->Prop}{fr:Frame}{cs:List Frame}{K:List Item}
 (hC:rM KS cv w0) (hbox:w0.heap[b8]?=some (.cells cv 24)) (hkd:w0.heap[b9]?=some (.cells (aL t c h wd n sh) 38)) (hid:id.size<=1000)
include hKl hKw hC hbox hkd hid
theorem BA(hq:q<4294967296)(hw:pZ wd)(hn:n<=1000)(hys:32*n<=ys.size)(hd8:∀c,dg c<256)(hgb:gb<w0.heap.size)(hdg:∀c,c<n->w0.cell? ⟨gb,c,none⟩=some (.int .i64 (dg c)))
 (next:∀a w,Below w0.heap.size w0 w->aM [(18, .string (BE KS id ys q (ck wd) dg n)),(2, .string id),(3, .int .i64 q),(7, .string path),(8, .pt b8),(9, .pt b9)] 106 [] a->Rn (ac true Tryd.prog) Goal (fr.atR a K) cs w):
 ∀(m i:Nat) (a:Act) (w:World),n- i=m->i<=n->Below w0.heap.size w0 w->aM [(2, .string id),(3, .int .i64 q),(6, .string ys),(8, .pt b8),(9, .pt b9),(17, .slice (some ⟨gb,0,none⟩) n cap),(19, .int .i64 i),(18, .string (BE KS id ys q (ck wd) dg i)),(7, .string path)] 106 [] a->
  Rn (ac true Tryd.prog) Goal (fr.atR a (.code (yD Tryd.f20):: .inLoop (yD Tryd.f20):: .inBlock 0::K)) cs w:=by
 have htop:=mw hw
 have hlt8:=(gA hbox).1
 have hlt9:=(gA hkd).1
 intro m
 induction m with
 |zero=>
  intro i a w hm hi hB hF
  have hin:i=n:=by omega
  have hk:=(hB.block b9 hlt9).trans hkd
  refine Rn.p rfl (Rn.p rfl (Rn.r (L:=[0,1,2,3]) rfl ?_))
  refine Rn.y hF 33 19 rfl λa hF=> ?_
  refine Rn.o hF 34 (.fieldAddr 38 (.tmp 9) 4) (λo ho=>bX 4 (by decide) ho (hF.get (d:=9) rfl)) λa hF=> ?_
  refine Rn.o hF 35 (.load 3 (.tmp 34)) (λo ho=>(ay (v:= .int .i64 n) aQ ho (hF.get (d:=34) rfl) ((am hk 4).trans rfl)).1) λa hF=> ?_
  refine Rn.o hF 36 (.binOp .lss 3 (.tmp 33) (.tmp 35) 3) (λo ho=>(cQ ho (hF.get (d:=33) rfl) (hF.get (d:=35) rfl)).1) λa hF=> ?_
  refine Rn.p rfl (Rn.cond _ (hF.get (d:=36) rfl) ?_)
  rw[decide_eq_false (by omega)]
  exact Rn.p rfl (next a w hB (hF.only ⟨by rw[←hin];rfl,rfl,rfl,rfl,rfl,rfl,trivial⟩))
 |succ m ih=>
  intro i a w hm hi hB hF
  have hin:i<n:=by omega
  have hk:=(hB.block b9 hlt9).trans hkd
  have hbx:=(hB.block b8 hlt8).trans hbox
  refine Rn.p rfl (Rn.p rfl (Rn.r (L:=[0,1,2,3]) rfl ?_))
  refine Rn.y hF 33 19 rfl λa hF=> ?_
  refine Rn.o hF 34 (.fieldAddr 38 (.tmp 9) 4) (λo ho=>bX 4 (by decide) ho (hF.get (d:=9) rfl)) λa hF=> ?_
  refine Rn.o hF 35 (.load 3 (.tmp 34)) (λo ho=>(ay (v:= .int .i64 n) aQ ho (hF.get (d:=34) rfl) ((am hk 4).trans rfl)).1) λa hF=> ?_
  refine Rn.o hF 36 (.binOp .lss 3 (.tmp 33) (.tmp 35) 3) (λo ho=>(cQ ho (hF.get (d:=33) rfl) (hF.get (d:=35) rfl)).1) λa hF=> ?_
  refine Rn.p rfl (Rn.cond _ (hF.get (d:=36) rfl) ?_)
  rw[decide_eq_true (by omega)]
  refine Rn.p rfl (Rn.p rfl (Rn.p rfl (Rn.p rfl ?_)))
  refine Gi (d:=dg i) (Yn:=Dw KS id q i (ck wd- dg i) (dg i) (ys.extract (32*i) (32*i+32))) (H2:=2^wd) hKl hKw rfl rfl (Nat.two_pow_pos wd) (by rcases hw with rfl|rfl|rfl<;>decide) (by rcases hw with rfl|rfl|rfl<;>decide) rfl hin hn (hd8 i) (by omega) hid hq (Nat.lt_of_lt_of_le hgb hB.size) ((World.cell?_of_block (w:=w0) (a:=⟨gb,i,none⟩) (hB.block gb hgb)).trans (hdg i hin)) (hC.mono hB) hbx hk (hF.only ⟨rfl,rfl,rfl,rfl,rfl,rfl,rfl,rfl,rfl,trivial⟩) λa w2 ⟨hb2,hF⟩=> ?_
  have hes:=ru KS id ys q (ck wd) dg i (by omega)
  have hgs:=rl KS id q i (ck wd- dg i) (dg i) (ys.extract (32*i) (32*i+32)) (by rw[ByteArray.size_extract];omega)
  refine Rn.r (L:=[0,1,2,3]) rfl ?_
  refine Rn.y hF 59 18 rfl λa hF=> ?_
  refine Rn.y hF 60 20 rfl λa hF=> ?_
  refine Rn.o hF 61 (.binOp .add 9 (.tmp 59) (.tmp 60) 9) (λo ho=>cu ho (hF.get (d:=59) rfl) (hF.get (d:=60) rfl) (by rw[hes,hgs];omega)) λa hF=> ?_
  refine Rn.s hF 18 61 rfl λa hF=> ?_
  refine Rn.p rfl (Rn.p rfl (Rn.r (L:=[0,1,2]) rfl ?_))
  refine Rn.y hF 37 19 rfl λa hF=> ?_
  refine Rn.o hF 38 (.binOp .add 3 (.tmp 37) (.const (.int .i64 1)) 3) (λo ho=>da (n:=1) ho (hF.get (d:=37) rfl) rfl (by omega)) λa hF=> ?_
  refine Rn.s hF 19 38 rfl λa hF=> ?_
  refine Rn.p rfl (Rn.p rfl (ih (i+1) a w2 (by omega) (by omega) (ah hB hB.size hb2) (hF.only ⟨rfl,rfl,rfl,rfl,rfl,rfl, ?_,rfl,rfl,trivial⟩)))
  rw[Int.natCast_add]
  rfl
theorem EW{lf:Nat}{x:ByteArray}(hx:x.size=32)(hh:h<=8)(hlf:lf<9223372036854775808)(hp:32*h<=path.size)
 (next:∀a w,Below w0.heap.size w0 w->aM [(21, .string (gv KS id path lf x h))] 106 [] a->Rn (ac true Tryd.prog) Goal (fr.atR a K) cs w):
 ∀(m i:Nat) (a:Act) (w:World),h- i=m->i<=h->Below w0.heap.size w0 w->aM [(21, .string (gv KS id path lf x i)),(22, .int .i64 (dq lf i)),(23, .int .i64 i),(2, .string id),(7, .string path),(8, .pt b8),(9, .pt b9)] 106 [] a->
  Rn (ac true Tryd.prog) Goal (fr.atR a (.code (EX Tryd.f20):: .inLoop (EX Tryd.f20):: .inBlock 2::K)) cs w:=by
 have hlt8:=(gA hbox).1
 have hlt9:=(gA hkd).1
 intro m
 induction m with
 |zero=>
  intro i a w hm hi hB hF
  have hin:i=h:=by omega
  have hk:=(hB.block b9 hlt9).trans hkd
  refine Rn.p rfl (Rn.p rfl (Rn.r (L:=[0,1,2,3]) rfl ?_))
  refine Rn.y hF 73 23 rfl λa hF=> ?_
  refine Rn.o hF 74 (.fieldAddr 38 (.tmp 9) 2) (λo ho=>bX 2 (by decide) ho (hF.get (d:=9) rfl)) λa hF=> ?_
  refine Rn.o hF 75 (.load 3 (.tmp 74)) (λo ho=>(ay (v:= .int .i64 h) aQ ho (hF.get (d:=74) rfl) ((am hk 2).trans rfl)).1) λa hF=> ?_
  refine Rn.o hF 76 (.binOp .lss 3 (.tmp 73) (.tmp 75) 3) (λo ho=>(cQ ho (hF.get (d:=73) rfl) (hF.get (d:=75) rfl)).1) λa hF=> ?_
  refine Rn.p rfl (Rn.cond _ (hF.get (d:=76) rfl) ?_)
  rw[decide_eq_false (by omega)]
  exact Rn.p rfl (next a w hB (hF.only ⟨by rw[←hin];rfl,trivial⟩))
 |succ m ih=>
  intro i a w hm hi hB hF
  have hin:i<h:=by omega
  have hk:=(hB.block b9 hlt9).trans hkd
  have hbx:=(hB.block b8 hlt8).trans hbox
  have hle:=nL lf i
  refine Rn.p rfl (Rn.p rfl (Rn.r (L:=[0,1,2,3]) rfl ?_))
  refine Rn.y hF 73 23 rfl λa hF=> ?_
  refine Rn.o hF 74 (.fieldAddr 38 (.tmp 9) 2) (λo ho=>bX 2 (by decide) ho (hF.get (d:=9) rfl)) λa hF=> ?_
  refine Rn.o hF 75 (.load 3 (.tmp 74)) (λo ho=>(ay (v:= .int .i64 h) aQ ho (hF.get (d:=74) rfl) ((am hk 2).trans rfl)).1) λa hF=> ?_
  refine Rn.o hF 76 (.binOp .lss 3 (.tmp 73) (.tmp 75) 3) (λo ho=>(cQ ho (hF.get (d:=73) rfl) (hF.get (d:=75) rfl)).1) λa hF=> ?_
  refine Rn.p rfl (Rn.cond _ (hF.get (d:=76) rfl) ?_)
  rw[decide_eq_true (by omega)]
  refine Rn.p rfl (Rn.p rfl (Rn.p rfl (Rn.p rfl (Rn.r (L:=[0,1,2,3,4,5,6,7]) rfl ?_))))
  have e32:(32:Int)*(i:Int)=((32*i:Nat):Int):=by omega
  have e32':((32*i:Nat):Int)+32=((32*i+32:Nat):Int):=by omega
  refine Rn.y hF 79 7 rfl λa hF=> ?_
  refine Rn.y hF 80 23 rfl λa hF=> ?_
  refine Rn.o hF 81 (.binOp .mul 3 (.const (.int .i64 32)) (.tmp 80) 3) (λo ho=>(dA (m:=32) ho rfl (hF.get (d:=80) rfl) (by omega)).1) λa hF=> ?_
  rw[e32]at hF
  refine Rn.y hF 82 23 rfl λa hF=> ?_
  refine Rn.o hF 83 (.binOp .mul 3 (.const (.int .i64 32)) (.tmp 82) 3) (λo ho=>(dA (m:=32) ho rfl (hF.get (d:=82) rfl) (by omega)).1) λa hF=> ?_
  rw[e32]at hF
  refine Rn.o hF 84 (.binOp .add 3 (.tmp 83) (.const (.int .i64 32)) 3) (λo ho=>da (n:=32) ho (hF.get (d:=83) rfl) rfl (by omega)) λa hF=> ?_
  rw[e32']at hF
  refine Rn.o hF 85 (.slice 9 (.tmp 79) (some (.tmp 81)) (some (.tmp 84)) none) (λo ho=>(cN (m:=32*i) (n:=32*i+32) ho (hF.get (d:=79) rfl) (hF.get (d:=81) rfl) (hF.get (d:=84) rfl) (by omega) (by omega)).1) λa hF=> ?_
  refine Rn.s hF 24 85 rfl λa hF=> ?_
  have hF:aM [(24, .string (path.extract (32*i) (32*i+32))),(21, .string (gv KS id path lf x i)),(22, .int .i64 (dq lf i)),(23, .int .i64 i),(2, .string id),(7, .string path),(8, .pt b8),(9, .pt b9)] 106 [] a:=hF.only ⟨rfl,rfl,rfl,rfl,rfl,rfl,rfl,rfl,trivial⟩
  refine Rn.p rfl (Rn.p rfl (Rn.p rfl (Rn.r (L:=[0,1,2]) rfl ?_)))
  refine Rn.y hF 86 22 rfl λa hF=> ?_
  refine Rn.o hF 87 (.binOp .rem 3 (.tmp 86) (.const (.int .i64 2)) 3) (λo ho=>CN ho (hF.get (d:=86) rfl) rfl (by omega)) λa hF=> ?_
  refine Rn.o hF 88 (.binOp .eql 3 (.tmp 87) (.const (.int .i64 1)) 3) (λo ho=>mJ ho (hF.get (d:=87) rfl) rfl) λa hF=> ?_
  refine Rn.p rfl (Rn.cond _ (hF.get (d:=88) rfl) ?_)
  have hps:(path.extract (32*i) (32*i+32)).size<=32:=by rw[ByteArray.size_extract];omega
  have hxs:=y7 KS id path lf x hx i
  have equo:((dq lf i:Int)/2)=((dq lf i/2:Nat):Int):=by rw[Int.natCast_ediv];rfl
  have done:∀(a:Act) (w2:World),Below w.heap.size w w2->aM [(21, .string (gv KS id path lf x (i+1))),(22, .int .i64 (dq lf i)),(23, .int .i64 i),(2, .string id),(7, .string path),(8, .pt b8),(9, .pt b9)] 106 [] a->
   Rn (ac true Tryd.prog) Goal (fr.atR a (.code (.region 17 (ae Tryd.f20 17) false):: .inBlock 3:: .code (.region 12 (ae Tryd.f20 12) false):: .inLoop (EX Tryd.f20):: .inBlock 2::K)) cs w2:=by
   intro a w2 hb2 hF
   refine Rn.r (L:=[0,1,2]) rfl ?_
   refine Rn.y hF 103 22 rfl λa hF=> ?_
   refine Rn.o hF 104 (.binOp .quo 3 (.tmp 103) (.const (.int .i64 2)) 3) (λo ho=>qN ho (hF.get (d:=103) rfl) rfl (by omega) (by omega)) λa hF=> ?_
   rw[equo]at hF
   refine Rn.s hF 22 104 rfl λa hF=> ?_
   refine Rn.p rfl (Rn.p rfl (Rn.r (L:=[0,1,2]) rfl ?_))
   refine Rn.y hF 77 23 rfl λa hF=> ?_
   refine Rn.o hF 78 (.binOp .add 3 (.tmp 77) (.const (.int .i64 1)) 3) (λo ho=>da (n:=1) ho (hF.get (d:=77) rfl) rfl (by omega)) λa hF=> ?_
   refine Rn.s hF 23 78 rfl λa hF=> ?_
   refine Rn.p rfl (Rn.p rfl (ih (i+1) a w2 (by omega) (by omega) (ah hB hB.size hb2) (hF.only ⟨rfl,rfl, ?_,rfl,rfl,rfl,rfl,trivial⟩)))
   rw[Int.natCast_add]
   rfl
  by_cases hodd:dq lf i%2=1
  ·rw[show(((dq lf i:Int)%2)==1)=true from by rw[beq_iff_eq];omega]
   refine Rn.r (L:=[0,1,2,3,4,5,6,7]) rfl ?_
   refine Rn.o hF 89 (.load 24 (.tmp 8)) (λo ho=>dI hC.two ho (hF.get (d:=8) rfl) hbx) λa hF=> ?_
   refine Rn.y hF 90 2 rfl λa hF=> ?_
   refine Rn.y hF 91 22 rfl λa hF=> ?_
   refine Rn.o hF 92 (.binOp .quo 3 (.tmp 91) (.const (.int .i64 2)) 3) (λo ho=>qN ho (hF.get (d:=91) rfl) rfl (by omega) (by omega)) λa hF=> ?_
   rw[equo]at hF
   refine Rn.y hF 93 24 rfl λa hF=> ?_
   refine Rn.y hF 94 21 rfl λa hF=> ?_
   refine Rn.calls (f:=38) (xs:=#[.tmp 89, .tmp 90, .tmp 92, .tmp 93, .tmp 94]) (ats:=#[24,9,3,9,9]) (args:=#[.agg cv, .string id, .int .i64 ((dq lf i/2:Nat):Int), .string (path.extract (32*i) (32*i+32)), .string (gv KS id path lf x i)]) hF 95 (by decide) (by kernel_rfl) (by simp only[List.map_toArray,List.map_cons,List.map_nil,hF.get (d:=89) rfl,hF.get (d:=90) rfl,hF.get (d:=92) rfl,hF.get (d:=93) rfl,hF.get (d:=94) rfl]) Lf.func38 (by kernel_rfl) (by kernel_rfl)
    (R:=λv w'=>v= .string (gv KS id path lf x (i+1))/\Below w.heap.size w w') ((qS hKl hKw id (path.extract (32*i) (32*i+32)) (gv KS id path lf x i) (dq lf i/2) (by omega) (by omega) w (hC.mono hB)).mono λe w' h=>⟨_,h.1,by simp[gv,EK,hodd],h.2⟩) λv w2 hv a hF=> ?_
   obtain⟨rfl,hb2⟩:=hv
   refine Rn.s hF 21 95 rfl λa hF=> ?_
   exact Rn.p rfl (done a w2 hb2 (hF.only ⟨rfl,rfl,rfl,rfl,rfl,rfl,rfl,trivial⟩))
  ·rw[show(((dq lf i:Int)%2)==1)=false from by rw[beq_eq_false_iff_ne];omega]
   refine Rn.r (L:=[0,1,2,3,4,5,6,7]) rfl ?_
   refine Rn.o hF 96 (.load 24 (.tmp 8)) (λo ho=>dI hC.two ho (hF.get (d:=8) rfl) hbx) λa hF=> ?_
   refine Rn.y hF 97 2 rfl λa hF=> ?_
   refine Rn.y hF 98 22 rfl λa hF=> ?_
   refine Rn.o hF 99 (.binOp .quo 3 (.tmp 98) (.const (.int .i64 2)) 3) (λo ho=>qN ho (hF.get (d:=98) rfl) rfl (by omega) (by omega)) λa hF=> ?_
   rw[equo]at hF
   refine Rn.y hF 100 21 rfl λa hF=> ?_
   refine Rn.y hF 101 24 rfl λa hF=> ?_
   refine Rn.calls (f:=38) (xs:=#[.tmp 96, .tmp 97, .tmp 99, .tmp 100, .tmp 101]) (ats:=#[24,9,3,9,9]) (args:=#[.agg cv, .string id, .int .i64 ((dq lf i/2:Nat):Int), .string (gv KS id path lf x i), .string (path.extract (32*i) (32*i+32))]) hF 102 (by decide) (by kernel_rfl) (by simp only[List.map_toArray,List.map_cons,List.map_nil,hF.get (d:=96) rfl,hF.get (d:=97) rfl,hF.get (d:=99) rfl,hF.get (d:=100) rfl,hF.get (d:=101) rfl]) Lf.func38 (by kernel_rfl) (by kernel_rfl)
    (R:=λv w'=>v= .string (gv KS id path lf x (i+1))/\Below w.heap.size w w') ((qS hKl hKw id (gv KS id path lf x i) (path.extract (32*i) (32*i+32)) (dq lf i/2) (by omega) (by omega) w (hC.mono hB)).mono λe w' h=>⟨_,h.1,by simp[gv,EK,hodd],h.2⟩) λv w2 hv a hF=> ?_
   obtain⟨rfl,hb2⟩:=hv
   refine Rn.s hF 21 102 rfl λa hF=> ?_
   exact Rn.p rfl (done a w2 hb2 (hF.only ⟨rfl,rfl,rfl,rfl,rfl,rfl,rfl,trivial⟩))
end
def rz(KS:List Int)(id salt msg ys path:ByteArray)(h wd sh n q:Nat):ByteArray:=
 gv KS id path (2^h+q) (nY KS [id,ob (2^h+q) 4,ob 33410 2,nY KS [id,ob q 4,ob 32896 2,BE KS id ys q (ck wd) (λc=>cn (iO (nY KS [id,ob q 4,ob 33153 2,salt,msg]).data.toList wd sh) wd c) n]]) h
theorem BN{KS:List Int}(hKl:KS.length=64)(hKw:l7 KS){cv:Array Value}(id salt msg ys path:ByteArray)(t c:Int)(h wd sh n q:Nat)(hw:pZ wd)(hsh:sh<=8)(hn1:1<=n)(hn2:n<=34*(8/wd))(hh:h<=8)(hq:q<256)(hid:id.size<=1000)(hlen:id.size+6+salt.size+msg.size<=140737488355328)(hys:32*n<=ys.size)(hp:32*h<=path.size)(w:World)(hC:rM KS cv w):
 Calls (ac true Tryd.prog) 20 #[.agg cv, .agg (aL t c h wd n sh), .string id, .int .i64 q, .string salt, .string msg, .string ys, .string path] w λe w'=>e= .returned (.string (rz KS id salt msg ys path h wd sh n q))/\Below w.heap.size w w':=by
 have hper:8/wd<=4:=by rcases hw with rfl|rfl|rfl<;>decide
 have hn136:n<=136:=Nat.le_trans hn2 (Nat.le_trans (Nat.mul_le_mul_left 34 hper) (by decide))
 have h2h:2^h<=256:=Nat.le_trans (Nat.pow_le_pow_right (by decide) hh) (by decide)
 have htop:=mw hw
 refine bF (t:=16) Lf.func20 rfl λcs=> ?_
 rw[bW (N:=106) [.agg cv, .agg (aL t c h wd n sh), .string id, .int .i64 q, .string salt, .string msg, .string ys, .string path] Lf.func20 IE rfl]
 have hF:=bm [.agg cv, .agg (aL t c h wd n sh), .string id, .int .i64 q, .string salt, .string msg, .string ys, .string path] 106 (by simp)
 refine Rn.p rfl (Rn.r (L:=[0,1,2]) rfl ?_)
 refine Rn.z hF 8 0 24 rfl λa hF=> ?_
 show Rn _ _ _ _ (w.alloc (.cells cv 24))
 refine Rn.z hF 9 1 38 rfl λa hF=> ?_
 rw[ak]at hF
 show Rn _ _ _ _ ((w.alloc (.cells cv 24)).alloc (.cells (aL t c h wd n sh) 38))
 have hb1:Below w.heap.size w ((w.alloc (.cells cv 24)).alloc (.cells (aL t c h wd n sh) 38)):=ah (an w _) (by rw[ak];omega) (an _ _)
 have h8:=(bH (w.alloc (.cells cv 24)) (.cells (aL t c h wd n sh) 38) (b:=w.heap.size) (by rw[ak];omega)).trans (aC w _)
 have h9:=aC (w.alloc (.cells cv 24)) (.cells (aL t c h wd n sh) 38)
 rw[ak]at h9
 revert hb1 h8 h9
 generalize (w.alloc (.cells cv 24)).alloc (.cells (aL t c h wd n sh) 38)=w1
 intro hb1 h8 h9
 refine Rn.c hF 16 (.string ⟨#[]⟩) λa hF=> ?_
 refine Rn.p rfl (Rn.p rfl ?_)
 refine Gj (Qb:=nY KS [id,ob q 4,ob 33153 2,salt,msg]) hKl hKw rfl hw hsh hn1 hn2 (by omega) hlen (hC.mono hb1) h8 h9 (hF.only ⟨rfl,rfl,rfl,rfl,rfl,rfl,rfl,rfl,trivial⟩) λa w2 ⟨hb2,vg,hgone,hF⟩=> ?_
 have hB2:Below w.heap.size w w2:=ah hb1 hb1.size hb2
 have h82:=(hb2.block _ (gA h8).1).trans h8
 have h92:=(hb2.block _ (gA h9).1).trans h9
 clear h8 h9 hb1 hb2
 obtain⟨gb,cap,rfl,hgb,hdg⟩:=hgone
 refine Rn.p rfl (Rn.r (L:=[0]) rfl ?_)
 refine Rn.c hF 18 (.string ⟨#[]⟩) λa hF=> ?_
 refine Rn.p rfl (Rn.p rfl (Rn.p rfl (Rn.r (L:=[0]) rfl ?_)))
 refine Rn.c hF 19 (.int .i64 0) λa hF=> ?_
 refine Rn.p rfl (Rn.p rfl (Rn.p rfl ?_))
 have hd8:∀c,cn (iO (nY KS [id,ob q 4,ob 33153 2,salt,msg]).data.toList wd sh) wd c<256:=λc=>by
  have:=nS (iO (nY KS [id,ob q 4,ob 33153 2,salt,msg]).data.toList wd sh) wd c
  omega
 refine BA (dg:=λc=>cn (iO (nY KS [id,ob q 4,ob 33153 2,salt,msg]).data.toList wd sh) wd c) hKl hKw (hC.mono hB2) h82 h92 hid (by omega) hw (by omega) hys hd8 hgb hdg (λa w3 hB3 hF=> ?_) n 0 a w2 rfl (Nat.zero_le _) (bR) (hF.only ⟨rfl,rfl,rfl,rfl,rfl,rfl,rfl,rfl,rfl,trivial⟩)
 have h83:=(hB3.block _ (gA h82).1).trans h82
 have h93:=(hB3.block _ (gA h92).1).trans h92
 have hC3:=(hC.mono hB2).mono hB3
 have hB3':Below w.heap.size w w3:=ah hB2 hB2.size hB3
 clear h82 h92 hB3 hdg hgb
 have hes:=ru KS id ys q (ck wd) (λc=>cn (iO (nY KS [id,ob q 4,ob 33153 2,salt,msg]).data.toList wd sh) wd c) n hys
 obtain⟨en,hen⟩:∃en,en=BE KS id ys q (ck wd) (λc=>cn (iO (nY KS [id,ob q 4,ob 33153 2,salt,msg]).data.toList wd sh) wd c) n:=⟨_,rfl⟩
 unfold rz
 rw[←hen]at hF hes⊢
 refine Rn.p rfl (Rn.r (L:=[0,1,2,3,4,5,6]) rfl ?_)
 refine Rn.o hF 62 (.load 24 (.tmp 8)) (λo ho=>dI hC.two ho (hF.get (d:=8) rfl) h83) λa hF=> ?_
 refine Rn.o hF 63 (.load 38 (.tmp 9)) (λo ho=>lV ho (hF.get (d:=9) rfl) h93) λa hF=> ?_
 refine Rn.y hF 64 2 rfl λa hF=> ?_
 refine Rn.y hF 65 3 rfl λa hF=> ?_
 refine Rn.y hF 66 18 rfl λa hF=> ?_
 refine Rn.calls (f:=37) (xs:=#[.tmp 62, .tmp 63, .tmp 64, .tmp 65, .tmp 66]) (ats:=#[24,38,9,3,9]) (args:=#[.agg cv, .agg (aL t c h wd n sh), .string id, .int .i64 q, .string en]) hF 67 (by decide) (by kernel_rfl) (by simp only[List.map_toArray,List.map_cons,List.map_nil,hF.get (d:=62) rfl,hF.get (d:=63) rfl,hF.get (d:=64) rfl,hF.get (d:=65) rfl,hF.get (d:=66) rfl]) Lf.func37 (by kernel_rfl) (by kernel_rfl)
  (R:=λv w'=>v= .string (nY KS [id,ob (2^h+q) 4,ob 33410 2,nY KS [id,ob q 4,ob 32896 2,en]])/\Below w3.heap.size w3 w') ((Dq hKl hKw id en q h wd n sh t c hh (by omega) (by omega) w3 hC3).mono λe w' h=>⟨_,h.1,rfl,h.2⟩) λv w4 hv a hF=> ?_
 obtain⟨rfl,hb4⟩:=hv
 have h84:=(hb4.block _ (gA h83).1).trans h83
 have h94:=(hb4.block _ (gA h93).1).trans h93
 have hC4:=hC3.mono hb4
 have hB4:Below w.heap.size w w4:=ah hB3' hB3'.size hb4
 refine Rn.s hF 21 67 rfl λa hF=> ?_
 refine Rn.p rfl (Rn.p rfl (Rn.r (L:=[0,1,2,3,4,5]) rfl ?_))
 obtain⟨H2,hH2⟩:∃H2,H2=2^h:=⟨_,rfl⟩
 have hpw:(1:Int)*2^h=(H2:Int):=by rw[Int.one_mul,hH2,Int.natCast_pow];rfl
 rw[←hH2]at hF h2h⊢
 refine Rn.o hF 68 (.fieldAddr 38 (.tmp 9) 2) (λo ho=>bX 2 (by decide) ho (hF.get (d:=9) rfl)) λa hF=> ?_
 refine Rn.o hF 69 (.load 3 (.tmp 68)) (λo ho=>(ay (v:= .int .i64 h) aQ ho (hF.get (d:=68) rfl) ((am h94 2).trans rfl)).1) λa hF=> ?_
 refine Rn.o hF 70 (.binOp .shl 3 (.const (.int .i64 1)) (.tmp 69) 3) (λo ho=>ji (m:=1) (k:=h) ho rfl (hF.get (d:=69) rfl) (by omega) (by rw[hpw];omega)) λa hF=> ?_
 rw[hpw]at hF
 refine Rn.y hF 71 3 rfl λa hF=> ?_
 refine Rn.o hF 72 (.binOp .add 3 (.tmp 70) (.tmp 71) 3) (λo ho=>da ho (hF.get (d:=70) rfl) (hF.get (d:=71) rfl) (by omega)) λa hF=> ?_
 rw[←Int.natCast_add]at hF
 refine Rn.s hF 22 72 rfl λa hF=> ?_
 refine Rn.p rfl (Rn.p rfl (Rn.p rfl (Rn.r (L:=[0]) rfl ?_)))
 refine Rn.c hF 23 (.int .i64 0) λa hF=> ?_
 refine Rn.p rfl (Rn.p rfl (Rn.p rfl ?_))
 refine EW (lf:=H2+q) hKl hKw hC4 h84 h94 hid (iv _ _) hh (by omega) hp (λa w5 hB5 hF=> ?_) h 0 a w4 rfl (Nat.zero_le _) (bR) (hF.only ⟨rfl,rfl,rfl,rfl,rfl,rfl,rfl,trivial⟩)
 refine Rn.p rfl (Rn.r (L:=[0,1]) rfl ?_)
 refine Rn.y hF 105 21 rfl λa hF=> ?_
 refine Rn.s hF 16 105 rfl λa hF=> ?_
 exact Rn.p rfl (Rn.ends rfl (.inr ⟨_,rfl⟩) (Rn.now ⟨a,_,_,rfl,hF.defers,hF.slot 16 _ rfl,rfl,ah hB4 hB4.size hB5⟩))
section
variable{w:World}{ev:Operand->Value}{o:Oper}{x y:Operand}
theorem uw(hop:o.op= .alloc 38):(execOp ev o).run (ac true Tryd.prog) w= .ok (.value (.pointer (some ⟨w.heap.size,0,none⟩))) (w.alloc (.cells (aL 0 0 0 0 0 0) 38)):=by
 have e:execOp ev o=(do pure (.value (←Instr.alloc 38 true (.tuple #[])))):=by simp only[execOp,hop]
 have h2:(do pure (.value (←Instr.alloc 38 true (.tuple #[]))):Sem Next).run (ac true Tryd.prog) w= .ok (.value (.pointer (some ⟨w.heap.size,0,none⟩))) (w.alloc (.cells (aL 0 0 0 0 0 0) 38)):=by kernel_rfl
 rw[e,h2]
theorem FB{t c:Int}(hop:o.op= .build 38 #[(0,x),(1,y)])(h1:ev x= .int .i64 t)(h2:ev y= .int .i64 c):(execOp ev o).run (ac true Tryd.prog) w= .ok (.value (.agg (aL t c 0 0 0 0))) w:=by
 have e:execOp ev o=(do pure (.value (←Instr.build 38 #[(0, .int .i64 t),(1, .int .i64 c)]))):=by simp[execOp,hop,h1,h2]
 have h2:(do pure (.value (←Instr.build 38 #[(0, .int .i64 t),(1, .int .i64 c)])):Sem Next).run (ac true Tryd.prog) w= .ok (.value (.agg (aL t c 0 0 0 0))) w:=by kernel_rfl
 rw[e,h2]
end
theorem uB:((ac true Tryd.prog).info? 38).map (·.size)=some 6:=by kernel_rfl
theorem gf{Goal:Goroutine->World->Prop}{b:Frame}{a:Act}{k:List Item}{cs:List Frame}{w:World}{F:List (Nat×Value)}{N:Nat}{ds:List Deferred}{ops:Array Oper}{m m1:Nat}{rest:List Nat}(hF:aM F N ds a)(d x j:Nat)(c:Int)(hd:d<N)(hj:j<6){b4:Nat}{cur:Array Value}(hx:F.lookup x=some (.pointer (some ⟨b4,0,none⟩)))
 (h1:(ops[m]?).map (λo=>(o.dst,o.op,o.guard))=some (some d, .fieldAddr 38 (.tmp x) j,none)) (h2:(ops[m1]?).map (λo=>(o.dst,o.op,o.guard))=some (none, .store 3 (.tmp d) (.const (.int .i64 c)),none)) (hb4:w.heap[b4]?=some (.cells cur 38)) {v0:Value} (hcur:cur[j]?=some v0)
 (next:∀a' w',aM F N ds a'->w'.heap[b4]?=some (.cells (cur.setIfInBounds j (.int .i64 c)) 38)->(∀M,M<=b4->Below M w w')->Rn (ac true Tryd.prog) Goal (b.atR a' (.inRegion ops rest::k)) cs w') (hFd:F.lookup d=none):Rn (ac true Tryd.prog) Goal (b.atR a (.inRegion ops (m::m1::rest)::k)) cs w:=by
 refine Rn.op hF d (.fieldAddr 38 (.tmp x) j) hd h1 (by simp) (λo ho=>bX j hj ho (hF.get hx)) λa hF2=> ?_
 refine Rn.does0 hF2 (.store 3 (.tmp d) (.const (.int .i64 c))) h2 (by simp) (λo ho=>(eX (w:=w) (b:=b4) (k:=j) (v:= .int .i64 c) (v0:=v0) rfl rfl (by kernel_rfl) ho (hF2.get (d:=d) (by simp[List.lookup])) rfl (by rw[am hb4];exact hcur) (by simp[World.frozen?,hb4])).1) λa hF3=> ?_
 refine next a _ (hF3.sub λe v he=> ?_) (iw hb4) λM hM=>dw w _ _ hM
 have hne:e≠d:=λq=>by rw[q,hFd]at he;cases he
 simp only[List.lookup,show(e==d)=false from by simpa using hne]
 exact he
def eK(T:TypeId)(fin:Array Value)(N:Nat)(w w':World):Prop:=Below N w w'/\w'.heap[N+1]?=w.heap[N+1]?/\((∃cur,w.heap[N]?=some (.cells cur T)/\cur.size=6)->∃cur,w'.heap[N]?=some (.cells cur T)/\cur.size=6)/\(w.heap[N]?=some (.cells fin T)->w'.heap[N]?=some (.cells fin T))
theorem eK.refl{T:TypeId}{fin:Array Value}{N:Nat}(w:World):eK T fin N w w:=⟨bR,rfl,λh=>h,λh=>h⟩
theorem eK.trans{T:TypeId}{fin:Array Value}{N:Nat}(w w' w'':World)(h:eK T fin N w w')(h':eK T fin N w' w''):eK T fin N w w'':=⟨h.1.trans h'.1,h'.2.1.trans h.2.1,λx=>h'.2.2.1 (h.2.2.1 x),λx=>h'.2.2.2 (h.2.2.2 x)⟩
def Ks(t c:Int)(h wd n sh N:Nat)(c1 c2:Bool):Nat->Value->World->Prop
 |0,v,_=>v= .agg (aL t c h wd n sh)
 |1,v,_=>v= .pointer (some ⟨N+1,2,none⟩)
 |2,v,_=>v= .int .i64 h
 |3,v,_=>v= .bool c1
 |4,v,_=>v= .bool c1
 |5,v,_=>c1=true->v= .pointer (some ⟨N+1,3,none⟩)
 |6,v,_=>c1=true->v= .int .i64 wd
 |7,v,_=>c1=true->v= .bool c2
 |8,v,_=>v= .bool (c1&&c2)
 |9,_,w=>w.heap[N]?=some (.cells (aL t c h wd n sh) 38)
 |_,v,_=>v= .bool (c1&&c2)
theorem DL{t c:Int}{h wd n sh N:Nat}{c1 c2:Bool}(m:Nat)(v:Value)(w w':World)(hg:Ks t c h wd n sh N c1 c2 m v w)(hr:eK 38 (aL t c h wd n sh) N w w'):Ks t c h wd n sh N c1 c2 m v w':=by
 match m,hg with
 |0,h|1,h|2,h|3,h|4,h|5,h|6,h|7,h|8,h=>exact h
 |9,h=>exact hr.2.2.2 h
 |_+10,h=>exact h
section
variable{t c:Int}{h wd n sh N:Nat}{c1 c2:Bool}{Goal:Goroutine->World->Prop}{cs:List Frame}{K:List Item}{a:Act}{w:World}
theorem Ie(hc1:c1=decide ((h:Int)>0))(hc2:c2=decide ((wd:Int)>0))(hkd:w.heap[N+1]?=some (.cells (aL t c h wd n sh) 38))(hz:w.heap[N]?=some (.cells (aL 0 0 0 0 0 0) 38))(hF:aM [(4, .pt N),(6, .pt (N+1))] 41 [] a)
 (next:∀a w',Below N w w'->w'.heap[N]?=some (.cells (aL t c h wd n sh) 38)->aM [(5, .bool (c1&&c2)),(4, .pt N)] 41 [] a->Rn (ac true Tryd.prog) Goal ((base 18).atR a K) cs w'):
 Rn (ac true Tryd.prog) Goal ((base 18).atR a (.code (.region 19 (ae Tryd.f18 19) true)::K)) cs w:=by
 refine Rn.growsX (fx:=[(4, .pt N),(6, .pt (N+1))]) (ds:=[some 32,some 33,some 34,some 35,some 36,some 37,some 38,some 39,some 40,none,some 5]) (N:=41) (df:=[]) (G:=Ks t c h wd n sh N c1 c2) (Rel:=eK 38 (aL t c h wd n sh) N) (by kernel_rfl) (by kernel_rfl)
  ⟨iM w,rfl,λh=>h,λh=>h⟩ eK.trans DL (λm o a w' hm ho hb' hsz hfx hne=> ?_) (λa w' hG=> ?_) hF.defers hF.size (hF.all (by simp))
 ·have f4:=C5 (hfx _ (mG (i:=0) rfl))
  have f6:=C5 (hfx _ (mG (i:=1) rfl))
  have hkd':=hb'.2.1.trans hkd
  obtain⟨cur,hcur,hcur6⟩:=hb'.2.2.1 ⟨_,hz,rfl⟩
  have get:∀{m d:Nat},[some 32,some 33,some 34,some 35,some 36,some 37,some 38,some 39,some 40,none,some 5][m]?=some (some d)->jN (ae Tryd.f18 19) _ m=true->∃v,a.tmps[d]?=some v/\Ks t c h wd n sh N c1 c2 m v w':=λ{m d} h1 h2=>by
   obtain⟨v,hv,hg⟩:=hne m (some d) h1 h2
   exact⟨v,hv d rfl,hg⟩
  have first:∀{o:Oper} {R:Value->World->Prop},o.guard=some (4,true)->a.tmps[36]?=some (.bool c1)->(c1=true->uY (ac true Tryd.prog) a o w' R)->(c1=false->R undef w')->A7 (ac true Tryd.prog) (ae Tryd.f18 19) a o w' R:=λ{o R} h1 h3 h4 h5=>by
   have hw:=lQ (ops:=ae Tryd.f18 19) (tmps:=a.tmps) (d:=36) h1 (by kernel_rfl) h3
   cases c1 with
   |true=>exact .inl (.inl ⟨hw,h4 rfl⟩)
   |false=>exact .inl (.inr ⟨hw,h5 rfl⟩)
  have gop:∀{m:Nat} {o:Oper} {d:Option Tmp} {p:Op} {g:Nat×Bool},(ae Tryd.f18 19)[m]?=some o->((ae Tryd.f18 19)[m]?).map (λo=>(o.dst,o.op,o.guard))=some (d,p,some g)->o.op=p/\o.guard=some g:=λ{m o d p g} ho hmap=>by
   rw[ho]at hmap
   simp only[Option.map_some,Option.some.injEq,Prod.mk.injEq]at hmap
   exact⟨hmap.2.1,hmap.2.2⟩
  have hlt:m<11:=hm
  rcases(by omega:m=0\/m=1\/m=2\/m=3\/m=4\/m=5\/m=6\/m=7\/m=8\/m=9\/m=10)with rfl|rfl|rfl|rfl|rfl|rfl|rfl|rfl|rfl|rfl|rfl
  ·obtain⟨e1,e2,e3⟩:=aJ (d:=some 32) (p:= .load 38 (.tmp 6)) ho (by kernel_rfl)
   exact fZ e3 (lV e2 f6 hkd') ⟨rfl,eK.refl _⟩
  ·obtain⟨e1,e2,e3⟩:=aJ (d:=some 33) (p:= .fieldAddr 38 (.tmp 6) 2) ho (by kernel_rfl)
   exact fZ e3 (bX 2 (by decide) e2 f6) ⟨rfl,eK.refl _⟩
  ·obtain⟨e1,e2,e3⟩:=aJ (d:=some 34) (p:= .load 3 (.tmp 33)) ho (by kernel_rfl)
   obtain⟨u,hu,rfl⟩:=get (m:=1) (d:=33) rfl (by kernel_rfl)
   exact fZ e3 (ay (v:= .int .i64 h) aQ e2 (C5 hu) ((am hkd' 2).trans rfl)).1 ⟨rfl,eK.refl _⟩
  ·obtain⟨e1,e2,e3⟩:=aJ (d:=some 35) (p:= .binOp .gtr 3 (.tmp 34) (.const (.int .i64 0)) 3) ho (by kernel_rfl)
   obtain⟨u,hu,rfl⟩:=get (m:=2) (d:=34) rfl (by kernel_rfl)
   exact fZ e3 (um e2 (C5 hu) rfl) ⟨by rw[hc1];rfl,eK.refl _⟩
  ·obtain⟨e1,e2,e3⟩:=aJ (d:=some 36) (p:= .move (.tmp 35)) ho (by kernel_rfl)
   obtain⟨u,hu,rfl⟩:=get (m:=3) (d:=35) rfl (by kernel_rfl)
   exact fZ e3 (by rw[bI (.inl e2),C5 hu]) ⟨rfl,eK.refl _⟩
  ·obtain⟨e2,eg⟩:=gop (d:=some 37) (p:= .fieldAddr 38 (.tmp 6) 3) ho (by kernel_rfl)
   obtain⟨u,hu,rfl⟩:=get (m:=4) (d:=36) rfl (by kernel_rfl)
   exact first eg hu (λ_=>af (bX 3 (by decide) e2 f6) ⟨λ_=>rfl,eK.refl _⟩) λhq=>⟨λhf=>(by rw[hq]at hf;cases hf),eK.refl _⟩
  ·obtain⟨e2,eg⟩:=gop (d:=some 38) (p:= .load 3 (.tmp 37)) ho (by kernel_rfl)
   obtain⟨u,hu,rfl⟩:=get (m:=4) (d:=36) rfl (by kernel_rfl)
   obtain⟨u1,hu1,h1⟩:=get (m:=5) (d:=37) rfl (by kernel_rfl)
   exact first eg hu (λhq=>af (ay (v:= .int .i64 wd) aQ e2 ((C5 hu1).trans (h1 hq)) ((am hkd' 3).trans rfl)).1 ⟨λ_=>rfl,eK.refl _⟩) λhq=>⟨λhf=>(by rw[hq]at hf;cases hf),eK.refl _⟩
  ·obtain⟨e2,eg⟩:=gop (d:=some 39) (p:= .binOp .gtr 3 (.tmp 38) (.const (.int .i64 0)) 3) ho (by kernel_rfl)
   obtain⟨u,hu,rfl⟩:=get (m:=4) (d:=36) rfl (by kernel_rfl)
   obtain⟨u1,hu1,h1⟩:=get (m:=6) (d:=38) rfl (by kernel_rfl)
   exact first eg hu (λhq=>af (um e2 ((C5 hu1).trans (h1 hq)) rfl) ⟨λ_=>by rw[hc2],eK.refl _⟩) λhq=>⟨λhf=>(by rw[hq]at hf;cases hf),eK.refl _⟩
  ·obtain⟨e1,e2,e3⟩:=aJ (d:=some 40) (p:= .pick (.tmp 36) (.tmp 39) (.const (.bool false))) ho (by kernel_rfl)
   obtain⟨u,hu,rfl⟩:=get (m:=4) (d:=36) rfl (by kernel_rfl)
   obtain⟨u1,hu1,h1⟩:=get (m:=7) (d:=39) rfl (by kernel_rfl)
   refine fZ e3 (jG e2 (C5 hu)) ⟨?_,eK.refl _⟩
   cases hq:c1 with
   |true=>exact(C5 hu1).trans (h1 hq)
   |false=>rfl
  ·obtain⟨e1,e2,e3⟩:=aJ (d:=none) (p:= .store 38 (.tmp 4) (.tmp 32)) ho (by kernel_rfl)
   obtain⟨u,hu,rfl⟩:=get (m:=0) (d:=32) rfl (by kernel_rfl)
   have hset:=setRow_heap w' N cur (aL t c h wd n sh) _ _ hcur
   refine .inr ⟨e3 _,_,cr (cells:=aL t c h wd n sh) e2 f4 (C5 hu) hcur uB hcur6 (by simp[aL,Value.oneCell']),hset,cx w' N _ (Nat.le_refl _),setRow_other w' N (N+1) _ (by omega),λ_=>⟨_,hset,rfl⟩,λ_=>hset⟩
  ·obtain⟨e1,e2,e3⟩:=aJ (d:=some 5) (p:= .assign (.tmp 40)) ho (by kernel_rfl)
   obtain⟨u,hu,rfl⟩:=get (m:=8) (d:=40) rfl (by kernel_rfl)
   exact fZ e3 (by rw[bI (.inr e2),C5 hu]) ⟨rfl,eK.refl _⟩
 ·obtain⟨v9,_,h9⟩:=hG.come 9 none rfl trivial
  obtain⟨v,hv,hv2⟩:=hG.come 10 (some 5) rfl trivial
  obtain rfl:=hv2
  exact next a w' hG.old.1 h9 (((aM.mem hG.defers hG.size hG.fixed).more (hv 5 rfl)).only ⟨rfl,rfl,trivial⟩)
end
def wQ(f:Func):Code:= .seq (.seq (.region 7 (ae f 7) false) (.block 1 (.seq (.region 8 (ae f 8) false) (.cond (.tmp 18) (.seq (.region 9 (ae f 9) false) (.seq (.region 10 (ae f 10) false) (.region 11 (ae f 11) false))) (.seq (.region 12 (ae f 12) false) (.cond (.tmp 23) (.seq (.region 13 (ae f 13) false) (.seq (.region 14 (ae f 14) false) (.region 15 (ae f 15) false))) (.seq (.region 16 (ae f 16) false) (.cond (.tmp 28) (.seq (.region 17 (ae f 17) false) (.region 18 (ae f 18) false)) .skip)))))))) (.seq (.region 19 (ae f 19) true) .ret)
theorem IF:Tryd.f18.body=some (.seq (.region 0 (ae Tryd.f18 0) false) (.seq (.region 1 (ae Tryd.f18 1) false) (.seq (.seq (.region 2 (ae Tryd.f18 2) false) (.block 0 (.seq (.region 3 (ae Tryd.f18 3) false) (.cond (.tmp 11) (.region 4 (ae Tryd.f18 4) false) (.seq (.region 5 (ae Tryd.f18 5) false) (.cond (.tmp 14) (.region 6 (ae Tryd.f18 6) false) .skip)))))) (wQ Tryd.f18)))):=by kernel_rfl
def EC(t c:Int)(w0:World)(e:Ending)(w':World):Prop:=e= .returned (.tuple #[.agg (aL t c (cX t) (eW c) (gQ c) (gK c)), .bool (decide (((cX t:Nat):Int)>0)&&decide (((eW c:Nat):Int)>0))])/\Below w0.heap.size w0 w'
def zf(t c:Int)(w0:World)(cs:List Frame)(g:Goroutine)(w':World):Prop:=∃(a:Act) (k:List Item) (bk:Nat) (cells:Array Value) (tt:TypeId) (v:Value),g=hU {(base 18).atR a k with mode:= .returning} cs/\a.defers=[]/\a.tmps[4]?=some (.pointer (some ⟨bk,0,none⟩))/\w'.heap[bk]?=some (.cells cells tt)/\cells.size=6/\a.tmps[5]?=some v/\EC t c w0 (.returned (.tuple #[.agg cells,v])) w'
section
variable{t c:Int}{w0 w:World}{cs:List Frame}{a:Act}{k:List Item}
theorem xU(hF:aM [(1, .int .i64 c),(4, .pt w0.heap.size),(6, .pt (w0.heap.size+1))] 41 [] a)(hz:w.heap[w0.heap.size]?=some (.cells (aL 0 0 0 0 0 0) 38))(hold:Below w0.heap.size w0 w)(hkd:w.heap[w0.heap.size+1]?=some (.cells (aL t c (cX t) 0 0 0) 38)):
 Rn (ac true Tryd.prog) (zf t c w0 cs) ((base 18).atR a (.code (wQ Tryd.f18)::k)) cs w:=by
 have hltN:=(gA hz).1
 have fin:∀(a:Act) (w2:World),w2.heap[w0.heap.size+1]?=some (.cells (aL t c (cX t) (eW c) (gQ c) (gK c)) 38)->Below (w0.heap.size+1) w w2->aM [(4, .pt w0.heap.size),(6, .pt (w0.heap.size+1))] 41 [] a->
  Rn (ac true Tryd.prog) (zf t c w0 cs) ((base 18).atR a (.code (.seq (.region 19 (ae Tryd.f18 19) true) .ret)::k)) cs w2:=by
  intro a w2 h2 hB hF
  refine Rn.p rfl (Ie rfl rfl h2 ((hB.block _ (by omega)).trans hz) hF λa w3 hb3 h3 hF=> ?_)
  exact Rn.ends rfl (.inr ⟨_,rfl⟩) (Rn.now ⟨a,_,w0.heap.size,_,38,_,rfl,hF.defers,hF.slot 4 _ rfl,h3,rfl,hF.slot 5 _ rfl,rfl,(hold.trans (hB.mono (by omega))).trans hb3⟩)
 have e8:∀(x y:Int) (h:x=y),(x==y)=true:=λx y h=>by simpa using h
 have e9:∀(x y:Int) (h:x≠y),(x==y)=false:=λx y h=>by simpa using h
 refine Rn.p rfl (Rn.p rfl (Rn.r (L:=[0]) rfl ?_))
 refine Rn.y hF 17 1 rfl λa hF=> ?_
 refine Rn.p rfl (Rn.p rfl (Rn.p rfl (Rn.r (L:=[0,1]) rfl ?_)))
 refine Rn.o hF 19 (.binOp .eql 3 (.tmp 17) (.const (.int .i64 2)) 3) (λo ho=>mJ ho (hF.get (d:=17) rfl) rfl) λa hF=> ?_
 refine Rn.s hF 18 19 rfl λa hF=> ?_
 refine Rn.p rfl (Rn.cond _ (hF.get (d:=18) rfl) ?_)
 by_cases c2:c=2
 ·rw[e8 _ _ c2]
  have hF:aM [(4, .pt w0.heap.size),(6, .pt (w0.heap.size+1))] 41 [] a:=hF.only ⟨rfl,rfl,trivial⟩
  refine Rn.p rfl (Rn.r (L:=[0,1]) rfl ?_)
  refine gf hF 20 6 3 2 (by decide) (by decide) rfl (by kernel_rfl) (by kernel_rfl) hkd rfl (λa w2 hF h2 hB2=> ?_) rfl
  refine Rn.p rfl (Rn.p rfl (Rn.r (L:=[0,1]) rfl ?_))
  refine gf hF 21 6 4 133 (by decide) (by decide) rfl (by kernel_rfl) (by kernel_rfl) h2 rfl (λa w3 hF h3 hB3=> ?_) rfl
  refine Rn.p rfl (Rn.r (L:=[0,1]) rfl ?_)
  refine gf hF 22 6 5 6 (by decide) (by decide) rfl (by kernel_rfl) (by kernel_rfl) h3 rfl (λa w4 hF h4 hB4=> ?_) rfl
  refine Rn.p rfl (Rn.p rfl (fin a w4 ?_ (((hB2 _ (Nat.le_refl _)).trans (hB3 _ (Nat.le_refl _))).trans (hB4 _ (Nat.le_refl _))) hF))
  subst c2
  exact h4
 rw[e9 _ _ c2]
 refine Rn.p rfl (Rn.r (L:=[0,1]) rfl ?_)
 refine Rn.o hF 24 (.binOp .eql 3 (.tmp 17) (.const (.int .i64 3)) 3) (λo ho=>mJ ho (hF.get (d:=17) rfl) rfl) λa hF=> ?_
 refine Rn.s hF 23 24 rfl λa hF=> ?_
 refine Rn.p rfl (Rn.cond _ (hF.get (d:=23) rfl) ?_)
 by_cases c3:c=3
 ·rw[e8 _ _ c3]
  have hF:aM [(4, .pt w0.heap.size),(6, .pt (w0.heap.size+1))] 41 [] a:=hF.only ⟨rfl,rfl,trivial⟩
  refine Rn.p rfl (Rn.r (L:=[0,1]) rfl ?_)
  refine gf hF 25 6 3 4 (by decide) (by decide) rfl (by kernel_rfl) (by kernel_rfl) hkd rfl (λa w2 hF h2 hB2=> ?_) rfl
  refine Rn.p rfl (Rn.p rfl (Rn.r (L:=[0,1]) rfl ?_))
  refine gf hF 26 6 4 67 (by decide) (by decide) rfl (by kernel_rfl) (by kernel_rfl) h2 rfl (λa w3 hF h3 hB3=> ?_) rfl
  refine Rn.p rfl (Rn.r (L:=[0,1]) rfl ?_)
  refine gf hF 27 6 5 4 (by decide) (by decide) rfl (by kernel_rfl) (by kernel_rfl) h3 rfl (λa w4 hF h4 hB4=> ?_) rfl
  refine Rn.p rfl (Rn.p rfl (fin a w4 ?_ (((hB2 _ (Nat.le_refl _)).trans (hB3 _ (Nat.le_refl _))).trans (hB4 _ (Nat.le_refl _))) hF))
  subst c3
  exact h4
 rw[e9 _ _ c3]
 refine Rn.p rfl (Rn.r (L:=[0,1]) rfl ?_)
 refine Rn.o hF 29 (.binOp .eql 3 (.tmp 17) (.const (.int .i64 4)) 3) (λo ho=>mJ ho (hF.get (d:=17) rfl) rfl) λa hF=> ?_
 refine Rn.s hF 28 29 rfl λa hF=> ?_
 refine Rn.p rfl (Rn.cond _ (hF.get (d:=28) rfl) ?_)
 by_cases c4:c=4
 ·rw[e8 _ _ c4]
  have hF:aM [(4, .pt w0.heap.size),(6, .pt (w0.heap.size+1))] 41 [] a:=hF.only ⟨rfl,rfl,trivial⟩
  refine Rn.p rfl (Rn.r (L:=[0,1]) rfl ?_)
  refine gf hF 30 6 3 8 (by decide) (by decide) rfl (by kernel_rfl) (by kernel_rfl) hkd rfl (λa w2 hF h2 hB2=> ?_) rfl
  refine Rn.p rfl (Rn.r (L:=[0,1]) rfl ?_)
  refine gf hF 31 6 4 34 (by decide) (by decide) rfl (by kernel_rfl) (by kernel_rfl) h2 rfl (λa w3 hF h3 hB3=> ?_) rfl
  refine Rn.p rfl (Rn.p rfl (fin a w3 ?_ ((hB2 _ (Nat.le_refl _)).trans (hB3 _ (Nat.le_refl _))) hF))
  subst c4
  exact h3
 rw[e9 _ _ c4]
 refine Rn.p rfl (Rn.p rfl (fin a w ?_ (bR) (hF.only ⟨rfl,rfl,trivial⟩)))
 have hw:eW c=0/\gQ c=0/\gK c=0:=by simp[eW,gQ,gK,c2,c3,c4]
 rw[hw.1,hw.2.1,hw.2.2]
 exact hkd
end
theorem yr(t c:Int)(w:World):Calls (ac true Tryd.prog) 18 #[.int .i64 t, .int .i64 c] w (EC t c w):=by
 refine kK (t:=4) (u:=5) (ty:=38) (n:=6) Lf.func18 rfl Lf.underlying38 rfl uB λcs=> ?_
 show Rn _ (zf t c w cs) _ cs w
 rw[bW (N:=41) [.int .i64 t, .int .i64 c] Lf.func18 IF rfl]
 have hF:=bm [.int .i64 t, .int .i64 c] 41 (by simp)
 have e8:∀(x y:Int) (h:x=y),(x==y)=true:=λx y h=>by simpa using h
 have e9:∀(x y:Int) (h:x≠y),(x==y)=false:=λx y h=>by simpa using h
 refine Rn.p rfl (Rn.r (L:=[0,1]) rfl ?_)
 refine Rn.o hF 4 (.alloc 38) (λo ho=>uw ho) λa hF=> ?_
 refine Rn.c hF 5 (.bool false) λa hF=> ?_
 refine Rn.p rfl (Rn.p rfl (Rn.r (L:=[0,1,2,3,4]) rfl ?_))
 refine Rn.y hF 7 0 rfl λa hF=> ?_
 refine Rn.y hF 8 1 rfl λa hF=> ?_
 refine Rn.o hF 9 (.build 38 #[(0, .tmp 7),(1, .tmp 8)]) (λo ho=>FB ho (hF.get (d:=7) rfl) (hF.get (d:=8) rfl)) λa hF=> ?_
 refine Rn.o hF 6 (.alloc 38) (λo ho=>uw ho) λa hF=> ?_
 rw[ak]at hF
 have h6:=aC (w.alloc (.cells (aL 0 0 0 0 0 0) 38)) (.cells (aL 0 0 0 0 0 0) 38)
 rw[ak]at h6
 have hz:=(bH (w.alloc (.cells (aL 0 0 0 0 0 0) 38)) (.cells (aL 0 0 0 0 0 0) 38) (b:=w.heap.size) (by rw[ak];omega)).trans (aC w _)
 have hold:Below w.heap.size w ((w.alloc (.cells (aL 0 0 0 0 0 0) 38)).alloc (.cells (aL 0 0 0 0 0 0) 38)):=ah (an w _) (by rw[ak];omega) (an _ _)
 revert h6 hz hold
 generalize (w.alloc (.cells (aL 0 0 0 0 0 0) 38)).alloc (.cells (aL 0 0 0 0 0 0) 38)=w1
 intro h6 hz hold
 refine Rn.does0 hF (.store 38 (.tmp 6) (.tmp 9)) (by kernel_rfl) (by simp) (λo ho=>cr (cells:=aL t c 0 0 0 0) ho (hF.get (d:=6) rfl) (hF.get (d:=9) rfl) h6 uB rfl (by simp[aL,Value.oneCell'])) λa hF=> ?_
 have h6':=setRow_heap w1 _ _ (aL t c 0 0 0 0) _ _ h6
 have hz':=(setRow_other w1 (w.heap.size+1) w.heap.size (aL t c 0 0 0 0) (by omega)).trans hz
 have hold':Below w.heap.size w (w1.setRow (w.heap.size+1) (aL t c 0 0 0 0)):=hold.trans (cx _ _ _ (by omega))
 revert h6' hz' hold'
 generalize w1.setRow (w.heap.size+1) (aL t c 0 0 0 0)=w2
 intro h6' hz' hold'
 have hlt:=(gA h6').1
 refine Rn.p rfl (Rn.p rfl (Rn.p rfl (Rn.r (L:=[0]) rfl ?_)))
 refine Rn.y hF 10 0 rfl λa hF=> ?_
 have hF:aM [(10, .int .i64 t),(1, .int .i64 c),(4, .pt w.heap.size),(6, .pt (w.heap.size+1))] 41 [] a:=hF.only ⟨rfl,rfl,rfl,rfl,trivial⟩
 refine Rn.p rfl (Rn.p rfl (Rn.p rfl (Rn.r (L:=[0,1]) rfl ?_)))
 refine Rn.o hF 12 (.binOp .eql 3 (.tmp 10) (.const (.int .i64 5)) 3) (λo ho=>mJ ho (hF.get (d:=10) rfl) rfl) λa hF=> ?_
 refine Rn.s hF 11 12 rfl λa hF=> ?_
 refine Rn.p rfl (Rn.cond _ (hF.get (d:=11) rfl) ?_)
 by_cases c5:t=5
 ·rw[e8 _ _ c5]
  have hF:aM [(1, .int .i64 c),(4, .pt w.heap.size),(6, .pt (w.heap.size+1))] 41 [] a:=hF.only ⟨rfl,rfl,rfl,trivial⟩
  refine Rn.r (L:=[0,1]) rfl ?_
  refine gf hF 13 6 2 5 (by decide) (by decide) rfl (by kernel_rfl) (by kernel_rfl) h6' rfl (λa w3 hF h3 hB3=> ?_) rfl
  have hb3:=hB3 (w.heap.size+1) (Nat.le_refl _)
  refine Rn.p rfl (Rn.p rfl (xU hF ((hb3.block _ (by omega)).trans hz') (hold'.trans (hb3.mono (by omega))) ?_))
  subst c5
  exact h3
 rw[e9 _ _ c5]
 refine Rn.p rfl (Rn.r (L:=[0,1]) rfl ?_)
 refine Rn.o hF 15 (.binOp .eql 3 (.tmp 10) (.const (.int .i64 226)) 3) (λo ho=>mJ ho (hF.get (d:=10) rfl) rfl) λa hF=> ?_
 refine Rn.s hF 14 15 rfl λa hF=> ?_
 refine Rn.p rfl (Rn.cond _ (hF.get (d:=14) rfl) ?_)
 by_cases c6:t=226
 ·rw[e8 _ _ c6]
  have hF:aM [(1, .int .i64 c),(4, .pt w.heap.size),(6, .pt (w.heap.size+1))] 41 [] a:=hF.only ⟨rfl,rfl,rfl,trivial⟩
  refine Rn.r (L:=[0,1]) rfl ?_
  refine gf hF 16 6 2 2 (by decide) (by decide) rfl (by kernel_rfl) (by kernel_rfl) h6' rfl (λa w3 hF h3 hB3=> ?_) rfl
  have hb3:=hB3 (w.heap.size+1) (Nat.le_refl _)
  refine Rn.p rfl (Rn.p rfl (xU hF ((hb3.block _ (by omega)).trans hz') (hold'.trans (hb3.mono (by omega))) ?_))
  subst c6
  exact h3
 rw[e9 _ _ c6]
 refine Rn.p rfl (Rn.p rfl (xU (hF.only ⟨rfl,rfl,rfl,trivial⟩) hz' hold' ?_))
 have hH:cX t=0:=by simp[cX,c5,c6]
 rw[hH]
 exact h6'
end Go.Proofs.YtkmoglhgkcnalaaDoor.L1
namespace Go.Proofs.YtkmoglhgkcnalaaDoor
open Go
theorem zN(s:ByteArray)(a b:Nat):s.extract a b=⟨(kJ s.data.toList a b).toArray⟩:=by
 obtain⟨⟨l⟩⟩:=s
 apply ByteArray.ext
 simp[kJ,List.drop_take,List.extract]
theorem lw(s:ByteArray)(a b:Nat):fL (kJ s.data.toList a b)=aN s a b:=by unfold aN;rw[zN]
theorem vU:∀(n:Nat) (l k:List UInt8),l.length=n->k.length=n->fL l=fL k->l=k
 |0,l,k,h1,h2,_=>by rw[List.eq_nil_of_length_eq_zero h1,List.eq_nil_of_length_eq_zero h2]
 |n+1,l,k,h1,h2,h=>by
  rcases List.eq_nil_or_concat l with rfl|⟨l',x,rfl⟩
  ·simp at h1
  rcases List.eq_nil_or_concat k with rfl|⟨k',y,rfl⟩
  ·simp at h2
  simp only[List.concat_eq_append,List.length_append,List.length_singleton]at h1 h2⊢
  simp only[List.concat_eq_append,lY]at h
  have hx:=x.toNat_lt
  have hy:=y.toNat_lt
  have e1:fL l'=fL k':=by omega
  have e2:x.toNat=y.toNat:=by omega
  rw[vU n l' k' (by omega) (by omega) e1,UInt8.toNat_inj.1 e2]
theorem zw{a b:ByteArray}{i j i' j':Nat}(h1:(a.extract i j).size=4)(h2:(b.extract i' j').size=4):aN a i j=aN b i' j'↔(a.extract i j).data.toList=(b.extract i' j').data.toList:=by
 constructor
 ·intro h
  exact vU 4 _ _ (by rw[Array.length_toList];exact h1) (by rw[Array.length_toList];exact h2) h
 ·intro h
  unfold aN
  rw[h]
end Go.Proofs.YtkmoglhgkcnalaaDoor
namespace Go.Proofs.YtkmoglhgkcnalaaDoor.L1
open Go Go.Conc Go.RowKit Go.Proofs.YtkmoglhgkcnalaaDoor
theorem kE(s:ByteArray)(a b:Nat):(s.extract a b).data.toList=kJ s.data.toList a b:=by rw[zN]
theorem wR{a b:ByteArray}(h:a.data.toList=b.data.toList):a=b:=by
 obtain⟨⟨l⟩⟩:=a
 obtain⟨⟨m⟩⟩:=b
 have h:l=m:=h
 rw[h]
theorem sU(p:ByteArray):∀c,(jI p c).data.toList=p.data.toList.drop (32*c)
 |0=>rfl
 |c+1=>by
  have ih:=sU p c
  rw[jI,kE,kJ,ih]
  have hs:(jI p c).size=(p.data.toList.drop (32*c)).length:=by rw[←ih];simp
  rw[hs,List.take_length,List.drop_drop]
  congr 1
theorem AH(p:ByteArray)(c:Nat):(jI p c).extract 0 32=p.extract (32*c) (32*c+32):=by
 apply wR
 rw[kE,kE,sU,kJ,kJ,List.drop_zero,←List.take_drop]
theorem Lu(KS:List Int)(id path:ByteArray)(lf:Nat)(x:ByteArray):∀c,qZ KS id path lf x c=gv KS id path lf x c
 |0=>rfl
 |c+1=>by rw[qZ,gv,AH,Lu KS id path lf x c]
theorem zF(KS:List Int)(id:ByteArray)(q i:Nat):∀(m j:Nat) (y:ByteArray),(Dw KS id q i m j y).data.toList=gR KS (id.data.toList++cg q 4++cg i 2) m j y.data.toList
 |0,_,_=>rfl
 |m+1,j,y=>by
  rw[Dw,zF KS id q i m (j+1) _,gR]
  congr 1
theorem zL(KS:List Int)(s:cq)(q wd:Nat)(dg:Nat->Nat)(hq:s.q=q)(hwd:s.width=wd):∀n,(BE KS s.id s.links q (ck wd) dg n).data.toList=jU KS s (λc=>(dg c:Nat)) n
 |0=>by simp[BE,jU]
 |n+1=>by
  have ih:=zL KS s q wd dg hq hwd n
  have h1:(BE KS s.id s.links q (ck wd) dg (n+1)).data.toList=(BE KS s.id s.links q (ck wd) dg n).data.toList++(Dw KS s.id q n (ck wd- dg n) (dg n) (s.links.extract (32*n) (32*n+32))).data.toList:=by simp[BE]
  have h2:jU KS s (λc=>(dg c:Nat)) (n+1)=jU KS s (λc=>(dg c:Nat)) n++(iZ KS s n ((dg n:Nat):Int) (s.links.extract (n*32) ((n+1)*32))).data.toList:=by simp[jU,List.range_succ]
  rw[h1,h2,ih,zF]
  congr 1
  simp only[iZ,iE,hq,hwd,Int.toNat_natCast]
  rw[show n*32=32*n from by omega,show(n+1)*32=32*n+32 from by omega]
theorem AD(KS:List Int)(s:cq)(h wd sh n q:Nat)(msg:ByteArray)(hq:s.q=q)(hwd:s.width=wd):rz KS s.id s.salt msg s.links s.path h wd sh n q=vB KS s h wd sh n q msg:=by
 unfold rz vB
 rw[Lu]
 have hen:BE KS s.id s.links q (ck wd) (λc=>cn (iO (nY KS [s.id,ob q 4,ob 33153 2,s.salt,msg]).data.toList wd sh) wd c) n=Kq KS s wd sh n q msg:=by
  apply wR
  rw[zL KS s q wd _ hq hwd n]
  rfl
 rw[hen]
 rfl
def J8(cv:Array Value)(key msg sig rt:ByteArray)(q T h wd n sh:Nat)(t c:Int):Nat->Value->World->Prop
 |0,v,_=>v= .agg cv
 |1,v,_=>v= .agg (aL t c h wd n sh)
 |2,v,_=>v= .string key
 |3,v,_=>v= .string (key.extract 8 24)
 |4,v,_=>v= .int .i64 q
 |5,v,_=>v= .string sig
 |6,v,_=>v= .string (sig.extract 8 40)
 |7,v,_=>v= .string msg
 |8,v,_=>v= .string sig
 |9,v,_=>v= .int .i64 T
 |10,v,_=>v= .string (sig.extract 40 T)
 |11,v,_=>v= .string sig
 |12,v,_=>v= .int .i64 T
 |13,v,_=>v= .int .i64 ((T+4:Nat):Int)
 |14,v,_=>v= .string (sig.extract (T+4) sig.size)
 |15,v,_=>v= .string rt
 |_,v,_=>v= .string rt
theorem Bt{cv:Array Value}{key msg sig rt:ByteArray}{q T h wd n sh:Nat}{t c:Int}(k:Nat)(v:Value)(w w':World)(hg:J8 cv key msg sig rt q T h wd n sh t c k v w):J8 cv key msg sig rt q T h wd n sh t c k v w':=by
 match k,hg with
 |0,hg|1,hg|2,hg|3,hg|4,hg|5,hg|6,hg|7,hg|8,hg|9,hg|10,hg|11,hg|12,hg|13,hg|14,hg|15,hg|_+16,hg=>exact hg
theorem Gk{KS:List Int}{cv:Array Value}{key msg sig rt:ByteArray}{q T b4 b9 h wd n sh:Nat}{t c:Int}(hkey:key.size=56)(hT:T+4<=sig.size)(hT4:40<=T)(hTs:T<1000000){w:World}(hCm:∀w',Below w.heap.size w w'->Calls (ac true Tryd.prog) 20 #[.agg cv, .agg (aL t c h wd n sh), .string (key.extract 8 24), .int .i64 q, .string (sig.extract 8 40), .string msg, .string (sig.extract 40 T), .string (sig.extract (T+4) sig.size)] w' λe w''=>e= .returned (.string rt)/\Below w'.heap.size w' w'')(hC:rM KS cv w)(hbox:w.heap[b4]?=some (.cells cv 24))(hkd:w.heap[b9]?=some (.cells (aL t c h wd n sh) 38)){fr:Frame}{Goal:Goroutine->World->Prop}{cs:List Frame}{K:List Item}{a:Act}
 (hF:aM [(1, .string key),(2, .string msg),(3, .string sig),(4, .pt b4),(9, .pt b9),(11, .int .i64 q),(12, .int .i64 T)] 85 [] a)
 (next:∀a w',(Below w.heap.size w w'/\aM [(13, .string rt),(1, .string key),(2, .string msg),(3, .string sig),(4, .pt b4),(9, .pt b9),(11, .int .i64 q),(12, .int .i64 T)] 85 [] a)->Rn (ac true Tryd.prog) Goal (fr.atR a K) cs w'):
 Rn (ac true Tryd.prog) Goal (fr.atR a (.code (.region 12 (ae Tryd.f16 12) true)::K)) cs w:=by
 refine Rn.grows (fx:=[(1, .string key),(2, .string msg),(3, .string sig),(4, .pt b4),(9, .pt b9),(11, .int .i64 q),(12, .int .i64 T)]) (ds:=[65,66,67,68,69,70,71,72,73,74,75,76,77,78,79,80,13]) (N:=85) (df:=[]) (G:=J8 cv key msg sig rt q T h wd n sh t c) (by kernel_rfl) (by kernel_rfl) (λk v w w' hg _=>Bt k v w w' hg) (λm o a w' hm ho hb hfx hne=> ?_)
  (λm a w'=>m=17/\Below w.heap.size w w'/\aM [(13, .string rt),(1, .string key),(2, .string msg),(3, .string sig),(4, .pt b4),(9, .pt b9),(11, .int .i64 q),(12, .int .i64 T)] 85 [] a) (λa w' hG=> ?_) (λm o a w' rest hm ho hS hgo=> ?_) (λa w' hS=> ?_) hF.defers hF.size (hF.all (by simp))
 ·have hlt:m<17:=hm
  rcases(by omega:m=0\/m=1\/m=2\/m=3\/m=4\/m=5\/m=6\/m=7\/m=8\/m=9\/m=10\/m=11\/m=12\/m=13\/m=14\/m=15\/m=16)with rfl|rfl|rfl|rfl|rfl|rfl|rfl|rfl|rfl|rfl|rfl|rfl|rfl|rfl|rfl|rfl|rfl
  ·have e2:=aP ho 65 ( .load 24 (.tmp 4))
   exact af (dI hC.two e2 (C5 (hfx _ (mG (i:=3) rfl))) ((hb.block _ (gA hbox).1).trans hbox)) ⟨rfl,bR⟩
  ·have e2:=aP ho 66 ( .load 38 (.tmp 9))
   exact af (lV e2 (C5 (hfx _ (mG (i:=4) rfl))) ((hb.block _ (gA hkd).1).trans hkd)) ⟨rfl,bR⟩
  ·have e2:=aP ho 67 ( .move (.tmp 1))
   exact EU (.inl e2) (hfx _ (mG (i:=0) rfl)) ⟨rfl,bR⟩
  ·have e2:=aP ho 68 ( .slice 9 (.tmp 67) (some (.const (.int .i64 8))) (some (.const (.int .i64 24))) none)
   obtain⟨u,hu,rfl⟩:=nE hne 2 67
   exact af ((cN (m:=8) (n:=24) e2 (C5 hu) rfl rfl (by omega) (by omega)).1) ⟨rfl,bR⟩
  ·have e2:=aP ho 69 ( .move (.tmp 11))
   exact EU (.inl e2) (hfx _ (mG (i:=5) rfl)) ⟨rfl,bR⟩
  ·have e2:=aP ho 70 ( .move (.tmp 3))
   exact EU (.inl e2) (hfx _ (mG (i:=2) rfl)) ⟨rfl,bR⟩
  ·have e2:=aP ho 71 ( .slice 9 (.tmp 70) (some (.const (.int .i64 8))) (some (.const (.int .i64 40))) none)
   obtain⟨u,hu,rfl⟩:=nE hne 5 70
   exact af ((cN (m:=8) (n:=40) e2 (C5 hu) rfl rfl (by omega) (by omega)).1) ⟨rfl,bR⟩
  ·have e2:=aP ho 72 ( .move (.tmp 2))
   exact EU (.inl e2) (hfx _ (mG (i:=1) rfl)) ⟨rfl,bR⟩
  ·have e2:=aP ho 73 ( .move (.tmp 3))
   exact EU (.inl e2) (hfx _ (mG (i:=2) rfl)) ⟨rfl,bR⟩
  ·have e2:=aP ho 74 ( .move (.tmp 12))
   exact EU (.inl e2) (hfx _ (mG (i:=6) rfl)) ⟨rfl,bR⟩
  ·have e2:=aP ho 75 ( .slice 9 (.tmp 73) (some (.const (.int .i64 40))) (some (.tmp 74)) none)
   obtain⟨u,hu,rfl⟩:=nE hne 8 73
   obtain⟨u2,hu2,rfl⟩:=nE hne 9 74
   exact af (cN (m:=40) (n:=T) e2 (C5 hu) rfl (C5 hu2) (by omega) (by omega)).1 ⟨rfl,bR⟩
  ·have e2:=aP ho 76 ( .move (.tmp 3))
   exact EU (.inl e2) (hfx _ (mG (i:=2) rfl)) ⟨rfl,bR⟩
  ·have e2:=aP ho 77 ( .move (.tmp 12))
   exact EU (.inl e2) (hfx _ (mG (i:=6) rfl)) ⟨rfl,bR⟩
  ·have e2:=aP ho 78 ( .binOp .add 3 (.tmp 77) (.const (.int .i64 4)) 3)
   obtain⟨u,hu,rfl⟩:=nE hne 12 77
   refine af (da (n:=4) e2 (C5 hu) rfl (by omega)) ⟨?_,bR⟩
   rw[show(T:Int)+4=((T+4:Nat):Int)from by omega]
   rfl
  ·have e2:=aP ho 79 ( .slice 9 (.tmp 76) (some (.tmp 78)) none none)
   obtain⟨u,hu,rfl⟩:=nE hne 11 76
   obtain⟨u2,hu2,rfl⟩:=nE hne 13 78
   exact af (ny (n:=T+4) e2 (C5 hu) (C5 hu2) hT) ⟨rfl,bR⟩
  ·have e2:=aP ho 80 ( .call {callee:= .value (.func 20),args:=#[.tmp 65, .tmp 66, .tmp 68, .tmp 69, .tmp 71, .tmp 72, .tmp 75, .tmp 79],argTypes:=#[24,38,9,3,9,9,9,9]})
   obtain⟨u0,hu0,rfl⟩:=nE hne 0 65
   obtain⟨u1,hu1,rfl⟩:=nE hne 1 66
   obtain⟨u3,hu3,rfl⟩:=nE hne 3 68
   obtain⟨u4,hu4,rfl⟩:=nE hne 4 69
   obtain⟨u6,hu6,rfl⟩:=nE hne 6 71
   obtain⟨u7,hu7,rfl⟩:=nE hne 7 72
   obtain⟨u10,hu10,rfl⟩:=nE hne 10 75
   obtain⟨u14,hu14,rfl⟩:=nE hne 14 79
   have hr:=az (w:=w') e2 (show(#[Operand.tmp 65, .tmp 66, .tmp 68, .tmp 69, .tmp 71, .tmp 72, .tmp 75, .tmp 79]:Array Operand).map a.eval=#[.agg cv, .agg (aL t c h wd n sh), .string (key.extract 8 24), .int .i64 q, .string (sig.extract 8 40), .string msg, .string (sig.extract 40 T), .string (sig.extract (T+4) sig.size)]from by simp[C5 hu0,C5 hu1,C5 hu3,C5 hu4,C5 hu6,C5 hu7,C5 hu10,C5 hu14]) (rI (P:=ac true Tryd.prog) Lf.func20 _)
   exact .inr ⟨_,_,hr.1,(hCm w' hb).mono λe w'' h=>⟨_,h.1,rfl,h.2⟩⟩
  ·have e2:=aP ho 13 ( .assign (.tmp 80))
   obtain⟨u,hu,hG⟩:=nE hne 15 80
   exact EU (.inr e2) hu ⟨hG,bR⟩
 ·obtain⟨u,hu,hu2⟩:=hG.come 16 13 rfl trivial
  obtain rfl:=hu2
  exact⟨rfl,hG.old,hG.base.more hu⟩
 ·exact absurd (gA ho).1 (by obtain⟨rfl,_⟩:=hS;decide)
 ·exact next a w' hS.2
def KV(sig:ByteArray)(b9 h H2 T:Nat)(q t c:Int)(c1 n1 n2:Bool):Nat->Value->World->Prop
 |0,v,_=>v= .int .i64 q
 |1,v,_=>v= .pointer (some ⟨b9,2,none⟩)
 |2,v,_=>v= .int .i64 h
 |3,v,_=>v= .int .i64 (H2:Int)
 |4,v,_=>v= .bool c1
 |5,v,_=>v= .bool c1
 |6,v,_=>c1=false->v= .string sig
 |7,v,_=>c1=false->v= .int .i64 (aN sig 4 8)
 |8,v,_=>c1=false->v= .pointer (some ⟨b9,1,none⟩)
 |9,v,_=>c1=false->v= .int .i64 c
 |10,v,_=>c1=false->v= .bool n1
 |11,v,_=>v= .bool (c1||n1)
 |12,v,_=>v= .bool (c1||n1)
 |13,v,_=>(c1||n1)=false->v= .string sig
 |14,v,_=>(c1||n1)=false->v= .int .i64 T
 |15,v,_=>(c1||n1)=false->v= .int .i64 (aN sig T (T+4))
 |16,v,_=>(c1||n1)=false->v= .pointer (some ⟨b9,0,none⟩)
 |17,v,_=>(c1||n1)=false->v= .int .i64 t
 |18,v,_=>(c1||n1)=false->v= .bool n2
 |_,v,_=>v= .bool (c1||n1||n2)
theorem DN{sig:ByteArray}{b9 h H2 T:Nat}{q t c:Int}{c1 n1 n2:Bool}(m:Nat)(v:Value)(w w':World)(hg:KV sig b9 h H2 T q t c c1 n1 n2 m v w):KV sig b9 h H2 T q t c c1 n1 n2 m v w':=by
 match m,hg with
 |0,hg|1,hg|2,hg|3,hg|4,hg|5,hg|6,hg|7,hg|8,hg|9,hg|10,hg|11,hg|12,hg|13,hg|14,hg|15,hg|16,hg|17,hg|18,hg|_+19,hg=>exact hg
theorem Gl{key msg sig:ByteArray}{b4 b9 h wd n sh H2 T:Nat}{q t c:Int}{c1 n1 n2:Bool}(hH2:H2=2^h)(hh8:h<=8)(h2h:H2<=256)(hsig:sig.size<=1125899906842624)(hT:T+4<=sig.size)(hs8:8<=sig.size)(hc1:c1=decide (q≥(H2:Int)))(hn1:n1=(aN sig 4 8 !=c))(hn2:n2=(aN sig T (T+4) !=t)){fr:Frame}{Goal:Goroutine->World->Prop}{cs:List Frame}{K:List Item}{a:Act}{w:World}(hkd:w.heap[b9]?=some (.cells (aL t c h wd n sh) 38))
 (hF:aM [(1, .string key),(2, .string msg),(3, .string sig),(4, .pt b4),(9, .pt b9),(11, .int .i64 q),(12, .int .i64 T)] 85 [] a)
 (next:∀a w',(Below w.heap.size w w'/\aM [(64, .bool (c1||n1||n2)),(1, .string key),(2, .string msg),(3, .string sig),(4, .pt b4),(9, .pt b9),(11, .int .i64 q),(12, .int .i64 T)] 85 [] a)->Rn (ac true Tryd.prog) Goal (fr.atR a K) cs w'):
 Rn (ac true Tryd.prog) Goal (fr.atR a (.code (.region 10 (ae Tryd.f16 10) true)::K)) cs w:=by
 refine Rn.growsG (fx:=[(1, .string key),(2, .string msg),(3, .string sig),(4, .pt b4),(9, .pt b9),(11, .int .i64 q),(12, .int .i64 T)]) (ds:=[45,46,47,48,49,50,51,52,53,54,55,56,57,58,59,60,61,62,63,64]) (N:=85) (df:=[]) (G:=KV sig b9 h H2 T q t c c1 n1 n2) (by kernel_rfl) (by kernel_rfl) (λm v w w' hg _=>DN m v w w' hg) (λm o a w' hm ho hb hsz hfx hne=> ?_)
  (λm a w'=>m=20/\Below w.heap.size w w'/\aM [(64, .bool (c1||n1||n2)),(1, .string key),(2, .string msg),(3, .string sig),(4, .pt b4),(9, .pt b9),(11, .int .i64 q),(12, .int .i64 T)] 85 [] a) (λa w' hG=> ?_) (λm o a w' rest hm ho hS hgo=> ?_) (λa w' hS=> ?_) hF.defers hF.size (hF.all (by simp))
 ·have first:∀{o:Oper} {R:Value->World->Prop} (q:Bool) (g d:Nat),o.guard=some (g,false)->((ae Tryd.f16 10)[g]?).bind (·.dst)=some d->a.tmps[d]?=some (.bool q)->(q=false->uY (ac true Tryd.prog) a o w' R)->(q=true->R undef w')->ua (ac true Tryd.prog) (ae Tryd.f16 10) a o w' R:=λ{o R} q g d h1 h2 h3 h4 h5=>by
   have hw:=lQ (ops:=ae Tryd.f16 10) (tmps:=a.tmps) h1 h2 h3
   cases q with
   |false=>exact .inl ⟨hw,h4 rfl⟩
   |true=>exact .inr ⟨hw,h5 rfl⟩
  have gop:∀{m:Nat} {o:Oper} {d:Option Tmp} {p:Op} {g:Nat},(ae Tryd.f16 10)[m]?=some o->((ae Tryd.f16 10)[m]?).map (λo=>(o.dst,o.op,o.guard))=some (d,p,some (g,false))->o.op=p/\o.guard=some (g,false):=λ{m o d p g} ho hmap=>by
   rw[ho]at hmap
   simp only[Option.map_some,Option.some.injEq,Prod.mk.injEq]at hmap
   exact⟨hmap.2.1,hmap.2.2⟩
  have hlt:m<20:=hm
  rcases(by omega:m=0\/m=1\/m=2\/m=3\/m=4\/m=5\/m=6\/m=7\/m=8\/m=9\/m=10\/m=11\/m=12\/m=13\/m=14\/m=15\/m=16\/m=17\/m=18\/m=19)with rfl|rfl|rfl|rfl|rfl|rfl|rfl|rfl|rfl|rfl|rfl|rfl|rfl|rfl|rfl|rfl|rfl|rfl|rfl|rfl
  ·obtain⟨e1,e2,e3⟩:=aJ (d:=some 45) (p:= .move (.tmp 11)) ho (by kernel_rfl)
   exact .inl ⟨e3 _,EU (.inl e2) (hfx _ (mG (i:=5) rfl)) ⟨rfl,bR⟩⟩
  ·obtain⟨e1,e2,e3⟩:=aJ (d:=some 46) (p:= .fieldAddr 38 (.tmp 9) 2) ho (by kernel_rfl)
   exact .inl ⟨e3 _,af (bX 2 (by decide) e2 (C5 (hfx _ (mG (i:=4) rfl)))) ⟨rfl,bR⟩⟩
  ·obtain⟨e1,e2,e3⟩:=aJ (d:=some 47) (p:= .load 3 (.tmp 46)) ho (by kernel_rfl)
   obtain⟨u,hu,rfl⟩:=nE hne 1 46
   exact .inl ⟨e3 _,af (ay aQ e2 (C5 hu) ((am ((hb.block _ (gA hkd).1).trans hkd) 2).trans rfl)).1 ⟨rfl,bR⟩⟩
  ·obtain⟨e1,e2,e3⟩:=aJ (d:=some 48) (p:= .binOp .shl 3 (.const (.int .i64 1)) (.tmp 47) 3) ho (by kernel_rfl)
   obtain⟨u,hu,rfl⟩:=nE hne 2 47
   have hp:(1:Int)*2^h=(H2:Int):=by rw[Int.one_mul,hH2,Int.natCast_pow];rfl
   refine .inl ⟨e3 _,af (ji (m:=1) (k:=h) e2 rfl (C5 hu) (by omega) (by rw[hp];omega)) ⟨?_,bR⟩⟩
   rw[hp]
   rfl
  ·obtain⟨e1,e2,e3⟩:=aJ (d:=some 49) (p:= .binOp .geq 3 (.tmp 45) (.tmp 48) 3) ho (by kernel_rfl)
   obtain⟨u,hu,rfl⟩:=nE hne 0 45
   obtain⟨u2,hu2,rfl⟩:=nE hne 3 48
   exact .inl ⟨e3 _,af (xN e2 (C5 hu) (C5 hu2)) ⟨by rw[hc1];rfl,bR⟩⟩
  ·obtain⟨e1,e2,e3⟩:=aJ (d:=some 50) (p:= .move (.tmp 49)) ho (by kernel_rfl)
   obtain⟨u,hu,hG⟩:=nE hne 4 49
   exact .inl ⟨e3 _,EU (.inl e2) hu ⟨hG,bR⟩⟩
  ·obtain⟨e2,eg⟩:=gop (d:=some 51) (p:= .move (.tmp 3)) ho (by kernel_rfl)
   obtain⟨u,hu,rfl⟩:=nE hne 5 50
   exact first c1 5 50 eg (by kernel_rfl) hu (λhq=>EU (.inl e2) (hfx _ (mG (i:=2) rfl)) ⟨λ_=>rfl,bR⟩) λhq=>⟨λhf=>(by rw[hq]at hf;cases hf),bR⟩
  ·obtain⟨e2,eg⟩:=gop (d:=some 52) (p:= .call {callee:= .value (.func 33),args:=#[.tmp 51, .const (.int .i64 4), .const (.int .i64 4)],argTypes:=#[9,3,3]}) ho (by kernel_rfl)
   obtain⟨u,hu,rfl⟩:=nE hne 5 50
   obtain⟨u6,hu6,h6⟩:=nE hne 6 51
   refine first c1 5 50 eg (by kernel_rfl) hu (λhq=> ?_) λhq=>⟨λhf=>(by rw[hq]at hf;cases hf),bR⟩
   have hr:=az (w:=w') e2 (show(#[Operand.tmp 51, .const (.int .i64 4), .const (.int .i64 4)]:Array Operand).map a.eval=#[.string sig, .int .i64 ((4:Nat):Int), .int .i64 ((4:Nat):Int)]from by simp only[List.map_toArray,List.map_cons,List.map_nil,C5 hu6,h6 hq];rfl) (rI (P:=ac true Tryd.prog) Lf.func33 _)
   exact .inr ⟨_,_,hr.1,(lr sig 4 4 w' (by decide) (by omega) hsig).mono λe w'' h=>⟨_,h.1,λ_=>by rw[lw],by rw[h.2];exact bR⟩⟩
  ·obtain⟨e2,eg⟩:=gop (d:=some 53) (p:= .fieldAddr 38 (.tmp 9) 1) ho (by kernel_rfl)
   obtain⟨u,hu,rfl⟩:=nE hne 5 50
   exact first c1 5 50 eg (by kernel_rfl) hu (λhq=>af (bX 1 (by decide) e2 (C5 (hfx _ (mG (i:=4) rfl)))) ⟨λ_=>rfl,bR⟩) λhq=>⟨λhf=>(by rw[hq]at hf;cases hf),bR⟩
  ·obtain⟨e2,eg⟩:=gop (d:=some 54) (p:= .load 3 (.tmp 53)) ho (by kernel_rfl)
   obtain⟨u,hu,rfl⟩:=nE hne 5 50
   obtain⟨u8,hu8,h8⟩:=nE hne 8 53
   exact first c1 5 50 eg (by kernel_rfl) hu (λhq=>af ((ay (v:= .int .i64 c) aQ e2 ((C5 hu8).trans (h8 hq)) ((am ((hb.block _ (gA hkd).1).trans hkd) 1).trans rfl)).1) ⟨λ_=>rfl,bR⟩) λhq=>⟨λhf=>(by rw[hq]at hf;cases hf),bR⟩
  ·obtain⟨e2,eg⟩:=gop (d:=some 55) (p:= .binOp .neq 3 (.tmp 52) (.tmp 54) 3) ho (by kernel_rfl)
   obtain⟨u,hu,rfl⟩:=nE hne 5 50
   obtain⟨u7,hu7,h7⟩:=nE hne 7 52
   obtain⟨u9,hu9,h9⟩:=nE hne 9 54
   exact first c1 5 50 eg (by kernel_rfl) hu (λhq=>af (oa e2 ((C5 hu7).trans (h7 hq)) ((C5 hu9).trans (h9 hq))) ⟨λ_=>by rw[hn1],bR⟩) λhq=>⟨λhf=>(by rw[hq]at hf;cases hf),bR⟩
  ·obtain⟨e1,e2,e3⟩:=aJ (d:=some 56) (p:= .pick (.tmp 50) (.const (.bool true)) (.tmp 55)) ho (by kernel_rfl)
   obtain⟨u,hu,rfl⟩:=nE hne 5 50
   obtain⟨u1,hu1,h1⟩:=nE hne 10 55
   refine .inl ⟨e3 _,af (jG e2 (C5 hu)) ⟨?_,bR⟩⟩
   cases hq:c1 with
   |true=>rfl
   |false=>exact(C5 hu1).trans (h1 hq)
  ·obtain⟨e1,e2,e3⟩:=aJ (d:=some 57) (p:= .move (.tmp 56)) ho (by kernel_rfl)
   obtain⟨u,hu,hG⟩:=nE hne 11 56
   exact .inl ⟨e3 _,EU (.inl e2) hu ⟨hG,bR⟩⟩
  ·obtain⟨e2,eg⟩:=gop (d:=some 58) (p:= .move (.tmp 3)) ho (by kernel_rfl)
   obtain⟨u,hu,rfl⟩:=nE hne 12 57
   exact first (c1||n1) 12 57 eg (by kernel_rfl) hu (λhq=>EU (.inl e2) (hfx _ (mG (i:=2) rfl)) ⟨λ_=>rfl,bR⟩) λhq=>⟨λhf=>(by rw[hq]at hf;cases hf),bR⟩
  ·obtain⟨e2,eg⟩:=gop (d:=some 59) (p:= .move (.tmp 12)) ho (by kernel_rfl)
   obtain⟨u,hu,rfl⟩:=nE hne 12 57
   exact first (c1||n1) 12 57 eg (by kernel_rfl) hu (λhq=>EU (.inl e2) (hfx _ (mG (i:=6) rfl)) ⟨λ_=>rfl,bR⟩) λhq=>⟨λhf=>(by rw[hq]at hf;cases hf),bR⟩
  ·obtain⟨e2,eg⟩:=gop (d:=some 60) (p:= .call {callee:= .value (.func 33),args:=#[.tmp 58, .tmp 59, .const (.int .i64 4)],argTypes:=#[9,3,3]}) ho (by kernel_rfl)
   obtain⟨u,hu,rfl⟩:=nE hne 12 57
   obtain⟨u13,hu13,h13⟩:=nE hne 13 58
   obtain⟨u14,hu14,h14⟩:=nE hne 14 59
   refine first (c1||n1) 12 57 eg (by kernel_rfl) hu (λhq=> ?_) λhq=>⟨λhf=>(by rw[hq]at hf;cases hf),bR⟩
   have hr:=az (w:=w') e2 (show(#[Operand.tmp 58, .tmp 59, .const (.int .i64 4)]:Array Operand).map a.eval=#[.string sig, .int .i64 (T:Int), .int .i64 ((4:Nat):Int)]from by simp only[List.map_toArray,List.map_cons,List.map_nil,C5 hu13,h13 hq,C5 hu14,h14 hq];rfl) (rI (P:=ac true Tryd.prog) Lf.func33 _)
   exact .inr ⟨_,_,hr.1,(lr sig T 4 w' (by decide) hT hsig).mono λe w'' h=>⟨_,h.1,λ_=>by rw[lw],by rw[h.2];exact bR⟩⟩
  ·obtain⟨e2,eg⟩:=gop (d:=some 61) (p:= .fieldAddr 38 (.tmp 9) 0) ho (by kernel_rfl)
   obtain⟨u,hu,rfl⟩:=nE hne 12 57
   exact first (c1||n1) 12 57 eg (by kernel_rfl) hu (λhq=>af (bX 0 (by decide) e2 (C5 (hfx _ (mG (i:=4) rfl)))) ⟨λ_=>rfl,bR⟩) λhq=>⟨λhf=>(by rw[hq]at hf;cases hf),bR⟩
  ·obtain⟨e2,eg⟩:=gop (d:=some 62) (p:= .load 3 (.tmp 61)) ho (by kernel_rfl)
   obtain⟨u,hu,rfl⟩:=nE hne 12 57
   obtain⟨u16,hu16,h16⟩:=nE hne 16 61
   exact first (c1||n1) 12 57 eg (by kernel_rfl) hu (λhq=>af ((ay (v:= .int .i64 t) aQ e2 ((C5 hu16).trans (h16 hq)) ((am ((hb.block _ (gA hkd).1).trans hkd) 0).trans rfl)).1) ⟨λ_=>rfl,bR⟩) λhq=>⟨λhf=>(by rw[hq]at hf;cases hf),bR⟩
  ·obtain⟨e2,eg⟩:=gop (d:=some 63) (p:= .binOp .neq 3 (.tmp 60) (.tmp 62) 3) ho (by kernel_rfl)
   obtain⟨u,hu,rfl⟩:=nE hne 12 57
   obtain⟨u15,hu15,h15⟩:=nE hne 15 60
   obtain⟨u17,hu17,h17⟩:=nE hne 17 62
   exact first (c1||n1) 12 57 eg (by kernel_rfl) hu (λhq=>af (oa e2 ((C5 hu15).trans (h15 hq)) ((C5 hu17).trans (h17 hq))) ⟨λ_=>by rw[hn2],bR⟩) λhq=>⟨λhf=>(by rw[hq]at hf;cases hf),bR⟩
  ·obtain⟨e1,e2,e3⟩:=aJ (d:=some 64) (p:= .pick (.tmp 57) (.const (.bool true)) (.tmp 63)) ho (by kernel_rfl)
   obtain⟨u,hu,rfl⟩:=nE hne 12 57
   obtain⟨u1,hu1,h1⟩:=nE hne 18 63
   refine .inl ⟨e3 _,af (jG e2 (C5 hu)) ⟨?_,bR⟩⟩
   show _=Value.bool ((c1||n1)||n2)
   cases hq:(c1||n1)with
   |true=>rfl
   |false=>exact(C5 hu1).trans (h1 hq)
 ·obtain⟨u,hu,hu2⟩:=hG.come 19 64 rfl trivial
  obtain rfl:=hu2
  exact⟨rfl,hG.old,hG.base.more hu⟩
 ·exact absurd (gA ho).1 (by obtain⟨rfl,_⟩:=hS;decide)
 ·exact next a w' hS.2
theorem IG:Tryd.f16.body=some (.seq (.region 0 (ae Tryd.f16 0) false) (.seq (.seq (.region 1 (ae Tryd.f16 1) false) (.cond (.tmp 16) (.seq (.region 2 (ae Tryd.f16 2) false) .ret) .skip)) (.seq (.region 3 (ae Tryd.f16 3) false) (.seq (.seq (.region 4 (ae Tryd.f16 4) false) (.cond (.tmp 26) (.seq (.region 5 (ae Tryd.f16 5) false) .ret) .skip))
 (.seq (.seq (.region 6 (ae Tryd.f16 6) false) (.cond (.tmp 38) (.seq (.region 7 (ae Tryd.f16 7) false) .ret) .skip)) (.seq (.region 8 (ae Tryd.f16 8) false) (.seq (.region 9 (ae Tryd.f16 9) false) (.seq (.seq (.region 10 (ae Tryd.f16 10) true) (.cond (.tmp 64) (.seq (.region 11 (ae Tryd.f16 11) false) .ret) .skip))
 (.seq (.region 12 (ae Tryd.f16 12) true) (.seq (.seq (.region 13 (ae Tryd.f16 13) false) (.cond (.tmp 84) (.seq (.region 14 (ae Tryd.f16 14) false) .ret) .skip)) (.seq (.region 15 (ae Tryd.f16 15) false) .ret))))))))))):=by kernel_rfl
theorem zB{key:ByteArray}(h56:key.size=56):(decide (((hK key:Nat):Int)>0)&&decide (((wK key:Nat):Int)>0))=true↔fi key:=by
 unfold fi hK wK
 simp only[Bool.and_eq_true,decide_eq_true_eq]
 constructor
 ·rintro⟨h1,h2⟩
  exact⟨h56,by omega,by omega⟩
 ·rintro⟨_,h1,h2⟩
  exact⟨by omega,by omega⟩
theorem ve{KS:List Int}(hKl:KS.length=64)(hKw:l7 KS){cv:Array Value}(key msg sig:ByteArray)(hm:msg.size<=140737488351232)(hk:key.size<=1125899906842624)(hs:sig.size<=1125899906842624)(w:World)(hC:rM KS cv w):
 Calls (ac true Tryd.prog) 16 #[.agg cv, .string key, .string msg, .string sig] w λe w'=>∃c,e= .returned (.int .i64 c)/\sD KS key msg sig c/\Below w.heap.size w w':=by
 refine bF (t:=8) Lf.func16 rfl λcs=> ?_
 rw[bW (N:=85) [.agg cv, .string key, .string msg, .string sig] Lf.func16 IG rfl]
 have hF:=bm [.agg cv, .string key, .string msg, .string sig] 85 (by simp)
 refine Rn.p rfl (Rn.r (L:=[0,1]) rfl ?_)
 refine Rn.z hF 4 0 24 rfl λa hF=> ?_
 show Rn _ _ _ _ (w.alloc (.cells cv 24))
 have hb1:=an w (.cells cv 24)
 have h4:=aC w (.cells cv 24)
 revert hb1 h4
 generalize w.alloc (.cells cv 24)=w1
 intro hb1 h4
 have hC1:=hC.mono hb1
 refine Rn.c hF 8 (.int .i64 0) λa hF=> ?_
 have hF:aM [(1, .string key),(2, .string msg),(3, .string sig),(4, .pt w.heap.size)] 85 [] a:=hF.only ⟨rfl,rfl,rfl,rfl,trivial⟩
 have out:∀(id:Nat) (c:Int) (a:Act) (w':World) (F:List (Nat×Value)) (k:List Item),sD KS key msg sig c->Below w.heap.size w w'->aM F 85 [] a->List.range (ae Tryd.f16 id).size=[0]->((ae Tryd.f16 id)[0]?).map (λo=>(o.dst,o.op,o.guard))=some (some 8, .assign (.const (.int .i64 c)),none)->
  Rn (ac true Tryd.prog) (λg w'=>∃(a:Act) (k:List Item) (v:Value),g=hU {(base 16).atR a k with mode:= .returning} cs/\a.defers=[]/\a.tmps[8]?=some v/\∃c,Ending.returned v=Ending.returned (.int .i64 c)/\sD KS key msg sig c/\Below w.heap.size w w') ((base 16).atR a (.code (.seq (.region id (ae Tryd.f16 id) false) .ret)::k)) cs w':=by
  intro id c a w' F k hver hB hF hL hop
  refine Rn.p rfl (Rn.r hL ?_)
  refine Rn.asc hF 8 (.int .i64 c) (by decide) hop λa hF=> ?_
  exact Rn.p rfl (Rn.ends rfl (.inr ⟨_,rfl⟩) (Rn.now ⟨a,_,_,rfl,hF.defers,hF.slot 8 _ (by simp[List.lookup]),c,rfl,hver,hB⟩))
 refine Rn.p rfl (Rn.p rfl (Rn.p rfl (Rn.r (L:=[0,1,2]) rfl ?_)))
 refine Rn.y hF 14 1 rfl λa hF=> ?_
 refine Rn.o hF 15 (.call {callee:= .builtin .len,args:=#[.tmp 14],argTypes:=#[9]}) (λo ho=>qO ho (hF.get (d:=14) rfl)) λa hF=> ?_
 refine Rn.o hF 16 (.binOp .neq 3 (.tmp 15) (.const (.int .i64 56)) 3) (λo ho=>oa ho (hF.get (d:=15) rfl) rfl) λa hF=> ?_
 refine Rn.p rfl (Rn.cond _ (hF.get (d:=16) rfl) ?_)
 by_cases h56:key.size=56
 ·rw[show((key.size:Int) !=56)=false from by simp;omega]
  refine Rn.p rfl (Rn.p rfl (Rn.r (L:=[0,1,2,3,4,5,6,7,8,9,10]) rfl ?_))
  refine Rn.y hF 18 1 rfl λa hF=> ?_
  refine Rn.calls (f:=33) (xs:=#[.tmp 18, .const (.int .i64 0), .const (.int .i64 4)]) (ats:=#[9,3,3]) (args:=#[.string key, .int .i64 ((0:Nat):Int), .int .i64 ((4:Nat):Int)]) hF 19 (by decide) (by kernel_rfl) (by simp only[List.map_toArray,List.map_cons,List.map_nil,hF.get (d:=18) rfl];rfl) Lf.func33 (by kernel_rfl) (by kernel_rfl)
   (R:=λv w'=>v= .int .i64 (aN key 0 4)/\w'=w1) ((lr key 0 4 w1 (by decide) (by omega) hk).mono λe w' h=>⟨_,h.1,by rw[lw],h.2⟩) λv w2 hv a hF=> ?_
  obtain⟨rfl,rfl⟩:=hv
  refine Rn.y hF 20 1 rfl λa hF=> ?_
  refine Rn.calls (f:=33) (xs:=#[.tmp 20, .const (.int .i64 4), .const (.int .i64 4)]) (ats:=#[9,3,3]) (args:=#[.string key, .int .i64 ((4:Nat):Int), .int .i64 ((4:Nat):Int)]) hF 21 (by decide) (by kernel_rfl) (by simp only[List.map_toArray,List.map_cons,List.map_nil,hF.get (d:=20) rfl];rfl) Lf.func33 (by kernel_rfl) (by kernel_rfl)
   (R:=λv w'=>v= .int .i64 (aN key 4 8)/\w'=w2) ((lr key 4 4 w2 (by decide) (by omega) hk).mono λe w' h=>⟨_,h.1,by rw[lw],h.2⟩) λv w3 hv a hF=> ?_
  obtain⟨rfl,rfl⟩:=hv
  refine Rn.calls (f:=18) (xs:=#[.tmp 19, .tmp 21]) (ats:=#[3,3]) (args:=#[.int .i64 (aN key 0 4), .int .i64 (aN key 4 8)]) hF 22 (by decide) (by kernel_rfl) (by simp only[List.map_toArray,List.map_cons,List.map_nil,hF.get (d:=19) rfl,hF.get (d:=21) rfl]) Lf.func18 (by kernel_rfl) (by kernel_rfl)
   (R:=λv w'=>v= .tuple #[.agg (aL (aN key 0 4) (aN key 4 8) (hK key) (wK key) (nK key) (xK key)), .bool (decide (((hK key:Nat):Int)>0)&&decide (((wK key:Nat):Int)>0))]/\Below w3.heap.size w3 w') ((yr (aN key 0 4) (aN key 4 8) w3).mono λe w' h=>⟨_,h.1,rfl,h.2⟩) λv w4 hv a hF=> ?_
  obtain⟨rfl,hb4⟩:=hv
  refine Rn.y hF 17 22 rfl λa hF=> ?_
  refine Rn.o hF 23 (.extract (.tmp 17) 0) (λo ho=>fg ho (hF.get (d:=17) rfl) rfl) λa hF=> ?_
  refine Rn.o hF 24 (.extract (.tmp 17) 1) (λo ho=>fg ho (hF.get (d:=17) rfl) rfl) λa hF=> ?_
  refine Rn.o hF 9 (.alloc 38) (λo ho=>uw ho) λa hF=> ?_
  have h9:=aC w4 (.cells (aL 0 0 0 0 0 0) 38)
  have hb5:=an w4 (.cells (aL 0 0 0 0 0 0) 38)
  revert h9 hb5
  generalize w4.alloc (.cells (aL 0 0 0 0 0 0) 38)=w5
  intro h9 hb5
  refine Rn.does0 hF (.store 38 (.tmp 9) (.tmp 23)) (by kernel_rfl) (by simp) (λo ho=>cr (cells:=aL (aN key 0 4) (aN key 4 8) (hK key) (wK key) (nK key) (xK key)) ho (hF.get (d:=9) rfl) (hF.get (d:=23) rfl) h9 uB rfl (by simp[aL,Value.oneCell'])) λa hF=> ?_
  have hkd:=setRow_heap w5 w4.heap.size _ (aL (aN key 0 4) (aN key 4 8) (hK key) (wK key) (nK key) (xK key)) _ _ h9
  have hlt4:=(gA h4).1
  have hs4:=hb4.size
  have hbox:(w5.setRow w4.heap.size (aL (aN key 0 4) (aN key 4 8) (hK key) (wK key) (nK key) (xK key))).heap[w.heap.size]?=some (.cells cv 24):=(setRow_other w5 _ _ _ (by omega)).trans ((hb5.block _ (by omega)).trans ((hb4.block _ hlt4).trans h4))
  have hB5:Below w3.heap.size w3 (w5.setRow w4.heap.size (aL (aN key 0 4) (aN key 4 8) (hK key) (wK key) (nK key) (xK key))):=(ah hb4 hb4.size hb5).trans (cx _ _ _ hb4.size)
  revert hkd hbox hB5
  generalize w5.setRow w4.heap.size (aL (aN key 0 4) (aN key 4 8) (hK key) (wK key) (nK key) (xK key))=w6
  intro hkd hbox hB5
  have hB6:Below w.heap.size w w6:=ah hb1 hb1.size hB5
  have hC6:=hC.mono hB6
  clear h9 hb5 hb4 h4 hB5 hC1
  refine Rn.s hF 10 24 rfl λa hF=> ?_
  have hF:aM [(10, .bool (decide (((hK key:Nat):Int)>0)&&decide (((wK key:Nat):Int)>0))),(9, .pt w4.heap.size),(1, .string key),(2, .string msg),(3, .string sig),(4, .pt w.heap.size)] 85 [] a:=hF.only ⟨rfl,rfl,rfl,rfl,rfl,rfl,trivial⟩
  refine Rn.p rfl (Rn.p rfl (Rn.p rfl (Rn.r (L:=[0,1]) rfl ?_)))
  refine Rn.y hF 25 10 rfl λa hF=> ?_
  refine Rn.o hF 26 (.unOp .not 4 (.tmp 25)) (λo ho=>(lb ho (hF.get (d:=25) rfl)).1) λa hF=> ?_
  refine Rn.p rfl (Rn.cond _ (hF.get (d:=26) rfl) ?_)
  by_cases hok:fi key
  ·rw[(zB h56).2 hok]
   obtain⟨hh,hkk⟩:=kinds hok
   refine Rn.p rfl (Rn.p rfl (Rn.p rfl (Rn.r (L:=[0,1,2,3,4,5,6,7,8,9,10,11]) rfl ?_)))
   have hF:aM [(9, .pt w4.heap.size),(1, .string key),(2, .string msg),(3, .string sig),(4, .pt w.heap.size)] 85 [] a:=hF.only ⟨rfl,rfl,rfl,rfl,rfl,trivial⟩
   refine Rn.y hF 27 3 rfl λa hF=> ?_
   refine Rn.o hF 28 (.call {callee:= .builtin .len,args:=#[.tmp 27],argTypes:=#[9]}) (λo ho=>qO ho (hF.get (d:=27) rfl)) λa hF=> ?_
   refine Rn.o hF 29 (.fieldAddr 38 (.tmp 9) 4) (λo ho=>bX 4 (by decide) ho (hF.get (d:=9) rfl)) λa hF=> ?_
   refine Rn.o hF 30 (.load 3 (.tmp 29)) (λo ho=>(ay (v:= .int .i64 (nK key)) aQ ho (hF.get (d:=29) rfl) ((am hkd 4).trans rfl)).1) λa hF=> ?_
   refine Rn.o hF 31 (.binOp .mul 3 (.const (.int .i64 32)) (.tmp 30) 3) (λo ho=>(dA (m:=32) ho rfl (hF.get (d:=30) rfl) (by omega)).1) λa hF=> ?_
   refine Rn.o hF 32 (.binOp .add 3 (.const (.int .i64 40)) (.tmp 31) 3) (λo ho=>da (m:=40) ho rfl (hF.get (d:=31) rfl) (by omega)) λa hF=> ?_
   refine Rn.o hF 33 (.binOp .add 3 (.tmp 32) (.const (.int .i64 4)) 3) (λo ho=>da (n:=4) ho (hF.get (d:=32) rfl) rfl (by omega)) λa hF=> ?_
   refine Rn.o hF 34 (.fieldAddr 38 (.tmp 9) 2) (λo ho=>bX 2 (by decide) ho (hF.get (d:=9) rfl)) λa hF=> ?_
   refine Rn.o hF 35 (.load 3 (.tmp 34)) (λo ho=>(ay (v:= .int .i64 (hK key)) aQ ho (hF.get (d:=34) rfl) ((am hkd 2).trans rfl)).1) λa hF=> ?_
   refine Rn.o hF 36 (.binOp .mul 3 (.const (.int .i64 32)) (.tmp 35) 3) (λo ho=>(dA (m:=32) ho rfl (hF.get (d:=35) rfl) (by omega)).1) λa hF=> ?_
   refine Rn.o hF 37 (.binOp .add 3 (.tmp 33) (.tmp 36) 3) (λo ho=>da ho (hF.get (d:=33) rfl) (hF.get (d:=36) rfl) (by omega)) λa hF=> ?_
   refine Rn.o hF 38 (.binOp .neq 3 (.tmp 28) (.tmp 37) 3) (λo ho=>oa ho (hF.get (d:=28) rfl) (hF.get (d:=37) rfl)) λa hF=> ?_
   refine Rn.p rfl (Rn.cond _ (hF.get (d:=38) rfl) ?_)
   by_cases hsz:sig.size=44+32*nK key+32*hK key
   ·rw[show((sig.size:Int) !=40+32*((nK key:Nat):Int)+4+32*((hK key:Nat):Int))=false from by simp;omega]
    have hF:aM [(9, .pt w4.heap.size),(1, .string key),(2, .string msg),(3, .string sig),(4, .pt w.heap.size)] 85 [] a:=hF.only ⟨rfl,rfl,rfl,rfl,rfl,trivial⟩
    refine Rn.p rfl (Rn.p rfl (Rn.r (L:=[0,1,2]) rfl ?_))
    refine Rn.y hF 39 3 rfl λa hF=> ?_
    refine Rn.calls (f:=33) (xs:=#[.tmp 39, .const (.int .i64 0), .const (.int .i64 4)]) (ats:=#[9,3,3]) (args:=#[.string sig, .int .i64 ((0:Nat):Int), .int .i64 ((4:Nat):Int)]) hF 40 (by decide) (by kernel_rfl) (by simp only[List.map_toArray,List.map_cons,List.map_nil,hF.get (d:=39) rfl];rfl) Lf.func33 (by kernel_rfl) (by kernel_rfl)
     (R:=λv w'=>v= .int .i64 (aN sig 0 4)/\w'=w6) ((lr sig 0 4 w6 (by decide) (by omega) hs).mono λe w' h=>⟨_,h.1,by rw[lw],h.2⟩) λv w7 hv a hF=> ?_
    obtain⟨rfl,rfl⟩:=hv
    refine Rn.s hF 11 40 rfl λa hF=> ?_
    refine Rn.p rfl (Rn.p rfl (Rn.r (L:=[0,1,2,3,4]) rfl ?_))
    refine Rn.o hF 41 (.fieldAddr 38 (.tmp 9) 4) (λo ho=>bX 4 (by decide) ho (hF.get (d:=9) rfl)) λa hF=> ?_
    refine Rn.o hF 42 (.load 3 (.tmp 41)) (λo ho=>(ay (v:= .int .i64 (nK key)) aQ ho (hF.get (d:=41) rfl) ((am hkd 4).trans rfl)).1) λa hF=> ?_
    refine Rn.o hF 43 (.binOp .mul 3 (.const (.int .i64 32)) (.tmp 42) 3) (λo ho=>(dA (m:=32) ho rfl (hF.get (d:=42) rfl) (by omega)).1) λa hF=> ?_
    refine Rn.o hF 44 (.binOp .add 3 (.const (.int .i64 40)) (.tmp 43) 3) (λo ho=>da (m:=40) ho rfl (hF.get (d:=43) rfl) (by omega)) λa hF=> ?_
    rw[show(40:Int)+32*((nK key:Nat):Int)=((40+32*nK key:Nat):Int)from by omega]at hF
    refine Rn.s hF 12 44 rfl λa hF=> ?_
    refine Rn.p rfl (Rn.p rfl (Rn.p rfl ?_))
    have h2h:2^hK key<=256:=Nat.le_trans (Nat.pow_le_pow_right (by decide) (show hK key<=8 by omega)) (by decide)
    refine Gl (H2:=2^hK key) (T:=40+32*nK key) (q:=aN sig 0 4) rfl (by omega) h2h hs (by omega) (by omega) rfl rfl rfl hkd (hF.only ⟨rfl,rfl,rfl,rfl,rfl,rfl,rfl,trivial⟩) λa w8 ⟨hb8,hF⟩=> ?_
    have hB8:Below w.heap.size w w8:=ah hB6 hB6.size hb8
    have hbox8:=(hb8.block _ (gA hbox).1).trans hbox
    have hkd8:=(hb8.block _ (gA hkd).1).trans hkd
    have hC8:=hC.mono hB8
    refine Rn.cond _ (hF.get (d:=64) rfl) ?_
    have e4:∀(x:ByteArray) (i:Nat),i+4<=x.size->(x.extract i (i+4)).size=4:=λx i h=>by rw[ByteArray.size_extract];omega
    have iff1:aN sig 4 8=aN key 4 8↔(sig.extract 4 8).data.toList=(key.extract 4 8).data.toList:=zw (e4 sig 4 (by omega)) (e4 key 4 (by omega))
    have iff2:aN sig (40+32*nK key) (40+32*nK key+4)=aN key 0 4↔(sig.extract (40+32*nK key) (40+32*nK key+4)).data.toList=(key.extract 0 4).data.toList:=zw (e4 sig _ (by omega)) (e4 key 0 (by omega))
    by_cases hsok:jE (fM key) (hK key) (nK key) sig
    ·have e:(decide (aN sig 0 4≥((2^hK key:Nat):Int))||(aN sig 4 8 !=aN key 4 8)||(aN sig (40+32*nK key) (40+32*nK key+4) !=aN key 0 4))=false:=by
      obtain⟨_,h1,h2,h3⟩:=hsok
      rw[show 44+32*nK key=40+32*nK key+4 from by omega]at h3
      have h1':¬aN sig 0 4≥((2^hK key:Nat):Int):=by rw[Int.natCast_pow];exact Int.not_le.2 h1
      rw[decide_eq_false h1',iff1.2 h2,iff2.2 h3]
      simp
     rw[e]
     have f:=DR hok hsok
     have h0:0<=aN sig 0 4:=(lZ (sig.extract 0 4).data.toList 4 (by simp;omega)).1
     have hq0:((aN sig 0 4).toNat:Int)=aN sig 0 4:=Int.toNat_of_nonneg h0
     have hleaf:=f.leaf
     rw[←hq0]at hF
     refine Rn.p rfl (Rn.p rfl ?_)
     have hid:(key.extract 8 24).size<=16:=by rw[ByteArray.size_extract];omega
     have hsa:(sig.extract 8 40).size<=32:=by rw[ByteArray.size_extract];omega
     have hroot:rz KS (key.extract 8 24) (sig.extract 8 40) msg (sig.extract 40 (40+32*nK key)) (sig.extract (40+32*nK key+4) sig.size) (hK key) (wK key) (xK key) (nK key) (aN sig 0 4).toNat=lp KS key msg sig:=by
      have:=AD KS (rU (fM key) (nK key) sig) (hK key) (wK key) (xK key) (nK key) (aN sig 0 4).toNat msg hq0.symm rfl
      rw[show 40+32*nK key+4=44+32*nK key from by omega]
      exact this
     refine Gk (KS:=KS) (rt:=lp KS key msg sig) h56 (by omega) (by omega) (by omega) (λw' hb'=> ?_) hC8 hbox8 hkd8 (hF.only ⟨rfl,rfl,rfl,rfl,rfl,rfl,rfl,trivial⟩) λa w9 ⟨hb9,hF⟩=> ?_
     ·have:=BN hKl hKw (key.extract 8 24) (sig.extract 8 40) msg (sig.extract 40 (40+32*nK key)) (sig.extract (40+32*nK key+4) sig.size) (aN key 0 4) (aN key 4 8) (hK key) (wK key) (xK key) (nK key) (aN sig 0 4).toNat f.wid f.shift8 f.one f.most (by omega) (by omega) (by omega) (by omega) (by rw[ByteArray.size_extract];omega) (by rw[ByteArray.size_extract];omega) w' (hC8.mono hb')
      rw[hroot]at this
      exact this
     have hB9:Below w.heap.size w w9:=ah hB8 hB8.size hb9
     refine Rn.p rfl (Rn.p rfl (Rn.r (L:=[0,1,2,3]) rfl ?_))
     refine Rn.y hF 81 13 rfl λa hF=> ?_
     refine Rn.y hF 82 1 rfl λa hF=> ?_
     refine Rn.o hF 83 (.slice 9 (.tmp 82) (some (.const (.int .i64 24))) none none) (λo ho=>ny (n:=24) ho (hF.get (d:=82) rfl) rfl (by omega)) λa hF=> ?_
     refine Rn.o hF 84 (.binOp .neq 9 (.tmp 81) (.tmp 83) 9) (λo ho=>qe ho (hF.get (d:=81) rfl) (hF.get (d:=83) rfl)) λa hF=> ?_
     refine Rn.p rfl (Rn.cond _ (hF.get (d:=84) rfl) ?_)
     by_cases hr:(lp KS key msg sig).data.toList=(key.extract 24 key.size).data.toList
     ·rw[show((lp KS key msg sig).data.toList !=(key.extract 24 key.size).data.toList)=false from by rw[bne_eq_false_iff_eq];exact hr]
      refine Rn.p rfl ?_
      exact out 15 0 a w9 _ _ (.inr (.inr (.inr ⟨hok,hsok,hr,rfl⟩))) hB9 hF rfl (by kernel_rfl)
     ·rw[show((lp KS key msg sig).data.toList !=(key.extract 24 key.size).data.toList)=true from by rw[bne_iff_ne];exact hr]
      exact out 14 10 a w9 _ _ (.inr (.inr (.inl ⟨hok,hsok,hr,rfl⟩))) hB9 hF rfl (by kernel_rfl)
    ·have e:(decide (aN sig 0 4≥((2^hK key:Nat):Int))||(aN sig 4 8 !=aN key 4 8)||(aN sig (40+32*nK key) (40+32*nK key+4) !=aN key 0 4))=true:=by
      refine Classical.byContradiction λhne=>hsok ?_
      rw[Bool.not_eq_true,Bool.or_eq_false_iff,Bool.or_eq_false_iff,decide_eq_false_iff_not,bne_eq_false_iff_eq,bne_eq_false_iff_eq]at hne
      obtain⟨⟨h1,h2⟩,h3⟩:=hne
      refine⟨hsz, ?_,iff1.1 h2, ?_⟩
      ·rw[Int.natCast_pow]at h1
       exact Int.not_le.1 h1
      ·rw[show 44+32*nK key=40+32*nK key+4 from by omega]
       exact iff2.1 h3
     rw[e]
     exact out 11 10 a w8 _ _ (.inr (.inl ⟨hok,hsok,rfl⟩)) hB8 hF rfl (by kernel_rfl)
   ·rw[show((sig.size:Int) !=40+32*((nK key:Nat):Int)+4+32*((hK key:Nat):Int))=true from by simp;omega]
    exact out 7 10 a w6 _ _ (.inr (.inl ⟨hok,λh=>hsz h.1,rfl⟩)) hB6 hF rfl (by kernel_rfl)
  ·rw[show(decide (((hK key:Nat):Int)>0)&&decide (((wK key:Nat):Int)>0))=false from Bool.not_eq_true _▸λh=>hok ((zB h56).1 h)]
   exact out 5 9 a w6 _ _ (.inl ⟨hok,rfl⟩) hB6 hF rfl (by kernel_rfl)
 ·rw[show((key.size:Int) !=56)=true from by simp;omega]
  exact out 2 9 a w1 _ _ (.inl ⟨λh=>h56 h.1,rfl⟩) hb1 hF rfl (by kernel_rfl)
theorem EV{KS:List Int}{key msg sig:ByteArray}{c d:Int}(h:sD KS key msg sig c)(h':sD KS key msg sig d):c=d:=by
 rcases h with⟨a1,rfl⟩|⟨a1,a2,rfl⟩|⟨a1,a2,a3,rfl⟩|⟨a1,a2,a3,rfl⟩<;>rcases h' with⟨b1,rfl⟩|⟨b1,b2,rfl⟩|⟨b1,b2,b3,rfl⟩|⟨b1,b2,b3,rfl⟩<;>first|rfl|exact absurd ‹fi key› ‹¬fi key›|exact absurd a2 b2|exact absurd b2 a2|exact absurd a3 b3|exact absurd b3 a3
section
variable{w:World}{ev:Operand->Value}{o:Oper}{x y:Operand}
theorem HF(hop:o.op= .alloc 24):(execOp ev o).run (ac true Tryd.prog) w= .ok (.value (.pointer (some ⟨w.heap.size,0,none⟩))) (w.alloc (.cells #[.slice none 0 0, .slice none 0 0] 24)):=by
 have e:execOp ev o=(do pure (.value (←Instr.alloc 24 true (.tuple #[])))):=by simp only[execOp,hop]
 have h2:(do pure (.value (←Instr.alloc 24 true (.tuple #[]))):Sem Next).run (ac true Tryd.prog) w= .ok (.value (.pointer (some ⟨w.heap.size,0,none⟩))) (w.alloc (.cells #[.slice none 0 0, .slice none 0 0] 24)):=by kernel_rfl
 rw[e,h2]
theorem FD{t u:TypeId}{m n:Int}(hop:o.op= .binOp .eql t x y u)(ht:t=33)(hx:ev x= .int .i64 m)(hy:ev y= .int .i64 n):(execOp ev o).run (ac true Tryd.prog) w= .ok (.value (.bool (m==n))) w:=by
 subst ht
 simp[execOp,hop,hx,hy,go_sem]
end
theorem JP:((ac true Tryd.prog).info? 24).map (·.size)=some 2:=by kernel_rfl
end Go.Proofs.YtkmoglhgkcnalaaDoor.L1
