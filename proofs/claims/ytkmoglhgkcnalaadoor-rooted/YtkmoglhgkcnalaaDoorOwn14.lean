/- A part of what the last text of the claim imports: texts laid together, and made small, by a program. -/
import Derived.Test.YtkmoglhgkcnalaaDoorOwn13
set_option maxHeartbeats 16000000
set_option maxRecDepth 100000
namespace Go.Proofs.YtkmoglhgkcnalaaDoor.L1
open Go Go.Conc Go.RowKit Go.Proofs.YtkmoglhgkcnalaaDoor
theorem ID:Tryd.f32.body=some (.seq (.region 0 (ae Tryd.f32 0) false) (.seq (.region 1 (ae Tryd.f32 1) false) (.seq (.seq (.region 2 (ae Tryd.f32 2) false) (.cond (.tmp 16) (.seq (.region 3 (ae Tryd.f32 3) false) .ret) .skip))
 (.seq (.region 4 (ae Tryd.f32 4) false) (.seq (.seq (.region 5 (ae Tryd.f32 5) true) (.cond (.tmp 32) (.seq (.region 6 (ae Tryd.f32 6) false) .ret) .skip)) (.seq (.region 7 (ae Tryd.f32 7) false) .ret)))))):=by kernel_rfl
theorem rT(KS:List Int)(hKl:KS.length=64)(key msg sig:ByteArray)(hm:msg.size<=140737488355328)(hs:sig.size<=1125899906842624)(w:World)(hTab:w.rangeAt 0 0 (aj KS))(h0:0<w.heap.size):
 Calls (ac true Tryd.prog) 32 #[.string key, .string msg, .string sig] w λe w'=>∃c,e= .returned (.int .i64 c)/\sD KS key msg sig c/\Below w.heap.size w w':=by
 refine bF (t:=6) Lf.func32 rfl λcs=> ?_
 rw[bW (N:=33) [.string key, .string msg, .string sig] Lf.func32 ID rfl]
 have hF:=bm [.string key, .string msg, .string sig] 33 (by simp)
 refine Rn.p rfl (Rn.r (L:=[0]) rfl ?_)
 refine Rn.c hF 6 (.int .i64 0) λa hF=> ?_
 refine Rn.p rfl (Rn.p rfl (Rn.r (L:=[0,1,2,3,4,5,6,7]) rfl ?_))
 refine Rn.y hF 11 0 rfl λa hF=> ?_
 refine Rn.calls (f:=49) (xs:=#[.tmp 11]) (ats:=#[9]) (args:=#[.string key]) hF 12 (by decide) (by kernel_rfl) (by simp[hF.get (d:=11) rfl]) Lf.func49 (by kernel_rfl) (by kernel_rfl)
  (R:=λv w'=>((fi key/\v= .tuple #[.agg (fM key).key, .bool true])\/(¬fi key/\v= .tuple #[.agg dx, .bool false]))/\Below w.heap.size w w')
  ((vE key w).mono λe w' h=>by
    rcases h with⟨⟨h1,h2⟩|⟨h1,h2⟩,h3⟩
    ·exact⟨_,h2, .inl ⟨h1,rfl⟩,h3⟩
    ·exact⟨_,h2, .inr ⟨h1,rfl⟩,h3⟩) λv w1 hv a hF=> ?_
 obtain⟨hv,hb1⟩:=hv
 obtain⟨cells,ok,hcells,hv'⟩:∃cells ok,((¬fi key/\cells=dx/\ok=false)\/(fi key/\cells=(fM key).key/\ok=true))/\v= .tuple #[.agg cells, .bool ok]:=by
  rcases hv with⟨h1,h2⟩|⟨h1,h2⟩
  ·exact⟨_,_, .inr ⟨h1,rfl,rfl⟩,h2⟩
  ·exact⟨_,_, .inl ⟨h1,rfl,rfl⟩,h2⟩
 subst hv'
 have hsz8:cells.size=8/\cells.all (·.oneCell')=true:=by
  rcases hcells with⟨_,rfl,_⟩|⟨_,rfl,_⟩
  ·exact⟨rfl,by simp[dx,Value.oneCell']⟩
  ·exact⟨rfl,by simp[cq.key,Value.oneCell']⟩
 refine Rn.y hF 10 12 rfl λa hF=> ?_
 refine Rn.o hF 13 (.extract (.tmp 10) 0) (λo ho=>fg ho (hF.get (d:=10) rfl) rfl) λa hF=> ?_
 refine Rn.o hF 14 (.extract (.tmp 10) 1) (λo ho=>fg ho (hF.get (d:=10) rfl) rfl) λa hF=> ?_
 refine Rn.o hF 7 (.alloc 78) (λo ho=>yb ho) λa hF=> ?_
 have h7:=aC w1 (.cells dx 78)
 have hb2:=an w1 (.cells dx 78)
 revert h7 hb2
 generalize w1.alloc (.cells dx 78)=w2
 intro h7 hb2
 refine Rn.does0 hF (.store 78 (.tmp 7) (.tmp 13)) (by kernel_rfl) (by simp) (λo ho=>cr (cells:=cells) ho (hF.get (d:=7) rfl) (hF.get (d:=13) rfl) h7 (by rw[hsz8.1];exact wo) (by rw[hsz8.1];rfl) hsz8.2) λa hF=> ?_
 have h7':=setRow_heap w2 w1.heap.size dx cells 78 (0,0) h7
 have hB2:Below w.heap.size w (w2.setRow w1.heap.size cells):=(ah hb1 hb1.size hb2).trans (cx _ _ _ hb1.size)
 have hlt7:=(gA h7').1
 revert h7' hB2 hlt7
 generalize w2.setRow w1.heap.size cells=w3
 intro h7' hB2 hlt7
 clear h7 hb2
 refine Rn.s hF 8 14 rfl λa hF=> ?_
 refine Rn.p rfl (Rn.p rfl (Rn.p rfl (Rn.r (L:=[0,1]) rfl ?_)))
 refine Rn.y hF 15 8 rfl λa hF=> ?_
 refine Rn.o hF 16 (.unOp .not 4 (.tmp 15)) (λo ho=>(lb ho (hF.get (d:=15) rfl)).1) λa hF=> ?_
 refine Rn.p rfl (Rn.cond _ (hF.get (d:=16) rfl) ?_)
 rcases hcells with⟨hbad,rfl,rfl⟩|⟨hok,rfl,rfl⟩
 ·refine Rn.p rfl (Rn.r (L:=[0]) rfl ?_)
  refine Rn.c hF 6 (.int .i64 9) λa hF=> ?_
  exact Rn.p rfl (Rn.ends rfl (.inr ⟨_,rfl⟩) (Rn.now ⟨a,_,_,rfl,hF.defers,hF.slot 6 _ rfl,9,rfl, .inl ⟨hbad,rfl⟩,hB2⟩))
 obtain⟨hh,hk⟩:=kinds hok
 refine Rn.p rfl (Rn.p rfl (Rn.r (L:=[0,1,2,3,4,5,6,7,8]) rfl ?_))
 refine Rn.o hF 18 (.load 78 (.tmp 7)) (λo ho=>fV (s:=fM key) ho (hF.get (d:=7) rfl) h7' λ_ _=>rfl) λa hF=> ?_
 refine Rn.y hF 19 2 rfl λa hF=> ?_
 refine Rn.calls (f:=50) (xs:=#[.tmp 18, .tmp 19]) (ats:=#[78,9]) (args:=#[.agg (fM key).key, .string sig]) hF 20 (by decide) (by kernel_rfl) (by simp[hF.get (d:=18) rfl,hF.get (d:=19) rfl]) Lf.func50 (by kernel_rfl) (by kernel_rfl)
  (R:=λv w'=>((jE (fM key) (hK key) (nK key) sig/\v= .tuple #[.agg (rU (fM key) (nK key) sig).cells, .bool true])\/(¬jE (fM key) (hK key) (nK key) sig/\v= .tuple #[.agg eI, .bool false]))/\Below w3.heap.size w3 w')
  ((CZ (fM key) (hK key) (nK key) rfl (by omega) rfl (by omega) sig hs w3).mono λe w' h=>by
    rcases h with⟨⟨h1,h2⟩|⟨h1,h2⟩,h3⟩
    ·exact⟨_,h2, .inl ⟨h1,rfl⟩,h3⟩
    ·exact⟨_,h2, .inr ⟨h1,rfl⟩,h3⟩) λv w4 hv a hF=> ?_
 obtain⟨hv,hb4⟩:=hv
 obtain⟨cells,bad,hcells,hv'⟩:∃cells bad,((jE (fM key) (hK key) (nK key) sig/\cells=(rU (fM key) (nK key) sig).cells/\bad=false)\/(¬jE (fM key) (hK key) (nK key) sig/\cells=eI/\bad=true))/\v= .tuple #[.agg cells, .bool (!bad)]:=by
  rcases hv with⟨h1,h2⟩|⟨h1,h2⟩
  ·exact⟨_,false, .inl ⟨h1,rfl,rfl⟩,h2⟩
  ·exact⟨_,true, .inr ⟨h1,rfl,rfl⟩,h2⟩
 subst hv'
 have hsz12:cells.size=12/\cells.all (·.oneCell')=true:=by
  rcases hcells with⟨_,rfl,_⟩|⟨_,rfl,_⟩
  ·exact⟨rfl,by simp[cq.cells,Value.oneCell']⟩
  ·exact⟨rfl,by simp[eI,Value.oneCell']⟩
 have h74:=(hb4.block _ hlt7).trans h7'
 have hB4:Below w.heap.size w w4:=ah hB2 hB2.size hb4
 refine Rn.y hF 17 20 rfl λa hF=> ?_
 refine Rn.o hF 21 (.extract (.tmp 17) 0) (λo ho=>fg ho (hF.get (d:=17) rfl) rfl) λa hF=> ?_
 refine Rn.o hF 22 (.extract (.tmp 17) 1) (λo ho=>fg ho (hF.get (d:=17) rfl) rfl) λa hF=> ?_
 refine Rn.o hF 9 (.alloc 82) (λo ho=>Dc ho) λa hF=> ?_
 have h9:=aC w4 (.cells eI 82)
 have hb5:=an w4 (.cells eI 82)
 revert h9 hb5
 generalize w4.alloc (.cells eI 82)=w5
 intro h9 hb5
 have h75:=(hb5.block _ (gA h74).1).trans h74
 have hlt74:=(gA h74).1
 refine Rn.does0 hF (.store 82 (.tmp 9) (.tmp 21)) (by kernel_rfl) (by simp) (λo ho=>cr (cells:=cells) ho (hF.get (d:=9) rfl) (hF.get (d:=21) rfl) h9 (by rw[hsz12.1];exact zC) (by rw[hsz12.1];rfl) hsz12.2) λa hF=> ?_
 have h9':=setRow_heap w5 w4.heap.size eI cells 82 (0,0) h9
 have h76:=(setRow_other w5 w4.heap.size w1.heap.size cells (by omega)).trans h75
 have hB6:Below w.heap.size w (w5.setRow w4.heap.size cells):=(ah hB4 hB4.size hb5).trans (cx _ _ _ hB4.size)
 revert h9' h76 hB6
 generalize w5.setRow w4.heap.size cells=w6
 intro h9' h76 hB6
 clear h9 hb5 h75
 refine Rn.s hF 8 22 rfl λa hF=> ?_
 refine Rn.p rfl (Rn.p rfl (Rn.p rfl ?_))
 refine Ic (s:=rU (fM key) (nK key) sig) (k:=fM key) (rt:=lp KS key msg sig) (bad:=bad) (b9:=w4.heap.size) (b7:=w1.heap.size) (msg:=msg) (λhq w' hb'=> ?_) rfl h76 (λhq=> ?_) (hF.only ⟨rfl,rfl,rfl,rfl,trivial⟩) λa w7 hb7 hF=> ?_
 ·rcases hcells with⟨hsok,_,_⟩|⟨_,_,hq2⟩
  ·exact wN KS hKl _ _ _ _ _ _ (DR hok hsok) msg hm w' (Mc h0 (ah hB6 hB6.size hb') hTab) (Nat.lt_of_lt_of_le h0 (ah hB6 hB6.size hb').size)
  ·rw[hq2]at hq;cases hq
 ·rcases hcells with⟨_,hc,_⟩|⟨_,_,hq2⟩
  ·rw[h9',hc]
  ·rw[hq2]at hq;cases hq
 have hB7:Below w.heap.size w w7:=ah hB6 hB6.size hb7
 refine Rn.cond _ (hF.get (d:=32) rfl) ?_
 rcases hcells with⟨hsok,_,rfl⟩|⟨hsbad,_,rfl⟩
 ·by_cases hr:(lp KS key msg sig).data.toList=(key.extract 24 key.size).data.toList
  ·rw[show(false||((lp KS key msg sig).data.toList !=(fM key).root.data.toList))=false from by rw[Bool.false_or,bne_eq_false_iff_eq];exact hr]
   refine Rn.p rfl (Rn.p rfl (Rn.r (L:=[0]) rfl ?_))
   refine Rn.c hF 6 (.int .i64 0) λa hF=> ?_
   exact Rn.p rfl (Rn.ends rfl (.inr ⟨_,rfl⟩) (Rn.now ⟨a,_,_,rfl,hF.defers,hF.slot 6 _ rfl,0,rfl, .inr (.inr (.inr ⟨hok,hsok,hr,rfl⟩)),hB7⟩))
  ·rw[show(false||((lp KS key msg sig).data.toList !=(fM key).root.data.toList))=true from by rw[Bool.false_or,bne_iff_ne];exact hr]
   refine Rn.p rfl (Rn.r (L:=[0]) rfl ?_)
   refine Rn.c hF 6 (.int .i64 10) λa hF=> ?_
   exact Rn.p rfl (Rn.ends rfl (.inr ⟨_,rfl⟩) (Rn.now ⟨a,_,_,rfl,hF.defers,hF.slot 6 _ rfl,10,rfl, .inr (.inr (.inl ⟨hok,hsok,hr,rfl⟩)),hB7⟩))
 ·refine Rn.p rfl (Rn.r (L:=[0]) rfl ?_)
  refine Rn.c hF 6 (.int .i64 10) λa hF=> ?_
  exact Rn.p rfl (Rn.ends rfl (.inr ⟨_,rfl⟩) (Rn.now ⟨a,_,_,rfl,hF.defers,hF.slot 6 _ rfl,10,rfl, .inr (.inl ⟨hok,hsbad,rfl⟩),hB7⟩))
theorem IH:Tryd.f15.body=some (.seq (.region 0 (ae Tryd.f15 0) false) (.seq (.region 1 (ae Tryd.f15 1) false) .ret)):=by kernel_rfl
theorem xC(KS:List Int)(hKl:KS.length=64)(key msg sig:ByteArray)(hm:msg.size<=140737488355328)(hs:sig.size<=1125899906842624)(w:World)(hTab:w.rangeAt 0 0 (aj KS))(h0:0<w.heap.size):
 Calls (ac true Tryd.prog) 15 #[.string key, .string msg, .string sig] w λe w'=>∃c,e= .returned (.int .i64 c)/\sD KS key msg sig c/\Below w.heap.size w w':=by
 refine bF (t:=6) Lf.func15 rfl λcs=> ?_
 rw[bW (N:=11) [.string key, .string msg, .string sig] Lf.func15 IH rfl]
 have hF:=bm [.string key, .string msg, .string sig] 11 (by simp)
 refine Rn.p rfl (Rn.r (L:=[0]) rfl ?_)
 refine Rn.c hF 6 (.int .i64 0) λa hF=> ?_
 refine Rn.p rfl (Rn.p rfl (Rn.r (L:=[0,1,2,3,4]) rfl ?_))
 refine Rn.y hF 7 0 rfl λa hF=> ?_
 refine Rn.y hF 8 1 rfl λa hF=> ?_
 refine Rn.y hF 9 2 rfl λa hF=> ?_
 refine Rn.calls (f:=32) (xs:=#[.tmp 7, .tmp 8, .tmp 9]) (ats:=#[9,9,9]) (args:=#[.string key, .string msg, .string sig]) hF 10 (by decide) (by kernel_rfl) (by simp[hF.get (d:=7) rfl,hF.get (d:=8) rfl,hF.get (d:=9) rfl]) Lf.func32 (by kernel_rfl) (by kernel_rfl)
  (R:=λv w'=>∃c,v= .int .i64 c/\sD KS key msg sig c/\Below w.heap.size w w') ((rT KS hKl key msg sig hm hs w hTab h0).mono λe w' ⟨c,h1,h2,h3⟩=>⟨_,h1,c,rfl,h2,h3⟩) λv w1 hv a hF=> ?_
 obtain⟨c,rfl,hver,hb⟩:=hv
 refine Rn.s hF 6 10 rfl λa hF=> ?_
 exact Rn.p rfl (Rn.ends rfl (.inr ⟨_,rfl⟩) (Rn.now ⟨a,_,_,rfl,hF.defers,hF.slot 6 _ rfl,c,rfl,hver,hb⟩))
end Go.Proofs.YtkmoglhgkcnalaaDoor.L1
namespace Go.Proofs.YtkmoglhgkcnalaaDoor
open Go Go.Conc Go.RowKit
def rM(KS:List Int)(cv:Array Value)(w:World):Prop:=∃hb capH kb cap:Nat,cv=#[.slice (some ⟨hb,0,none⟩) 8 capH, .slice (some ⟨kb,0,none⟩) 64 cap]/\w.rangeAt hb 0 (aF H0)/\hb<w.heap.size/\w.rangeAt kb 0 (aF KS)/\kb<w.heap.size
def aL(t c:Int)(h wd n sh:Nat):Array Value:=#[.int .i64 t, .int .i64 c, .int .i64 h, .int .i64 wd, .int .i64 n, .int .i64 sh]
theorem pI{w w':World}{b:Nat}{L:List Value}(hb:Below w.heap.size w w')(hlt:b<w.heap.size)(h:w.rangeAt b 0 L):w'.rangeAt b 0 L:=λj v hv=>by
 have:=h j v hv
 unfold World.cell? at this⊢
 rw[hb.block b hlt]
 exact this
theorem rM.mono{KS:List Int}{cv:Array Value}{w w':World}(h:rM KS cv w)(hb:Below w.heap.size w w'):rM KS cv w':=by
 obtain⟨hb1,c1,kb,c2,rfl,h1,h2,h3,h4⟩:=h
 exact⟨hb1,c1,kb,c2,rfl,pI hb h2 h1,Nat.lt_of_lt_of_le h2 hb.size,pI hb h4 h3,Nat.lt_of_lt_of_le h4 hb.size⟩
theorem rM.two{KS:List Int}{cv:Array Value}{w:World}(h:rM KS cv w):∃c0 c1,cv=#[c0,c1]:=by
 obtain⟨hb1,c1,kb,c2,rfl,_⟩:=h
 exact⟨_,_,rfl⟩
end Go.Proofs.YtkmoglhgkcnalaaDoor
namespace Go.Proofs.YtkmoglhgkcnalaaDoor.L1
open Go Go.Conc Go.RowKit Go.Proofs.YtkmoglhgkcnalaaDoor
theorem nm(KS:List Int)(hKl:KS.length=64)(hKw:l7 KS)(cv:Array Value)(s:ByteArray)(w:World)(hC:rM KS cv w)(hs:s.size<=140737488355328):
 Calls (ac true Tryd.prog) 11 #[.agg cv, .string s] w λe w'=>e= .returned (.string ⟨(fk KS s.data.toList).toArray⟩)/\Below w.heap.size w w':=by
 obtain⟨hb,capH,kb,cap,rfl,h1,h2,h3,h4⟩:=hC
 exact xP KS s hb capH kb cap w hKl hKw h1 h2 h3 h4 hs
section
variable{w:World}{ev:Operand->Value}{o:Oper}{x y:Operand}{b:Nat}
theorem dI{cv:Array Value}(hcv:∃c0 c1,cv=#[c0,c1])(hop:o.op= .load 24 x)(hx:ev x= .pointer (some ⟨b,0,none⟩))(h:w.heap[b]?=some (.cells cv 24)):(execOp ev o).run (ac true Tryd.prog) w= .ok (.value (.agg cv)) w:=by
 obtain⟨c0,c1,rfl⟩:=hcv
 have h1:(isAgg 24).run (ac true Tryd.prog) w= .ok true w:=by kernel_rfl
 have hc:=am h
 simp[execOp,hop,hx,Instr.loadAt,loadVar,h1,loadCells,loadCellsFrom,Addr.add,hc,go_sem]
theorem lV{t c:Int}{hh wd n sh:Nat}(hop:o.op= .load 38 x)(hx:ev x= .pointer (some ⟨b,0,none⟩))(h:w.heap[b]?=some (.cells (aL t c hh wd n sh) 38)):(execOp ev o).run (ac true Tryd.prog) w= .ok (.value (.agg (aL t c hh wd n sh))) w:=by
 have h1:(isAgg 38).run (ac true Tryd.prog) w= .ok true w:=by kernel_rfl
 have hc:=am h
 simp[execOp,hop,hx,Instr.loadAt,loadVar,h1,loadCells,loadCellsFrom,Addr.add,hc,aL,go_sem]
theorem bX(j:Nat)(hj:j<6)(hop:o.op= .fieldAddr 38 x j)(hx:ev x= .pointer (some ⟨b,0,none⟩)):(execOp ev o).run (ac true Tryd.prog) w= .ok (.value (.pointer (some ⟨b,j,none⟩))) w:=by
 have e:execOp ev o=(do pure (.value (←Instr.fieldAt 38 (.pointer (some ⟨b,0,none⟩)) j))):=by simp only[execOp,hop,hx]
 have h2:(do pure (.value (←Instr.fieldAt 38 (.pointer (some ⟨b,0,none⟩)) j)):Sem Next).run (ac true Tryd.prog) w= .ok (.value (.pointer (some ⟨b,j,none⟩))) w:=by
  rcases(by omega:j=0\/j=1\/j=2\/j=3\/j=4\/j=5)with rfl|rfl|rfl|rfl|rfl|rfl<;>kernel_rfl
 rw[e,h2]
theorem uk{m n:Nat}{u:TypeId}(hop:o.op= .binOp .quo 3 x y u)(hx:ev x= .int .i64 m)(hy:ev y= .int .i64 n)(hn:0<n)(hm:m<9223372036854775808):(execOp ev o).run (ac true Tryd.prog) w= .ok (.value (.int .i64 ((m/n:Nat):Int))) w:=by
 obtain⟨q,hq⟩:∃q,q=m/n:=⟨_,rfl⟩
 have hle:q<=m:=by rw[hq];exact Nat.div_le_self _ _
 have e:IntKind.i64.wrap (q:Int)=(q:Int):=by rw[IntKind.wrap_i64];omega
 have e2:(m:Int).tdiv (n:Int)=(q:Int):=by rw[Int.tdiv_eq_ediv_of_nonneg (by omega),hq,Int.natCast_ediv]
 have hz:¬n=0:=by omega
 rw[←hq]
 simp[execOp,hop,hx,hy,go_sem,e2,e,hz]
theorem FA{m n:Nat}{u:TypeId}(hop:o.op= .binOp .rem 3 x y u)(hx:ev x= .int .i64 m)(hy:ev y= .int .i64 n)(hn:0<n):(execOp ev o).run (ac true Tryd.prog) w= .ok (.value (.int .i64 ((m%n:Nat):Int))) w:=by
 have e2:(m:Int).tmod (n:Int)=((m%n:Nat):Int):=by rw[Int.tmod_eq_emod_of_nonneg (by omega),Int.natCast_emod]
 have hz:¬n=0:=by omega
 simp[execOp,hop,hx,hy,go_sem,e2,hz]
end
theorem vu(KS:List Int)(a b c d e:ByteArray):nY KS [a,b,c,d,e]=⟨(fk KS (a++b++c++d++e).data.toList).toArray⟩:=by simp[nY,List.flatMap_cons]
theorem vt(KS:List Int)(a b c d:ByteArray):nY KS [a,b,c,d]=⟨(fk KS (a++b++c++d).data.toList).toArray⟩:=by simp[nY,List.flatMap_cons]
def KT(cv:Array Value)(id s3 s4 Xn:ByteArray)(q:Nat):Nat->Value->World->Prop
 |0,v,_=>v= .agg cv
 |1,v,_=>v= .string id
 |2,v,_=>v= .int .i64 q
 |3,v,_=>v= .string (ob q 4)
 |4,v,_=>v= .string (id++ob q 4)
 |5,v,_=>v= .string (ob 33153 2)
 |6,v,_=>v= .string (id++ob q 4++ob 33153 2)
 |7,v,_=>v= .string s3
 |8,v,_=>v= .string (id++ob q 4++ob 33153 2++s3)
 |9,v,_=>v= .string s4
 |10,v,_=>v= .string (id++ob q 4++ob 33153 2++s3++s4)
 |11,v,_=>v= .string Xn
 |_,v,_=>v= .string Xn
theorem DJ{cv:Array Value}{id s3 s4 Xn:ByteArray}{q:Nat}(k:Nat)(v:Value)(w w':World)(hg:KT cv id s3 s4 Xn q k v w):KT cv id s3 s4 Xn q k v w':=by
 match k,hg with
 |0,hg|1,hg|2,hg|3,hg|4,hg|5,hg|6,hg|7,hg|8,hg|9,hg|10,hg|11,hg|_+12,hg=>exact hg
theorem Ib{KS:List Int}(hKl:KS.length=64)(hKw:l7 KS){cv:Array Value}{id s3 s4 Xn:ByteArray}{q b5:Nat}(hX:Xn=⟨(fk KS (id++ob q 4++ob 33153 2++s3++s4).data.toList).toArray⟩)(hq:q<9223372036854775808)(hlen:id.size+6+s3.size+s4.size<=140737488355328){w:World}(hC:rM KS cv w)(hbox:w.heap[b5]?=some (.cells cv 24)){fr:Frame}{Goal:Goroutine->World->Prop}{cs:List Frame}{K:List Item}{a:Act}
 (hF:aM [(1, .string id),(2, .int .i64 q),(3, .string s3),(4, .string s4),(5, .pt b5)] 23 [] a)
 (next:∀a w',(Below w.heap.size w w'/\aM [(10, .string Xn),(1, .string id),(2, .int .i64 q),(3, .string s3),(4, .string s4),(5, .pt b5)] 23 [] a)->Rn (ac true Tryd.prog) Goal (fr.atR a K) cs w'):
 Rn (ac true Tryd.prog) Goal (fr.atR a (.code (.region 1 (ae Tryd.f35 1) true)::K)) cs w:=by
 refine Rn.grows (fx:=[(1, .string id),(2, .int .i64 q),(3, .string s3),(4, .string s4),(5, .pt b5)]) (ds:=[11,12,13,14,15,16,17,18,19,20,21,22,10]) (N:=23) (df:=[]) (G:=KT cv id s3 s4 Xn q) (by kernel_rfl) (by kernel_rfl) (λk v w w' hg _=>DJ k v w w' hg) (λm o a w' hm ho hb hfx hne=> ?_)
  (λm a w'=>m=13/\Below w.heap.size w w'/\aM [(10, .string Xn),(1, .string id),(2, .int .i64 q),(3, .string s3),(4, .string s4),(5, .pt b5)] 23 [] a) (λa w' hG=> ?_) (λm o a w' rest hm ho hS hgo=> ?_) (λa w' hS=> ?_) hF.defers hF.size (hF.all (by simp))
 ·have hlt:m<13:=hm
  rcases(by omega:m=0\/m=1\/m=2\/m=3\/m=4\/m=5\/m=6\/m=7\/m=8\/m=9\/m=10\/m=11\/m=12)with rfl|rfl|rfl|rfl|rfl|rfl|rfl|rfl|rfl|rfl|rfl|rfl|rfl
  ·have e2:=aP ho 11 ( .load 24 (.tmp 5))
   exact af (dI hC.two e2 (C5 (hfx _ (mG (i:=4) rfl))) ((hb.block _ (gA hbox).1).trans hbox)) ⟨rfl,bR⟩
  ·have e2:=aP ho 12 ( .move (.tmp 1))
   exact EU (.inl e2) (hfx _ (mG (i:=0) rfl)) ⟨rfl,bR⟩
  ·have e2:=aP ho 13 ( .move (.tmp 2))
   exact EU (.inl e2) (hfx _ (mG (i:=1) rfl)) ⟨rfl,bR⟩
  ·have e2:=aP ho 14 ( .call {callee:= .value (.func 21),args:=#[.tmp 13, .const (.int .i64 4)],argTypes:=#[3,3]})
   obtain⟨u,hu,rfl⟩:=nE hne 2 13
   have hr:=az (w:=w') e2 (show(#[Operand.tmp 13, .const (.int .i64 4)]:Array Operand).map a.eval=#[.int .i64 ((q:Nat):Int), .int .i64 ((4:Nat):Int)]from by simp[C5 hu];rfl) (rI (P:=ac true Tryd.prog) Lf.func21 _)
   exact .inr ⟨_,_,hr.1,(dK (q) 4 w' (by decide) (by omega)).mono λe w'' h=>⟨_,h.1,rfl,h.2⟩⟩
  ·have e2:=aP ho 15 ( .binOp .add 9 (.tmp 12) (.tmp 14) 9)
   obtain⟨u,hu,rfl⟩:=nE hne 1 12
   obtain⟨u2,hu2,rfl⟩:=nE hne 3 14
   exact af (cu e2 (C5 hu) (C5 hu2) (by first|(simp only[aG];omega)|(simp only[ByteArray.size_append,aG];omega))) ⟨rfl,bR⟩
  ·have e2:=aP ho 16 ( .call {callee:= .value (.func 21),args:=#[.const (.int .i64 33153), .const (.int .i64 2)],argTypes:=#[3,3]})
   have hr:=az (w:=w') e2 (show(#[Operand.const (.int .i64 33153), .const (.int .i64 2)]:Array Operand).map a.eval=#[.int .i64 ((33153:Nat):Int), .int .i64 ((2:Nat):Int)]from by simp;exact⟨rfl,rfl⟩) (rI (P:=ac true Tryd.prog) Lf.func21 _)
   exact .inr ⟨_,_,hr.1,(dK 33153 2 w' (by decide) (by decide)).mono λe w'' h=>⟨_,h.1,rfl,h.2⟩⟩
  ·have e2:=aP ho 17 ( .binOp .add 9 (.tmp 15) (.tmp 16) 9)
   obtain⟨u,hu,rfl⟩:=nE hne 4 15
   obtain⟨u2,hu2,rfl⟩:=nE hne 5 16
   exact af (cu e2 (C5 hu) (C5 hu2) (by first|(simp only[aG];omega)|(simp only[ByteArray.size_append,aG];omega))) ⟨rfl,bR⟩
  ·have e2:=aP ho 18 ( .move (.tmp 3))
   exact EU (.inl e2) (hfx _ (mG (i:=2) rfl)) ⟨rfl,bR⟩
  ·have e2:=aP ho 19 ( .binOp .add 9 (.tmp 17) (.tmp 18) 9)
   obtain⟨u,hu,rfl⟩:=nE hne 6 17
   obtain⟨u2,hu2,rfl⟩:=nE hne 7 18
   exact af (cu e2 (C5 hu) (C5 hu2) (by first|(simp only[aG];omega)|(simp only[ByteArray.size_append,aG];omega))) ⟨rfl,bR⟩
  ·have e2:=aP ho 20 ( .move (.tmp 4))
   exact EU (.inl e2) (hfx _ (mG (i:=3) rfl)) ⟨rfl,bR⟩
  ·have e2:=aP ho 21 ( .binOp .add 9 (.tmp 19) (.tmp 20) 9)
   obtain⟨u,hu,rfl⟩:=nE hne 8 19
   obtain⟨u2,hu2,rfl⟩:=nE hne 9 20
   exact af (cu e2 (C5 hu) (C5 hu2) (by first|(simp only[aG];omega)|(simp only[ByteArray.size_append,aG];omega))) ⟨rfl,bR⟩
  ·have e2:=aP ho 22 ( .call {callee:= .value (.func 11),args:=#[.tmp 11, .tmp 21],argTypes:=#[24,9]})
   obtain⟨u,hu,rfl⟩:=nE hne 0 11
   obtain⟨u2,hu2,rfl⟩:=nE hne 10 21
   have hr:=az (w:=w') e2 (show(#[Operand.tmp 11, .tmp 21]:Array Operand).map a.eval=#[.agg cv, .string (id++ob q 4++ob 33153 2++s3++s4)]from by simp[C5 hu,C5 hu2]) (rI (P:=ac true Tryd.prog) Lf.func11 _)
   exact .inr ⟨_,_,hr.1,(nm KS hKl hKw cv (id++ob q 4++ob 33153 2++s3++s4) w' (hC.mono hb) (by first|(simp only[aG];omega)|(simp only[ByteArray.size_append,aG];omega))).mono λe w'' h=>⟨_,h.1,congrArg Value.string hX.symm,h.2⟩⟩
  ·have e2:=aP ho 10 ( .assign (.tmp 22))
   obtain⟨u,hu,hG⟩:=nE hne 11 22
   exact EU (.inr e2) hu ⟨hG,bR⟩
 ·obtain⟨u,hu,hu2⟩:=hG.come 12 10 rfl trivial
  obtain rfl:=hu2
  exact⟨rfl,hG.old,hG.base.more hu⟩
 ·exact absurd (gA ho).1 (by obtain⟨rfl,_⟩:=hS;decide)
 ·exact next a w' hS.2
theorem IB:Tryd.f35.body=some (.seq (.region 0 (ae Tryd.f35 0) false) (.seq (.region 1 (ae Tryd.f35 1) true) .ret)):=by kernel_rfl
theorem ut{KS:List Int}(hKl:KS.length=64)(hKw:l7 KS){cv:Array Value}(id s3 s4:ByteArray)(q:Nat)(hq:q<9223372036854775808)(hlen:id.size+6+s3.size+s4.size<=140737488355328)(w:World)(hC:rM KS cv w):
 Calls (ac true Tryd.prog) 35 #[.agg cv, .string id, .int .i64 q, .string s3, .string s4] w λe w'=>e= .returned (.string (nY KS [id,ob q 4,ob 33153 2,s3,s4]))/\Below w.heap.size w w':=by
 refine bF (t:=10) Lf.func35 rfl λcs=> ?_
 rw[bW (N:=23) [.agg cv, .string id, .int .i64 q, .string s3, .string s4] Lf.func35 IB rfl]
 have hF:=bm [.agg cv, .string id, .int .i64 q, .string s3, .string s4] 23 (by simp)
 refine Rn.p rfl (Rn.r (L:=[0,1]) rfl ?_)
 refine Rn.z hF 5 0 24 rfl λa hF=> ?_
 show Rn _ _ _ _ (w.alloc (.cells cv 24))
 refine Rn.c hF 10 (.string ⟨#[]⟩) λa hF=> ?_
 have hb1:=an w (.cells cv 24)
 refine Rn.p rfl (Rn.p rfl ?_)
 refine Ib hKl hKw (vu KS id (ob q 4) (ob 33153 2) s3 s4) hq hlen (hC.mono hb1) (aC w _) (hF.only ⟨rfl,rfl,rfl,rfl,rfl,trivial⟩) λa w' ⟨hb2,hF⟩=> ?_
 exact Rn.ends rfl (.inr ⟨_,rfl⟩) (Rn.now ⟨a,_,_,rfl,hF.defers,hF.slot 10 _ rfl,rfl,ah hb1 hb1.size hb2⟩)
def KQ(cv:Array Value)(id s3 s4 Xn:ByteArray)(q:Nat):Nat->Value->World->Prop
 |0,v,_=>v= .agg cv
 |1,v,_=>v= .string id
 |2,v,_=>v= .int .i64 q
 |3,v,_=>v= .string (ob q 4)
 |4,v,_=>v= .string (id++ob q 4)
 |5,v,_=>v= .string (ob 33667 2)
 |6,v,_=>v= .string (id++ob q 4++ob 33667 2)
 |7,v,_=>v= .string s3
 |8,v,_=>v= .string (id++ob q 4++ob 33667 2++s3)
 |9,v,_=>v= .string s4
 |10,v,_=>v= .string (id++ob q 4++ob 33667 2++s3++s4)
 |11,v,_=>v= .string Xn
 |_,v,_=>v= .string Xn
theorem DG{cv:Array Value}{id s3 s4 Xn:ByteArray}{q:Nat}(k:Nat)(v:Value)(w w':World)(hg:KQ cv id s3 s4 Xn q k v w):KQ cv id s3 s4 Xn q k v w':=by
 match k,hg with
 |0,hg|1,hg|2,hg|3,hg|4,hg|5,hg|6,hg|7,hg|8,hg|9,hg|10,hg|11,hg|_+12,hg=>exact hg
theorem I9{KS:List Int}(hKl:KS.length=64)(hKw:l7 KS){cv:Array Value}{id s3 s4 Xn:ByteArray}{q b5:Nat}(hX:Xn=⟨(fk KS (id++ob q 4++ob 33667 2++s3++s4).data.toList).toArray⟩)(hq:q<9223372036854775808)(hlen:id.size+6+s3.size+s4.size<=140737488355328){w:World}(hC:rM KS cv w)(hbox:w.heap[b5]?=some (.cells cv 24)){fr:Frame}{Goal:Goroutine->World->Prop}{cs:List Frame}{K:List Item}{a:Act}
 (hF:aM [(1, .string id),(2, .int .i64 q),(3, .string s3),(4, .string s4),(5, .pt b5)] 23 [] a)
 (next:∀a w',(Below w.heap.size w w'/\aM [(10, .string Xn),(1, .string id),(2, .int .i64 q),(3, .string s3),(4, .string s4),(5, .pt b5)] 23 [] a)->Rn (ac true Tryd.prog) Goal (fr.atR a K) cs w'):
 Rn (ac true Tryd.prog) Goal (fr.atR a (.code (.region 1 (ae Tryd.f38 1) true)::K)) cs w:=by
 refine Rn.grows (fx:=[(1, .string id),(2, .int .i64 q),(3, .string s3),(4, .string s4),(5, .pt b5)]) (ds:=[11,12,13,14,15,16,17,18,19,20,21,22,10]) (N:=23) (df:=[]) (G:=KQ cv id s3 s4 Xn q) (by kernel_rfl) (by kernel_rfl) (λk v w w' hg _=>DG k v w w' hg) (λm o a w' hm ho hb hfx hne=> ?_)
  (λm a w'=>m=13/\Below w.heap.size w w'/\aM [(10, .string Xn),(1, .string id),(2, .int .i64 q),(3, .string s3),(4, .string s4),(5, .pt b5)] 23 [] a) (λa w' hG=> ?_) (λm o a w' rest hm ho hS hgo=> ?_) (λa w' hS=> ?_) hF.defers hF.size (hF.all (by simp))
 ·have hlt:m<13:=hm
  rcases(by omega:m=0\/m=1\/m=2\/m=3\/m=4\/m=5\/m=6\/m=7\/m=8\/m=9\/m=10\/m=11\/m=12)with rfl|rfl|rfl|rfl|rfl|rfl|rfl|rfl|rfl|rfl|rfl|rfl|rfl
  ·have e2:=aP ho 11 ( .load 24 (.tmp 5))
   exact af (dI hC.two e2 (C5 (hfx _ (mG (i:=4) rfl))) ((hb.block _ (gA hbox).1).trans hbox)) ⟨rfl,bR⟩
  ·have e2:=aP ho 12 ( .move (.tmp 1))
   exact EU (.inl e2) (hfx _ (mG (i:=0) rfl)) ⟨rfl,bR⟩
  ·have e2:=aP ho 13 ( .move (.tmp 2))
   exact EU (.inl e2) (hfx _ (mG (i:=1) rfl)) ⟨rfl,bR⟩
  ·have e2:=aP ho 14 ( .call {callee:= .value (.func 21),args:=#[.tmp 13, .const (.int .i64 4)],argTypes:=#[3,3]})
   obtain⟨u,hu,rfl⟩:=nE hne 2 13
   have hr:=az (w:=w') e2 (show(#[Operand.tmp 13, .const (.int .i64 4)]:Array Operand).map a.eval=#[.int .i64 ((q:Nat):Int), .int .i64 ((4:Nat):Int)]from by simp[C5 hu];rfl) (rI (P:=ac true Tryd.prog) Lf.func21 _)
   exact .inr ⟨_,_,hr.1,(dK (q) 4 w' (by decide) (by omega)).mono λe w'' h=>⟨_,h.1,rfl,h.2⟩⟩
  ·have e2:=aP ho 15 ( .binOp .add 9 (.tmp 12) (.tmp 14) 9)
   obtain⟨u,hu,rfl⟩:=nE hne 1 12
   obtain⟨u2,hu2,rfl⟩:=nE hne 3 14
   exact af (cu e2 (C5 hu) (C5 hu2) (by first|(simp only[aG];omega)|(simp only[ByteArray.size_append,aG];omega))) ⟨rfl,bR⟩
  ·have e2:=aP ho 16 ( .call {callee:= .value (.func 21),args:=#[.const (.int .i64 33667), .const (.int .i64 2)],argTypes:=#[3,3]})
   have hr:=az (w:=w') e2 (show(#[Operand.const (.int .i64 33667), .const (.int .i64 2)]:Array Operand).map a.eval=#[.int .i64 ((33667:Nat):Int), .int .i64 ((2:Nat):Int)]from by simp;exact⟨rfl,rfl⟩) (rI (P:=ac true Tryd.prog) Lf.func21 _)
   exact .inr ⟨_,_,hr.1,(dK 33667 2 w' (by decide) (by decide)).mono λe w'' h=>⟨_,h.1,rfl,h.2⟩⟩
  ·have e2:=aP ho 17 ( .binOp .add 9 (.tmp 15) (.tmp 16) 9)
   obtain⟨u,hu,rfl⟩:=nE hne 4 15
   obtain⟨u2,hu2,rfl⟩:=nE hne 5 16
   exact af (cu e2 (C5 hu) (C5 hu2) (by first|(simp only[aG];omega)|(simp only[ByteArray.size_append,aG];omega))) ⟨rfl,bR⟩
  ·have e2:=aP ho 18 ( .move (.tmp 3))
   exact EU (.inl e2) (hfx _ (mG (i:=2) rfl)) ⟨rfl,bR⟩
  ·have e2:=aP ho 19 ( .binOp .add 9 (.tmp 17) (.tmp 18) 9)
   obtain⟨u,hu,rfl⟩:=nE hne 6 17
   obtain⟨u2,hu2,rfl⟩:=nE hne 7 18
   exact af (cu e2 (C5 hu) (C5 hu2) (by first|(simp only[aG];omega)|(simp only[ByteArray.size_append,aG];omega))) ⟨rfl,bR⟩
  ·have e2:=aP ho 20 ( .move (.tmp 4))
   exact EU (.inl e2) (hfx _ (mG (i:=3) rfl)) ⟨rfl,bR⟩
  ·have e2:=aP ho 21 ( .binOp .add 9 (.tmp 19) (.tmp 20) 9)
   obtain⟨u,hu,rfl⟩:=nE hne 8 19
   obtain⟨u2,hu2,rfl⟩:=nE hne 9 20
   exact af (cu e2 (C5 hu) (C5 hu2) (by first|(simp only[aG];omega)|(simp only[ByteArray.size_append,aG];omega))) ⟨rfl,bR⟩
  ·have e2:=aP ho 22 ( .call {callee:= .value (.func 11),args:=#[.tmp 11, .tmp 21],argTypes:=#[24,9]})
   obtain⟨u,hu,rfl⟩:=nE hne 0 11
   obtain⟨u2,hu2,rfl⟩:=nE hne 10 21
   have hr:=az (w:=w') e2 (show(#[Operand.tmp 11, .tmp 21]:Array Operand).map a.eval=#[.agg cv, .string (id++ob q 4++ob 33667 2++s3++s4)]from by simp[C5 hu,C5 hu2]) (rI (P:=ac true Tryd.prog) Lf.func11 _)
   exact .inr ⟨_,_,hr.1,(nm KS hKl hKw cv (id++ob q 4++ob 33667 2++s3++s4) w' (hC.mono hb) (by first|(simp only[aG];omega)|(simp only[ByteArray.size_append,aG];omega))).mono λe w'' h=>⟨_,h.1,congrArg Value.string hX.symm,h.2⟩⟩
  ·have e2:=aP ho 10 ( .assign (.tmp 22))
   obtain⟨u,hu,hG⟩:=nE hne 11 22
   exact EU (.inr e2) hu ⟨hG,bR⟩
 ·obtain⟨u,hu,hu2⟩:=hG.come 12 10 rfl trivial
  obtain rfl:=hu2
  exact⟨rfl,hG.old,hG.base.more hu⟩
 ·exact absurd (gA ho).1 (by obtain⟨rfl,_⟩:=hS;decide)
 ·exact next a w' hS.2
theorem Iy:Tryd.f38.body=some (.seq (.region 0 (ae Tryd.f38 0) false) (.seq (.region 1 (ae Tryd.f38 1) true) .ret)):=by kernel_rfl
theorem qS{KS:List Int}(hKl:KS.length=64)(hKw:l7 KS){cv:Array Value}(id s3 s4:ByteArray)(q:Nat)(hq:q<9223372036854775808)(hlen:id.size+6+s3.size+s4.size<=140737488355328)(w:World)(hC:rM KS cv w):
 Calls (ac true Tryd.prog) 38 #[.agg cv, .string id, .int .i64 q, .string s3, .string s4] w λe w'=>e= .returned (.string (nY KS [id,ob q 4,ob 33667 2,s3,s4]))/\Below w.heap.size w w':=by
 refine bF (t:=10) Lf.func38 rfl λcs=> ?_
 rw[bW (N:=23) [.agg cv, .string id, .int .i64 q, .string s3, .string s4] Lf.func38 Iy rfl]
 have hF:=bm [.agg cv, .string id, .int .i64 q, .string s3, .string s4] 23 (by simp)
 refine Rn.p rfl (Rn.r (L:=[0,1]) rfl ?_)
 refine Rn.z hF 5 0 24 rfl λa hF=> ?_
 show Rn _ _ _ _ (w.alloc (.cells cv 24))
 refine Rn.c hF 10 (.string ⟨#[]⟩) λa hF=> ?_
 have hb1:=an w (.cells cv 24)
 refine Rn.p rfl (Rn.p rfl ?_)
 refine I9 hKl hKw (vu KS id (ob q 4) (ob 33667 2) s3 s4) hq hlen (hC.mono hb1) (aC w _) (hF.only ⟨rfl,rfl,rfl,rfl,rfl,trivial⟩) λa w' ⟨hb2,hF⟩=> ?_
 exact Rn.ends rfl (.inr ⟨_,rfl⟩) (Rn.now ⟨a,_,_,rfl,hF.defers,hF.slot 10 _ rfl,rfl,ah hb1 hb1.size hb2⟩)
def J5(cv:Array Value)(id en Xn:ByteArray)(q:Nat):Nat->Value->World->Prop
 |0,v,_=>v= .agg cv
 |1,v,_=>v= .string id
 |2,v,_=>v= .int .i64 q
 |3,v,_=>v= .string (ob q 4)
 |4,v,_=>v= .string (id++ob q 4)
 |5,v,_=>v= .string (ob 32896 2)
 |6,v,_=>v= .string (id++ob q 4++ob 32896 2)
 |7,v,_=>v= .string en
 |8,v,_=>v= .string (id++ob q 4++ob 32896 2++en)
 |9,v,_=>v= .string Xn
 |_,v,_=>v= .string Xn
theorem Bo{cv:Array Value}{id en Xn:ByteArray}{q:Nat}(k:Nat)(v:Value)(w w':World)(hg:J5 cv id en Xn q k v w):J5 cv id en Xn q k v w':=by
 match k,hg with
 |0,hg|1,hg|2,hg|3,hg|4,hg|5,hg|6,hg|7,hg|8,hg|9,hg|_+10,hg=>exact hg
theorem Gh{KS:List Int}(hKl:KS.length=64)(hKw:l7 KS){cv:Array Value}{id en Xn:ByteArray}{q b5 b6:Nat}(hX:Xn=⟨(fk KS (id++ob q 4++ob 32896 2++en).data.toList).toArray⟩)(hq:q<9223372036854775808)(hlen:id.size+6+en.size<=140737488355328){w:World}(hC:rM KS cv w)(hbox:w.heap[b5]?=some (.cells cv 24)){fr:Frame}{Goal:Goroutine->World->Prop}{cs:List Frame}{K:List Item}{a:Act}
 (hF:aM [(2, .string id),(3, .int .i64 q),(4, .string en),(5, .pt b5),(6, .pt b6)] 36 [] a)
 (next:∀a w',(Below w.heap.size w w'/\aM [(11, .string Xn),(2, .string id),(3, .int .i64 q),(4, .string en),(5, .pt b5),(6, .pt b6)] 36 [] a)->Rn (ac true Tryd.prog) Goal (fr.atR a K) cs w'):
 Rn (ac true Tryd.prog) Goal (fr.atR a (.code (.region 1 (ae Tryd.f37 1) true)::K)) cs w:=by
 refine Rn.grows (fx:=[(2, .string id),(3, .int .i64 q),(4, .string en),(5, .pt b5),(6, .pt b6)]) (ds:=[12,13,14,15,16,17,18,19,20,21,11]) (N:=36) (df:=[]) (G:=J5 cv id en Xn q) (by kernel_rfl) (by kernel_rfl) (λk v w w' hg _=>Bo k v w w' hg) (λm o a w' hm ho hb hfx hne=> ?_)
  (λm a w'=>m=11/\Below w.heap.size w w'/\aM [(11, .string Xn),(2, .string id),(3, .int .i64 q),(4, .string en),(5, .pt b5),(6, .pt b6)] 36 [] a) (λa w' hG=> ?_) (λm o a w' rest hm ho hS hgo=> ?_) (λa w' hS=> ?_) hF.defers hF.size (hF.all (by simp))
 ·have hlt:m<11:=hm
  rcases(by omega:m=0\/m=1\/m=2\/m=3\/m=4\/m=5\/m=6\/m=7\/m=8\/m=9\/m=10)with rfl|rfl|rfl|rfl|rfl|rfl|rfl|rfl|rfl|rfl|rfl
  ·have e2:=aP ho 12 ( .load 24 (.tmp 5))
   exact af (dI hC.two e2 (C5 (hfx _ (mG (i:=3) rfl))) ((hb.block _ (gA hbox).1).trans hbox)) ⟨rfl,bR⟩
  ·have e2:=aP ho 13 ( .move (.tmp 2))
   exact EU (.inl e2) (hfx _ (mG (i:=0) rfl)) ⟨rfl,bR⟩
  ·have e2:=aP ho 14 ( .move (.tmp 3))
   exact EU (.inl e2) (hfx _ (mG (i:=1) rfl)) ⟨rfl,bR⟩
  ·have e2:=aP ho 15 ( .call {callee:= .value (.func 21),args:=#[.tmp 14, .const (.int .i64 4)],argTypes:=#[3,3]})
   obtain⟨u,hu,rfl⟩:=nE hne 2 14
   have hr:=az (w:=w') e2 (show(#[Operand.tmp 14, .const (.int .i64 4)]:Array Operand).map a.eval=#[.int .i64 ((q:Nat):Int), .int .i64 ((4:Nat):Int)]from by simp[C5 hu];rfl) (rI (P:=ac true Tryd.prog) Lf.func21 _)
   exact .inr ⟨_,_,hr.1,(dK (q) 4 w' (by decide) (by omega)).mono λe w'' h=>⟨_,h.1,rfl,h.2⟩⟩
  ·have e2:=aP ho 16 ( .binOp .add 9 (.tmp 13) (.tmp 15) 9)
   obtain⟨u,hu,rfl⟩:=nE hne 1 13
   obtain⟨u2,hu2,rfl⟩:=nE hne 3 15
   exact af (cu e2 (C5 hu) (C5 hu2) (by first|(simp only[aG];omega)|(simp only[ByteArray.size_append,aG];omega))) ⟨rfl,bR⟩
  ·have e2:=aP ho 17 ( .call {callee:= .value (.func 21),args:=#[.const (.int .i64 32896), .const (.int .i64 2)],argTypes:=#[3,3]})
   have hr:=az (w:=w') e2 (show(#[Operand.const (.int .i64 32896), .const (.int .i64 2)]:Array Operand).map a.eval=#[.int .i64 ((32896:Nat):Int), .int .i64 ((2:Nat):Int)]from by simp;exact⟨rfl,rfl⟩) (rI (P:=ac true Tryd.prog) Lf.func21 _)
   exact .inr ⟨_,_,hr.1,(dK 32896 2 w' (by decide) (by decide)).mono λe w'' h=>⟨_,h.1,rfl,h.2⟩⟩
  ·have e2:=aP ho 18 ( .binOp .add 9 (.tmp 16) (.tmp 17) 9)
   obtain⟨u,hu,rfl⟩:=nE hne 4 16
   obtain⟨u2,hu2,rfl⟩:=nE hne 5 17
   exact af (cu e2 (C5 hu) (C5 hu2) (by first|(simp only[aG];omega)|(simp only[ByteArray.size_append,aG];omega))) ⟨rfl,bR⟩
  ·have e2:=aP ho 19 ( .move (.tmp 4))
   exact EU (.inl e2) (hfx _ (mG (i:=2) rfl)) ⟨rfl,bR⟩
  ·have e2:=aP ho 20 ( .binOp .add 9 (.tmp 18) (.tmp 19) 9)
   obtain⟨u,hu,rfl⟩:=nE hne 6 18
   obtain⟨u2,hu2,rfl⟩:=nE hne 7 19
   exact af (cu e2 (C5 hu) (C5 hu2) (by first|(simp only[aG];omega)|(simp only[ByteArray.size_append,aG];omega))) ⟨rfl,bR⟩
  ·have e2:=aP ho 21 ( .call {callee:= .value (.func 11),args:=#[.tmp 12, .tmp 20],argTypes:=#[24,9]})
   obtain⟨u,hu,rfl⟩:=nE hne 0 12
   obtain⟨u2,hu2,rfl⟩:=nE hne 8 20
   have hr:=az (w:=w') e2 (show(#[Operand.tmp 12, .tmp 20]:Array Operand).map a.eval=#[.agg cv, .string (id++ob q 4++ob 32896 2++en)]from by simp[C5 hu,C5 hu2]) (rI (P:=ac true Tryd.prog) Lf.func11 _)
   exact .inr ⟨_,_,hr.1,(nm KS hKl hKw cv (id++ob q 4++ob 32896 2++en) w' (hC.mono hb) (by first|(simp only[aG];omega)|(simp only[ByteArray.size_append,aG];omega))).mono λe w'' h=>⟨_,h.1,congrArg Value.string hX.symm,h.2⟩⟩
  ·have e2:=aP ho 11 ( .assign (.tmp 21))
   obtain⟨u,hu,hG⟩:=nE hne 9 21
   exact EU (.inr e2) hu ⟨hG,bR⟩
 ·obtain⟨u,hu,hu2⟩:=hG.come 10 11 rfl trivial
  obtain rfl:=hu2
  exact⟨rfl,hG.old,hG.base.more hu⟩
 ·exact absurd (gA ho).1 (by obtain⟨rfl,_⟩:=hS;decide)
 ·exact next a w' hS.2
def J4(cv:Array Value)(id al Xn:ByteArray)(q b6 h H2:Nat):Nat->Value->World->Prop
 |0,v,_=>v= .agg cv
 |1,v,_=>v= .string id
 |2,v,_=>v= .pointer (some ⟨b6,2,none⟩)
 |3,v,_=>v= .int .i64 h
 |4,v,_=>v= .int .i64 (H2:Int)
 |5,v,_=>v= .int .i64 q
 |6,v,_=>v= .int .i64 ((H2+q:Nat):Int)
 |7,v,_=>v= .string (ob (H2+q) 4)
 |8,v,_=>v= .string (id++ob (H2+q) 4)
 |9,v,_=>v= .string (ob 33410 2)
 |10,v,_=>v= .string (id++ob (H2+q) 4++ob 33410 2)
 |11,v,_=>v= .string al
 |12,v,_=>v= .string (id++ob (H2+q) 4++ob 33410 2++al)
 |13,v,_=>v= .string Xn
 |_,v,_=>v= .string Xn
theorem Bn{cv:Array Value}{id al Xn:ByteArray}{q b6 h H2:Nat}(k:Nat)(v:Value)(w w':World)(hg:J4 cv id al Xn q b6 h H2 k v w):J4 cv id al Xn q b6 h H2 k v w':=by
 match k,hg with
 |0,hg|1,hg|2,hg|3,hg|4,hg|5,hg|6,hg|7,hg|8,hg|9,hg|10,hg|11,hg|12,hg|13,hg|_+14,hg=>exact hg
theorem Gg{KS:List Int}(hKl:KS.length=64)(hKw:l7 KS){cv:Array Value}{id al Xn:ByteArray}{q b5 b6 h H2 wd n sh:Nat}{t c:Int}(hX:Xn=⟨(fk KS (id++ob (H2+q) 4++ob 33410 2++al).data.toList).toArray⟩)(hH2:H2=2^h)(hh8:h<=8)(h2h:H2<=256)(hq:q<4294967296)(hlen:id.size+6+al.size<=140737488355328){w:World}(hC:rM KS cv w)(hbox:w.heap[b5]?=some (.cells cv 24))(hkd:w.heap[b6]?=some (.cells (aL t c h wd n sh) 38)){fr:Frame}{Goal:Goroutine->World->Prop}{cs:List Frame}{K:List Item}{a:Act}
 (hF:aM [(2, .string id),(3, .int .i64 q),(5, .pt b5),(6, .pt b6),(11, .string al)] 36 [] a)
 (next:∀a w',(Below w.heap.size w w'/\aM [(10, .string Xn),(2, .string id),(3, .int .i64 q),(5, .pt b5),(6, .pt b6),(11, .string al)] 36 [] a)->Rn (ac true Tryd.prog) Goal (fr.atR a K) cs w'):
 Rn (ac true Tryd.prog) Goal (fr.atR a (.code (.region 2 (ae Tryd.f37 2) true)::K)) cs w:=by
 refine Rn.grows (fx:=[(2, .string id),(3, .int .i64 q),(5, .pt b5),(6, .pt b6),(11, .string al)]) (ds:=[22,23,24,25,26,27,28,29,30,31,32,33,34,35,10]) (N:=36) (df:=[]) (G:=J4 cv id al Xn q b6 h H2) (by kernel_rfl) (by kernel_rfl) (λk v w w' hg _=>Bn k v w w' hg) (λm o a w' hm ho hb hfx hne=> ?_)
  (λm a w'=>m=15/\Below w.heap.size w w'/\aM [(10, .string Xn),(2, .string id),(3, .int .i64 q),(5, .pt b5),(6, .pt b6),(11, .string al)] 36 [] a) (λa w' hG=> ?_) (λm o a w' rest hm ho hS hgo=> ?_) (λa w' hS=> ?_) hF.defers hF.size (hF.all (by simp))
 ·have hlt:m<15:=hm
  rcases(by omega:m=0\/m=1\/m=2\/m=3\/m=4\/m=5\/m=6\/m=7\/m=8\/m=9\/m=10\/m=11\/m=12\/m=13\/m=14)with rfl|rfl|rfl|rfl|rfl|rfl|rfl|rfl|rfl|rfl|rfl|rfl|rfl|rfl|rfl
  ·have e2:=aP ho 22 ( .load 24 (.tmp 5))
   exact af (dI hC.two e2 (C5 (hfx _ (mG (i:=2) rfl))) ((hb.block _ (gA hbox).1).trans hbox)) ⟨rfl,bR⟩
  ·have e2:=aP ho 23 ( .move (.tmp 2))
   exact EU (.inl e2) (hfx _ (mG (i:=0) rfl)) ⟨rfl,bR⟩
  ·have e2:=aP ho 24 ( .fieldAddr 38 (.tmp 6) 2)
   exact af (bX 2 (by decide) e2 (C5 (hfx _ (mG (i:=3) rfl)))) ⟨rfl,bR⟩
  ·have e2:=aP ho 25 ( .load 3 (.tmp 24))
   obtain⟨u,hu,rfl⟩:=nE hne 2 24
   exact af (ay aQ e2 (C5 hu) ((am ((hb.block _ (gA hkd).1).trans hkd) 2).trans rfl)).1 ⟨rfl,bR⟩
  ·have e2:=aP ho 26 ( .binOp .shl 3 (.const (.int .i64 1)) (.tmp 25) 3)
   obtain⟨u,hu,rfl⟩:=nE hne 3 25
   have hp:(1:Int)*2^h=(H2:Int):=by rw[Int.one_mul,hH2,Int.natCast_pow];rfl
   refine af (ji (m:=1) (k:=h) e2 rfl (C5 hu) (by omega) (by rw[hp];omega)) ⟨?_,bR⟩
   rw[hp]
   rfl
  ·have e2:=aP ho 27 ( .move (.tmp 3))
   exact EU (.inl e2) (hfx _ (mG (i:=1) rfl)) ⟨rfl,bR⟩
  ·have e2:=aP ho 28 ( .binOp .add 3 (.tmp 26) (.tmp 27) 3)
   obtain⟨u,hu,rfl⟩:=nE hne 4 26
   obtain⟨u2,hu2,rfl⟩:=nE hne 5 27
   refine af (da e2 (C5 hu) (C5 hu2) (by omega)) ⟨?_,bR⟩
   rw[←Int.natCast_add]
   rfl
  ·have e2:=aP ho 29 ( .call {callee:= .value (.func 21),args:=#[.tmp 28, .const (.int .i64 4)],argTypes:=#[3,3]})
   obtain⟨u,hu,rfl⟩:=nE hne 6 28
   have hr:=az (w:=w') e2 (show(#[Operand.tmp 28, .const (.int .i64 4)]:Array Operand).map a.eval=#[.int .i64 ((H2+q:Nat):Int), .int .i64 ((4:Nat):Int)]from by simp[C5 hu];rfl) (rI (P:=ac true Tryd.prog) Lf.func21 _)
   exact .inr ⟨_,_,hr.1,(dK (H2+q) 4 w' (by decide) (by omega)).mono λe w'' h=>⟨_,h.1,rfl,h.2⟩⟩
  ·have e2:=aP ho 30 ( .binOp .add 9 (.tmp 23) (.tmp 29) 9)
   obtain⟨u,hu,rfl⟩:=nE hne 1 23
   obtain⟨u2,hu2,rfl⟩:=nE hne 7 29
   exact af (cu e2 (C5 hu) (C5 hu2) (by first|(simp only[aG];omega)|(simp only[ByteArray.size_append,aG];omega))) ⟨rfl,bR⟩
  ·have e2:=aP ho 31 ( .call {callee:= .value (.func 21),args:=#[.const (.int .i64 33410), .const (.int .i64 2)],argTypes:=#[3,3]})
   have hr:=az (w:=w') e2 (show(#[Operand.const (.int .i64 33410), .const (.int .i64 2)]:Array Operand).map a.eval=#[.int .i64 ((33410:Nat):Int), .int .i64 ((2:Nat):Int)]from by simp;exact⟨rfl,rfl⟩) (rI (P:=ac true Tryd.prog) Lf.func21 _)
   exact .inr ⟨_,_,hr.1,(dK 33410 2 w' (by decide) (by decide)).mono λe w'' h=>⟨_,h.1,rfl,h.2⟩⟩
  ·have e2:=aP ho 32 ( .binOp .add 9 (.tmp 30) (.tmp 31) 9)
   obtain⟨u,hu,rfl⟩:=nE hne 8 30
   obtain⟨u2,hu2,rfl⟩:=nE hne 9 31
   exact af (cu e2 (C5 hu) (C5 hu2) (by first|(simp only[aG];omega)|(simp only[ByteArray.size_append,aG];omega))) ⟨rfl,bR⟩
  ·have e2:=aP ho 33 ( .move (.tmp 11))
   exact EU (.inl e2) (hfx _ (mG (i:=4) rfl)) ⟨rfl,bR⟩
  ·have e2:=aP ho 34 ( .binOp .add 9 (.tmp 32) (.tmp 33) 9)
   obtain⟨u,hu,rfl⟩:=nE hne 10 32
   obtain⟨u2,hu2,rfl⟩:=nE hne 11 33
   exact af (cu e2 (C5 hu) (C5 hu2) (by first|(simp only[aG];omega)|(simp only[ByteArray.size_append,aG];omega))) ⟨rfl,bR⟩
  ·have e2:=aP ho 35 ( .call {callee:= .value (.func 11),args:=#[.tmp 22, .tmp 34],argTypes:=#[24,9]})
   obtain⟨u,hu,rfl⟩:=nE hne 0 22
   obtain⟨u2,hu2,rfl⟩:=nE hne 12 34
   have hr:=az (w:=w') e2 (show(#[Operand.tmp 22, .tmp 34]:Array Operand).map a.eval=#[.agg cv, .string (id++ob (H2+q) 4++ob 33410 2++al)]from by simp[C5 hu,C5 hu2]) (rI (P:=ac true Tryd.prog) Lf.func11 _)
   exact .inr ⟨_,_,hr.1,(nm KS hKl hKw cv (id++ob (H2+q) 4++ob 33410 2++al) w' (hC.mono hb) (by first|(simp only[aG];omega)|(simp only[ByteArray.size_append,aG];omega))).mono λe w'' h=>⟨_,h.1,congrArg Value.string hX.symm,h.2⟩⟩
  ·have e2:=aP ho 10 ( .assign (.tmp 35))
   obtain⟨u,hu,hG⟩:=nE hne 13 35
   exact EU (.inr e2) hu ⟨hG,bR⟩
 ·obtain⟨u,hu,hu2⟩:=hG.come 14 10 rfl trivial
  obtain rfl:=hu2
  exact⟨rfl,hG.old,hG.base.more hu⟩
 ·exact absurd (gA ho).1 (by obtain⟨rfl,_⟩:=hS;decide)
 ·exact next a w' hS.2
theorem Iz:Tryd.f37.body=some (.seq (.region 0 (ae Tryd.f37 0) false) (.seq (.region 1 (ae Tryd.f37 1) true) (.seq (.region 2 (ae Tryd.f37 2) true) .ret))):=by kernel_rfl
theorem Dq{KS:List Int}(hKl:KS.length=64)(hKw:l7 KS){cv:Array Value}(id en:ByteArray)(q h wd n sh:Nat)(t c:Int)(hh:h<=8)(hq:q<4294967296)(hlen:id.size+100+en.size<=140737488355328)(w:World)(hC:rM KS cv w):
 Calls (ac true Tryd.prog) 37 #[.agg cv, .agg (aL t c h wd n sh), .string id, .int .i64 q, .string en] w λe w'=>e= .returned (.string (nY KS [id,ob (2^h+q) 4,ob 33410 2,nY KS [id,ob q 4,ob 32896 2,en]]))/\Below w.heap.size w w':=by
 refine bF (t:=10) Lf.func37 rfl λcs=> ?_
 rw[bW (N:=36) [.agg cv, .agg (aL t c h wd n sh), .string id, .int .i64 q, .string en] Lf.func37 Iz rfl]
 have hF:=bm [.agg cv, .agg (aL t c h wd n sh), .string id, .int .i64 q, .string en] 36 (by simp)
 have h2h:2^h<=256:=Nat.le_trans (Nat.pow_le_pow_right (by decide) hh) (by decide)
 refine Rn.p rfl (Rn.r (L:=[0,1,2]) rfl ?_)
 refine Rn.z hF 5 0 24 rfl λa hF=> ?_
 show Rn _ _ _ _ (w.alloc (.cells cv 24))
 refine Rn.z hF 6 1 38 rfl λa hF=> ?_
 rw[ak]at hF
 show Rn _ _ _ _ ((w.alloc (.cells cv 24)).alloc (.cells (aL t c h wd n sh) 38))
 have hb1:Below w.heap.size w ((w.alloc (.cells cv 24)).alloc (.cells (aL t c h wd n sh) 38)):=ah (an w _) (by rw[ak];omega) (an _ _)
 have h5:=(bH (w.alloc (.cells cv 24)) (.cells (aL t c h wd n sh) 38) (b:=w.heap.size) (by rw[ak];omega)).trans (aC w _)
 have h6:=aC (w.alloc (.cells cv 24)) (.cells (aL t c h wd n sh) 38)
 rw[ak]at h6
 revert hb1 h5 h6
 generalize (w.alloc (.cells cv 24)).alloc (.cells (aL t c h wd n sh) 38)=w1
 intro hb1 h5 h6
 refine Rn.c hF 10 (.string ⟨#[]⟩) λa hF=> ?_
 refine Rn.p rfl (Rn.p rfl ?_)
 refine Gh hKl hKw (vt KS id (ob q 4) (ob 32896 2) en) (by omega) (by omega) (hC.mono hb1) h5 (hF.only ⟨rfl,rfl,rfl,rfl,rfl,trivial⟩) λa w2 ⟨hb2,hF⟩=> ?_
 have hB2:Below w.heap.size w w2:=ah hb1 hb1.size hb2
 have h52:=(hb2.block _ (gA h5).1).trans h5
 have h62:=(hb2.block _ (gA h6).1).trans h6
 refine Rn.p rfl ?_
 refine Gg (h:=h) hKl hKw (vt KS id (ob (2^h+q) 4) (ob 33410 2) (nY KS [id,ob q 4,ob 32896 2,en])) rfl hh h2h hq (by rw[iv];omega) (hC.mono hB2) h52 h62 (hF.only ⟨rfl,rfl,rfl,rfl,rfl,trivial⟩) λa w3 ⟨hb3,hF⟩=> ?_
 exact Rn.ends rfl (.inr ⟨_,rfl⟩) (Rn.now ⟨a,_,_,rfl,hF.defers,hF.slot 10 _ rfl,rfl,ah hB2 hB2.size hb3⟩)
def KR(cv:Array Value)(id y Xn:ByteArray)(q i j:Nat):Nat->Value->World->Prop
 |0,v,_=>v= .agg cv
 |1,v,_=>v= .string id
 |2,v,_=>v= .int .i64 q
 |3,v,_=>v= .string (ob q 4)
 |4,v,_=>v= .string (id++ob q 4)
 |5,v,_=>v= .int .i64 i
 |6,v,_=>v= .string (ob i 2)
 |7,v,_=>v= .string (id++ob q 4++ob i 2)
 |8,v,_=>v= .int .i64 j
 |9,v,_=>v= .string (ob j 1)
 |10,v,_=>v= .string (id++ob q 4++ob i 2++ob j 1)
 |11,v,_=>v= .string y
 |12,v,_=>v= .string (id++ob q 4++ob i 2++ob j 1++y)
 |_,v,_=>v= .string Xn
theorem DI{cv:Array Value}{id y Xn:ByteArray}{q i j:Nat}(k:Nat)(v:Value)(w w':World)(hg:KR cv id y Xn q i j k v w):KR cv id y Xn q i j k v w':=by
 match k,hg with
 |0,hg|1,hg|2,hg|3,hg|4,hg|5,hg|6,hg|7,hg|8,hg|9,hg|10,hg|11,hg|12,hg|_+13,hg=>exact hg
theorem Ia{KS:List Int}(hKl:KS.length=64)(hKw:l7 KS){cv:Array Value}{id y Xn:ByteArray}{q i j tp b7:Nat}(hX:Xn=⟨(fk KS (id++ob q 4++ob i 2++ob j 1++y).data.toList).toArray⟩)(hq:q<4294967296)(hi:i<65536)(hj:j<65536)(hlen:id.size+7+y.size<=140737488355328){w:World}(hC:rM KS cv w)(hbox:w.heap[b7]?=some (.cells cv 24)){fr:Frame}{Goal:Goroutine->World->Prop}{cs:List Frame}{K:List Item}{a:Act}
 (hF:aM [(1, .string id),(2, .int .i64 q),(3, .int .i64 i),(5, .int .i64 tp),(6, .string y),(7, .pt b7),(15, .int .i64 j)] 37 [] a)
 (next:∀a w',(Below w.heap.size w w'/\aM [(6, .string Xn),(1, .string id),(2, .int .i64 q),(3, .int .i64 i),(5, .int .i64 tp),(7, .pt b7),(15, .int .i64 j)] 37 [] a)->Rn (ac true Tryd.prog) Goal (fr.atR a K) cs w'):
 Rn (ac true Tryd.prog) Goal (fr.atR a (.code (.region 4 (ae Tryd.f36 4) true)::K)) cs w:=by
 refine Rn.grows (fx:=[(1, .string id),(2, .int .i64 q),(3, .int .i64 i),(5, .int .i64 tp),(6, .string y),(7, .pt b7),(15, .int .i64 j)]) (ds:=[22,23,24,25,26,27,28,29,30,31,32,33,34,35]) (N:=37) (df:=[]) (G:=KR cv id y Xn q i j) (by kernel_rfl) (by kernel_rfl) (λk v w w' hg _=>DI k v w w' hg) (λm o a w' hm ho hb hfx hne=> ?_)
  (λm a w'=>(m=14/\Below w.heap.size w w'/\aM [(35, .string Xn),(1, .string id),(2, .int .i64 q),(3, .int .i64 i),(5, .int .i64 tp),(7, .pt b7),(15, .int .i64 j)] 37 [] a)\/(m=15/\Below w.heap.size w w'/\aM [(6, .string Xn),(1, .string id),(2, .int .i64 q),(3, .int .i64 i),(5, .int .i64 tp),(7, .pt b7),(15, .int .i64 j)] 37 [] a)) (λa w' hG=> ?_) (λm o a w' rest hm ho hS hgo=> ?_) (λa w' hS=> ?_) hF.defers hF.size (hF.all (by simp))
 ·have hlt:m<14:=hm
  rcases(by omega:m=0\/m=1\/m=2\/m=3\/m=4\/m=5\/m=6\/m=7\/m=8\/m=9\/m=10\/m=11\/m=12\/m=13)with rfl|rfl|rfl|rfl|rfl|rfl|rfl|rfl|rfl|rfl|rfl|rfl|rfl|rfl
  ·have e2:=aP ho 22 ( .load 24 (.tmp 7))
   exact af (dI hC.two e2 (C5 (hfx _ (mG (i:=5) rfl))) ((hb.block _ (gA hbox).1).trans hbox)) ⟨rfl,bR⟩
  ·have e2:=aP ho 23 ( .move (.tmp 1))
   exact EU (.inl e2) (hfx _ (mG (i:=0) rfl)) ⟨rfl,bR⟩
  ·have e2:=aP ho 24 ( .move (.tmp 2))
   exact EU (.inl e2) (hfx _ (mG (i:=1) rfl)) ⟨rfl,bR⟩
  ·have e2:=aP ho 25 ( .call {callee:= .value (.func 21),args:=#[.tmp 24, .const (.int .i64 4)],argTypes:=#[3,3]})
   obtain⟨u,hu,rfl⟩:=nE hne 2 24
   have hr:=az (w:=w') e2 (show(#[Operand.tmp 24, .const (.int .i64 4)]:Array Operand).map a.eval=#[.int .i64 ((q:Nat):Int), .int .i64 ((4:Nat):Int)]from by simp[C5 hu];rfl) (rI (P:=ac true Tryd.prog) Lf.func21 _)
   exact .inr ⟨_,_,hr.1,(dK (q) 4 w' (by decide) (by omega)).mono λe w'' h=>⟨_,h.1,rfl,h.2⟩⟩
  ·have e2:=aP ho 26 ( .binOp .add 9 (.tmp 23) (.tmp 25) 9)
   obtain⟨u,hu,rfl⟩:=nE hne 1 23
   obtain⟨u2,hu2,rfl⟩:=nE hne 3 25
   exact af (cu e2 (C5 hu) (C5 hu2) (by first|(simp only[aG];omega)|(simp only[ByteArray.size_append,aG];omega))) ⟨rfl,bR⟩
  ·have e2:=aP ho 27 ( .move (.tmp 3))
   exact EU (.inl e2) (hfx _ (mG (i:=2) rfl)) ⟨rfl,bR⟩
  ·have e2:=aP ho 28 ( .call {callee:= .value (.func 21),args:=#[.tmp 27, .const (.int .i64 2)],argTypes:=#[3,3]})
   obtain⟨u,hu,rfl⟩:=nE hne 5 27
   have hr:=az (w:=w') e2 (show(#[Operand.tmp 27, .const (.int .i64 2)]:Array Operand).map a.eval=#[.int .i64 ((i:Nat):Int), .int .i64 ((2:Nat):Int)]from by simp[C5 hu];rfl) (rI (P:=ac true Tryd.prog) Lf.func21 _)
   exact .inr ⟨_,_,hr.1,(dK (i) 2 w' (by decide) (by omega)).mono λe w'' h=>⟨_,h.1,rfl,h.2⟩⟩
  ·have e2:=aP ho 29 ( .binOp .add 9 (.tmp 26) (.tmp 28) 9)
   obtain⟨u,hu,rfl⟩:=nE hne 4 26
   obtain⟨u2,hu2,rfl⟩:=nE hne 6 28
   exact af (cu e2 (C5 hu) (C5 hu2) (by first|(simp only[aG];omega)|(simp only[ByteArray.size_append,aG];omega))) ⟨rfl,bR⟩
  ·have e2:=aP ho 30 ( .move (.tmp 15))
   exact EU (.inl e2) (hfx _ (mG (i:=6) rfl)) ⟨rfl,bR⟩
  ·have e2:=aP ho 31 ( .call {callee:= .value (.func 21),args:=#[.tmp 30, .const (.int .i64 1)],argTypes:=#[3,3]})
   obtain⟨u,hu,rfl⟩:=nE hne 8 30
   have hr:=az (w:=w') e2 (show(#[Operand.tmp 30, .const (.int .i64 1)]:Array Operand).map a.eval=#[.int .i64 ((j:Nat):Int), .int .i64 ((1:Nat):Int)]from by simp[C5 hu];rfl) (rI (P:=ac true Tryd.prog) Lf.func21 _)
   exact .inr ⟨_,_,hr.1,(dK (j) 1 w' (by decide) (by omega)).mono λe w'' h=>⟨_,h.1,rfl,h.2⟩⟩
  ·have e2:=aP ho 32 ( .binOp .add 9 (.tmp 29) (.tmp 31) 9)
   obtain⟨u,hu,rfl⟩:=nE hne 7 29
   obtain⟨u2,hu2,rfl⟩:=nE hne 9 31
   exact af (cu e2 (C5 hu) (C5 hu2) (by first|(simp only[aG];omega)|(simp only[ByteArray.size_append,aG];omega))) ⟨rfl,bR⟩
  ·have e2:=aP ho 33 ( .move (.tmp 6))
   exact EU (.inl e2) (hfx _ (mG (i:=4) rfl)) ⟨rfl,bR⟩
  ·have e2:=aP ho 34 ( .binOp .add 9 (.tmp 32) (.tmp 33) 9)
   obtain⟨u,hu,rfl⟩:=nE hne 10 32
   obtain⟨u2,hu2,rfl⟩:=nE hne 11 33
   exact af (cu e2 (C5 hu) (C5 hu2) (by first|(simp only[aG];omega)|(simp only[ByteArray.size_append,aG];omega))) ⟨rfl,bR⟩
  ·have e2:=aP ho 35 ( .call {callee:= .value (.func 11),args:=#[.tmp 22, .tmp 34],argTypes:=#[24,9]})
   obtain⟨u,hu,rfl⟩:=nE hne 0 22
   obtain⟨u2,hu2,rfl⟩:=nE hne 12 34
   have hr:=az (w:=w') e2 (show(#[Operand.tmp 22, .tmp 34]:Array Operand).map a.eval=#[.agg cv, .string (id++ob q 4++ob i 2++ob j 1++y)]from by simp[C5 hu,C5 hu2]) (rI (P:=ac true Tryd.prog) Lf.func11 _)
   exact .inr ⟨_,_,hr.1,(nm KS hKl hKw cv (id++ob q 4++ob i 2++ob j 1++y) w' (hC.mono hb) (by first|(simp only[aG];omega)|(simp only[ByteArray.size_append,aG];omega))).mono λe w'' h=>⟨_,h.1,congrArg Value.string hX.symm,h.2⟩⟩
 ·obtain⟨u,hu,hu2⟩:=hG.come 13 35 rfl trivial
  obtain rfl:=hu2
  exact .inl ⟨rfl,hG.old,(hG.base.more hu).only ⟨rfl,rfl,rfl,rfl,rfl,rfl,rfl,trivial⟩⟩
 ·rcases hS with⟨rfl,hB,hF⟩|⟨rfl,_⟩
  ·exact Rn.s hF 6 35 rfl λa hF=>hgo a w' (.inr ⟨rfl,hB,hF.only ⟨rfl,rfl,rfl,rfl,rfl,rfl,rfl,trivial⟩⟩)
  ·exact absurd (gA ho).1 (by decide)
 ·rcases hS with⟨h,_⟩|⟨_,h⟩
  ·exact absurd h (by decide)
  ·exact next a w' h
def yl(f:Func):Code:= .seq (.seq (.region 2 (ae f 2) false) (.cond (.tmp 19) .skip (.exit 0))) (.seq (.block 1 (.region 4 (ae f 4) true)) (.region 3 (ae f 3) false))
theorem IA:Tryd.f36.body=some (.seq (.region 0 (ae Tryd.f36 0) false) (.seq (.seq (.region 1 (ae Tryd.f36 1) false) (.block 0 (.loop (yl Tryd.f36)))) (.seq (.region 5 (ae Tryd.f36 5) false) .ret))):=by kernel_rfl
def Dw(KS:List Int)(id:ByteArray)(q i:Nat):Nat->Nat->ByteArray->ByteArray
 |0,_,y=>y
 |n+1,j,y=>Dw KS id q i n (j+1) ⟨(fk KS (id++ob q 4++ob i 2++ob j 1++y).data.toList).toArray⟩
theorem FN{KS:List Int}(hKl:KS.length=64)(hKw:l7 KS){cv:Array Value}{id:ByteArray}{q i tp b7:Nat}(hq:q<4294967296)(hi:i<65536)(htp:tp<65536)(hid:id.size<=1000){w0:World}(hC:rM KS cv w0)(hbox:w0.heap[b7]?=some (.cells cv 24)){Goal:Goroutine->World->Prop}{fr:Frame}{cs:List Frame}{K:List Item}{Y:ByteArray}
 (next:∀a w,Below w0.heap.size w0 w->aM [(6, .string Y)] 37 [] a->Rn (ac true Tryd.prog) Goal (fr.atR a K) cs w):
 ∀(m j:Nat) (y:ByteArray) (a:Act) (w:World),tp- j=m->j<=65535->y.size=32->Dw KS id q i m j y=Y->Below w0.heap.size w0 w->aM [(1, .string id),(2, .int .i64 q),(3, .int .i64 i),(5, .int .i64 tp),(6, .string y),(7, .pt b7),(15, .int .i64 j)] 37 [] a->
  Rn (ac true Tryd.prog) Goal (fr.atR a (.code (yl Tryd.f36):: .inLoop (yl Tryd.f36):: .inBlock 0::K)) cs w:=by
 intro m
 induction m with
 |zero=>
  intro j y a w hm hj hy hY hB hF
  refine Rn.p rfl (Rn.p rfl (Rn.r (L:=[0,1,2]) rfl ?_))
  refine Rn.y hF 17 15 rfl λa hF=> ?_
  refine Rn.y hF 18 5 rfl λa hF=> ?_
  refine Rn.o hF 19 (.binOp .lss 3 (.tmp 17) (.tmp 18) 3) (λo ho=>(cQ ho (hF.get (d:=17) rfl) (hF.get (d:=18) rfl)).1) λa hF=> ?_
  refine Rn.p rfl (Rn.cond _ (hF.get (d:=19) rfl) ?_)
  rw[decide_eq_false (by omega)]
  have hY:y=Y:=hY
  exact Rn.p rfl (next a w hB (hF.only ⟨by rw[←hY];rfl,trivial⟩))
 |succ m ih=>
  intro j y a w hm hj hy hY hB hF
  refine Rn.p rfl (Rn.p rfl (Rn.r (L:=[0,1,2]) rfl ?_))
  refine Rn.y hF 17 15 rfl λa hF=> ?_
  refine Rn.y hF 18 5 rfl λa hF=> ?_
  refine Rn.o hF 19 (.binOp .lss 3 (.tmp 17) (.tmp 18) 3) (λo ho=>(cQ ho (hF.get (d:=17) rfl) (hF.get (d:=18) rfl)).1) λa hF=> ?_
  refine Rn.p rfl (Rn.cond _ (hF.get (d:=19) rfl) ?_)
  rw[decide_eq_true (by omega)]
  refine Rn.p rfl (Rn.p rfl (Rn.p rfl ?_))
  refine Ia (y:=y) (Xn:=⟨(fk KS (id++ob q 4++ob i 2++ob j 1++y).data.toList).toArray⟩) hKl hKw rfl hq hi (by omega) (by omega) (hC.mono hB) ((hB.block _ (gA hbox).1).trans hbox) (hF.only ⟨rfl,rfl,rfl,rfl,rfl,rfl,rfl,trivial⟩) λa w2 ⟨hb2,hF⟩=> ?_
  refine Rn.p rfl (Rn.r (L:=[0,1,2]) rfl ?_)
  refine Rn.y hF 20 15 rfl λa hF=> ?_
  refine Rn.o hF 21 (.binOp .add 3 (.tmp 20) (.const (.int .i64 1)) 3) (λo ho=>da (n:=1) ho (hF.get (d:=20) rfl) rfl (by omega)) λa hF=> ?_
  refine Rn.s hF 15 21 rfl λa hF=> ?_
  refine Rn.p rfl (Rn.p rfl (ih (j+1) _ a w2 (by omega) (by omega) (qE KS _) hY (ah hB hB.size hb2) (hF.only ⟨rfl,rfl,rfl,rfl,rfl,rfl, ?_,trivial⟩)))
  rw[Int.natCast_add]
  rfl
theorem Hu{KS:List Int}(hKl:KS.length=64)(hKw:l7 KS){cv:Array Value}(id y:ByteArray)(q i j tp:Nat)(hq:q<4294967296)(hi:i<65536)(hj:j<65536)(htp:tp<65536)(hid:id.size<=1000)(hy:y.size=32)(w:World)(hC:rM KS cv w):
 Calls (ac true Tryd.prog) 36 #[.agg cv, .string id, .int .i64 q, .int .i64 i, .int .i64 j, .int .i64 tp, .string y] w λe w'=>e= .returned (.string (Dw KS id q i (tp- j) j y))/\Below w.heap.size w w':=by
 refine bF (t:=14) Lf.func36 rfl λcs=> ?_
 rw[bW (N:=37) [.agg cv, .string id, .int .i64 q, .int .i64 i, .int .i64 j, .int .i64 tp, .string y] Lf.func36 IA rfl]
 have hF:=bm [.agg cv, .string id, .int .i64 q, .int .i64 i, .int .i64 j, .int .i64 tp, .string y] 37 (by simp)
 refine Rn.p rfl (Rn.r (L:=[0,1]) rfl ?_)
 refine Rn.z hF 7 0 24 rfl λa hF=> ?_
 show Rn _ _ _ _ (w.alloc (.cells cv 24))
 have hb1:=an w (.cells cv 24)
 have h7:=aC w (.cells cv 24)
 revert hb1 h7
 generalize w.alloc (.cells cv 24)=w1
 intro hb1 h7
 refine Rn.c hF 14 (.string ⟨#[]⟩) λa hF=> ?_
 refine Rn.p rfl (Rn.p rfl (Rn.p rfl (Rn.r (L:=[0,1]) rfl ?_)))
 refine Rn.y hF 16 4 rfl λa hF=> ?_
 refine Rn.s hF 15 16 rfl λa hF=> ?_
 refine Rn.p rfl (Rn.p rfl (Rn.p rfl ?_))
 refine FN (Y:=Dw KS id q i (tp- j) j y) hKl hKw hq hi htp hid (hC.mono hb1) h7 (λa w2 hB hF=> ?_) (tp- j) j y a w1 rfl (by omega) hy rfl (bR) (hF.only ⟨rfl,rfl,rfl,rfl,rfl,rfl,rfl,trivial⟩)
 refine Rn.p rfl (Rn.r (L:=[0,1]) rfl ?_)
 refine Rn.y hF 36 6 rfl λa hF=> ?_
 refine Rn.s hF 14 36 rfl λa hF=> ?_
 exact Rn.p rfl (Rn.ends rfl (.inr ⟨_,rfl⟩) (Rn.now ⟨a,_,_,rfl,hF.defers,hF.slot 14 _ rfl,rfl,ah hb1 hb1.size hB⟩))
def KN(b:ByteArray)(i wd H2:Nat):Nat->Value->World->Prop
 |0,v,_=>v= .string b
 |1,v,_=>v= .int .i64 i
 |2,v,_=>v= .int .i64 ((8/wd:Nat):Int)
 |3,v,_=>v= .int .i64 ((i/(8/wd):Nat):Int)
 |4,v,_=>v= .int .u8 ((b.data.toList.getD (i/(8/wd)) 0).toNat:Int)
 |5,v,_=>v= .int .i64 ((b.data.toList.getD (i/(8/wd)) 0).toNat:Int)
 |6,v,_=>v= .int .i64 wd
 |7,v,_=>v= .int .i64 ((8- wd:Nat):Int)
 |8,v,_=>v= .int .i64 i
 |9,v,_=>v= .int .i64 ((8/wd:Nat):Int)
 |10,v,_=>v= .int .i64 ((i%(8/wd):Nat):Int)
 |11,v,_=>v= .int .i64 wd
 |12,v,_=>v= .int .i64 ((i%(8/wd)*wd:Nat):Int)
 |13,v,_=>v= .int .i64 ((8- wd- i%(8/wd)*wd:Nat):Int)
 |14,v,_=>v= .int .i64 (((b.data.toList.getD (i/(8/wd)) 0).toNat/2^(8- wd- i%(8/wd)*wd):Nat):Int)
 |15,v,_=>v= .int .i64 wd
 |16,v,_=>v= .int .i64 (H2:Int)
 |17,v,_=>v= .int .i64 (ck wd)
 |18,v,_=>v= .int .i64 (cn b.data.toList wd i)
 |_,v,_=>v= .int .i64 (cn b.data.toList wd i)
theorem Dz{b:ByteArray}{i wd H2:Nat}(k:Nat)(v:Value)(w w':World)(hg:KN b i wd H2 k v w):KN b i wd H2 k v w':=by
 match k,hg with
 |0,hg|1,hg|2,hg|3,hg|4,hg|5,hg|6,hg|7,hg|8,hg|9,hg|10,hg|11,hg|12,hg|13,hg|14,hg|15,hg|16,hg|17,hg|18,hg|_+19,hg=>exact hg
theorem I6{b:ByteArray}{i wd H2:Nat}(hH2:H2=2^wd)(hH0:0<H2)(hw:pZ wd)(hi:i/(8/wd)<b.size)(hi2:i<1000000)(hper:0<8/wd)(hwd:wd<=8)(h2w:H2<=256)(h2t:ck wd=H2- 1)(hmul:i%(8/wd)*wd<=8- wd)(hx:(b.data.toList.getD (i/(8/wd)) 0).toNat<256){w:World}{fr:Frame}{Goal:Goroutine->World->Prop}{cs:List Frame}{K:List Item}{a:Act}
 (hF:aM [(0, .string b),(1, .int .i64 i),(2, .int .i64 wd),(7, .int .i64 ((8/wd:Nat):Int))] 29 [] a)
 (next:∀a w',(Below w.heap.size w w'/\aM [(6, .int .i64 (cn b.data.toList wd i)),(0, .string b),(1, .int .i64 i),(2, .int .i64 wd),(7, .int .i64 ((8/wd:Nat):Int))] 29 [] a)->Rn (ac true Tryd.prog) Goal (fr.atR a K) cs w'):
 Rn (ac true Tryd.prog) Goal (fr.atR a (.code (.region 2 (ae Tryd.f52 2) true)::K)) cs w:=by
 refine Rn.grows (fx:=[(0, .string b),(1, .int .i64 i),(2, .int .i64 wd),(7, .int .i64 ((8/wd:Nat):Int))]) (ds:=[10,11,12,13,14,15,16,17,18,19,20,21,22,23,24,25,26,27,28,6]) (N:=29) (df:=[]) (G:=KN b i wd H2) (by kernel_rfl) (by kernel_rfl) (λk v w w' hg _=>Dz k v w w' hg) (λm o a w' hm ho hb hfx hne=> ?_)
  (λm a w'=>m=20/\Below w.heap.size w w'/\aM [(6, .int .i64 (cn b.data.toList wd i)),(0, .string b),(1, .int .i64 i),(2, .int .i64 wd),(7, .int .i64 ((8/wd:Nat):Int))] 29 [] a) (λa w' hG=> ?_) (λm o a w' rest hm ho hS hgo=> ?_) (λa w' hS=> ?_) hF.defers hF.size (hF.all (by simp))
 ·have hlt:m<20:=hm
  rcases(by omega:m=0\/m=1\/m=2\/m=3\/m=4\/m=5\/m=6\/m=7\/m=8\/m=9\/m=10\/m=11\/m=12\/m=13\/m=14\/m=15\/m=16\/m=17\/m=18\/m=19)with rfl|rfl|rfl|rfl|rfl|rfl|rfl|rfl|rfl|rfl|rfl|rfl|rfl|rfl|rfl|rfl|rfl|rfl|rfl|rfl
  ·have e2:=aP ho 10 ( .move (.tmp 0))
   exact EU (.inl e2) (hfx _ (mG (i:=0) rfl)) ⟨rfl,bR⟩
  ·have e2:=aP ho 11 ( .move (.tmp 1))
   exact EU (.inl e2) (hfx _ (mG (i:=1) rfl)) ⟨rfl,bR⟩
  ·have e2:=aP ho 12 ( .move (.tmp 7))
   exact EU (.inl e2) (hfx _ (mG (i:=3) rfl)) ⟨rfl,bR⟩
  ·have e2:=aP ho 13 ( .binOp .quo 3 (.tmp 11) (.tmp 12) 3)
   obtain⟨u,hu,rfl⟩:=nE hne 1 11
   obtain⟨u2,hu2,rfl⟩:=nE hne 2 12
   exact af (uk e2 (C5 hu) (C5 hu2) hper (by omega)) ⟨rfl,bR⟩
  ·have e2:=aP ho 14 ( .index 9 (.tmp 10) (.tmp 13))
   obtain⟨u,hu,rfl⟩:=nE hne 0 10
   obtain⟨u2,hu2,rfl⟩:=nE hne 3 13
   refine af (vD e2 (C5 hu) (C5 hu2) hi) ⟨?_,bR⟩
   rw[zQ b _ hi]
   rfl
  ·have e2:=aP ho 15 ( .convert 5 3 (.tmp 14))
   obtain⟨u,hu,rfl⟩:=nE hne 4 14
   exact af (zp e2 (C5 hu)) ⟨rfl,bR⟩
  ·have e2:=aP ho 16 ( .move (.tmp 2))
   exact EU (.inl e2) (hfx _ (mG (i:=2) rfl)) ⟨rfl,bR⟩
  ·have e2:=aP ho 17 ( .binOp .sub 3 (.const (.int .i64 8)) (.tmp 16) 3)
   obtain⟨u,hu,rfl⟩:=nE hne 6 16
   refine af (jh (m:=8) e2 rfl (C5 hu) (by omega)) ⟨?_,bR⟩
   rw[show(8:Int)-(wd:Int)=((8- wd:Nat):Int)from by omega]
   rfl
  ·have e2:=aP ho 18 ( .move (.tmp 1))
   exact EU (.inl e2) (hfx _ (mG (i:=1) rfl)) ⟨rfl,bR⟩
  ·have e2:=aP ho 19 ( .move (.tmp 7))
   exact EU (.inl e2) (hfx _ (mG (i:=3) rfl)) ⟨rfl,bR⟩
  ·have e2:=aP ho 20 ( .binOp .rem 3 (.tmp 18) (.tmp 19) 3)
   obtain⟨u,hu,rfl⟩:=nE hne 8 18
   obtain⟨u2,hu2,rfl⟩:=nE hne 9 19
   exact af (FA e2 (C5 hu) (C5 hu2) hper) ⟨rfl,bR⟩
  ·have e2:=aP ho 21 ( .move (.tmp 2))
   exact EU (.inl e2) (hfx _ (mG (i:=2) rfl)) ⟨rfl,bR⟩
  ·have e2:=aP ho 22 ( .binOp .mul 3 (.tmp 20) (.tmp 21) 3)
   obtain⟨u,hu,rfl⟩:=nE hne 10 20
   obtain⟨u2,hu2,rfl⟩:=nE hne 11 21
   refine af ((dA e2 (C5 hu) (C5 hu2) (by rw[←Int.natCast_mul];omega)).1) ⟨?_,bR⟩
   rw[←Int.natCast_mul]
   rfl
  ·have e2:=aP ho 23 ( .binOp .sub 3 (.tmp 17) (.tmp 22) 3)
   obtain⟨u,hu,rfl⟩:=nE hne 7 17
   obtain⟨u2,hu2,rfl⟩:=nE hne 12 22
   refine af (jh e2 (C5 hu) (C5 hu2) (by omega)) ⟨?_,bR⟩
   rw[←Int.ofNat_sub hmul]
   rfl
  ·have e2:=aP ho 24 ( .binOp .shr 3 (.tmp 15) (.tmp 23) 3)
   obtain⟨u,hu,rfl⟩:=nE hne 5 15
   obtain⟨u2,hu2,rfl⟩:=nE hne 13 23
   refine af (CM (k:=8- wd- i%(8/wd)*wd) e2 (C5 hu) (C5 hu2) (by omega)) ⟨?_,bR⟩
   show _=_
   rw[Int.natCast_ediv,Int.natCast_pow]
   rfl
  ·have e2:=aP ho 25 ( .move (.tmp 2))
   exact EU (.inl e2) (hfx _ (mG (i:=2) rfl)) ⟨rfl,bR⟩
  ·have e2:=aP ho 26 ( .binOp .shl 3 (.const (.int .i64 1)) (.tmp 25) 3)
   obtain⟨u,hu,rfl⟩:=nE hne 15 25
   have hp:(1:Int)*2^wd=(H2:Int):=by rw[Int.one_mul,hH2,Int.natCast_pow];rfl
   refine af (ji (m:=1) (k:=wd) e2 rfl (C5 hu) (by omega) (by rw[hp];omega)) ⟨?_,bR⟩
   rw[hp]
   rfl
  ·have e2:=aP ho 27 ( .binOp .sub 3 (.tmp 26) (.const (.int .i64 1)) 3)
   obtain⟨u,hu,rfl⟩:=nE hne 16 26
   refine af (jh e2 (C5 hu) rfl (by omega)) ⟨?_,bR⟩
   have hp:(H2:Int)- 1=(ck wd:Int):=by omega
   rw[hp]
   rfl
  ·have e2:=aP ho 28 ( .binOp .and 3 (.tmp 24) (.tmp 27) 3)
   obtain⟨u,hu,rfl⟩:=nE hne 14 24
   obtain⟨u2,hu2,rfl⟩:=nE hne 17 27
   refine af (CV e2 (C5 hu) (C5 hu2)) ⟨?_,bR⟩
   rw[zX _ wd (Nat.lt_of_le_of_lt (Nat.div_le_self _ _) (by omega)) hw]
   rfl
  ·have e2:=aP ho 6 ( .assign (.tmp 28))
   obtain⟨u,hu,hG⟩:=nE hne 18 28
   exact EU (.inr e2) hu ⟨hG,bR⟩
 ·obtain⟨u,hu,hu2⟩:=hG.come 19 6 rfl trivial
  obtain rfl:=hu2
  exact⟨rfl,hG.old,hG.base.more hu⟩
 ·exact absurd (gA ho).1 (by obtain⟨rfl,_⟩:=hS;decide)
 ·exact next a w' hS.2
theorem Iu:Tryd.f52.body=some (.seq (.region 0 (ae Tryd.f52 0) false) (.seq (.region 1 (ae Tryd.f52 1) false) (.seq (.region 2 (ae Tryd.f52 2) true) .ret))):=by kernel_rfl
theorem tA(b:ByteArray)(i wd:Nat)(hw:pZ wd)(hi:i/(8/wd)<b.size)(hi2:i<1000000)(w:World):
 Calls (ac true Tryd.prog) 52 #[.string b, .int .i64 i, .int .i64 wd] w λe w'=>e= .returned (.int .i64 (cn b.data.toList wd i))/\Below w.heap.size w w':=by
 have hper:0<8/wd:=by rcases hw with rfl|rfl|rfl<;>decide
 have hmul:i%(8/wd)*wd<=8- wd:=by rcases hw with rfl|rfl|rfl<;>simp<;>omega
 refine bF (t:=6) Lf.func52 rfl λcs=> ?_
 rw[bW (N:=29) [.string b, .int .i64 i, .int .i64 wd] Lf.func52 Iu rfl]
 have hF:=bm [.string b, .int .i64 i, .int .i64 wd] 29 (by simp)
 refine Rn.p rfl (Rn.r (L:=[0]) rfl ?_)
 refine Rn.c hF 6 (.int .i64 0) λa hF=> ?_
 refine Rn.p rfl (Rn.p rfl (Rn.r (L:=[0,1,2]) rfl ?_))
 refine Rn.y hF 8 2 rfl λa hF=> ?_
 refine Rn.o hF 9 (.binOp .quo 3 (.const (.int .i64 8)) (.tmp 8) 3) (λo ho=>uk (m:=8) ho rfl (hF.get (d:=8) rfl) (by rcases hw with rfl|rfl|rfl<;>decide) (by decide)) λa hF=> ?_
 refine Rn.s hF 7 9 rfl λa hF=> ?_
 refine Rn.p rfl (Rn.p rfl ?_)
 refine I6 (H2:=2^wd) rfl (Nat.two_pow_pos wd) hw hi hi2 hper (by rcases hw with rfl|rfl|rfl<;>decide) (by rcases hw with rfl|rfl|rfl<;>decide) rfl hmul (b.data.toList.getD (i/(8/wd)) 0).toNat_lt (hF.only ⟨rfl,rfl,rfl,rfl,trivial⟩) λa w' ⟨hb,hF⟩=> ?_
 exact Rn.ends rfl (.inr ⟨_,rfl⟩) (Rn.now ⟨a,_,_,rfl,hF.defers,hF.slot 6 _ rfl,rfl,hb⟩)
def Bz(f:Func):Code:= .seq (.seq (.region 4 (ae f 4) false) (.cond (.tmp 21) .skip (.exit 0))) (.seq (.block 1 (.seq (.region 6 (ae f 6) false) (.region 7 (ae f 7) false))) (.region 5 (ae f 5) false))
def I2(f:Func):Code:= .seq (.seq (.region 11 (ae f 11) false) (.cond (.tmp 44) .skip (.exit 2))) (.seq (.block 3 (.seq (.region 13 (ae f 13) false) (.region 14 (ae f 14) false))) (.region 12 (ae f 12) false))
theorem IC:Tryd.f34.body=some (.seq (.region 0 (ae Tryd.f34 0) false) (.seq (.region 1 (ae Tryd.f34 1) false) (.seq (.region 2 (ae Tryd.f34 2) false) (.seq (.seq (.region 3 (ae Tryd.f34 3) false) (.block 0 (.loop (Bz Tryd.f34))))
 (.seq (.region 8 (ae Tryd.f34 8) false) (.seq (.region 9 (ae Tryd.f34 9) false) (.seq (.seq (.region 10 (ae Tryd.f34 10) false) (.block 2 (.loop (I2 Tryd.f34)))) (.seq (.region 15 (ae Tryd.f34 15) false) .ret)))))))):=by kernel_rfl
section
variable{Q:ByteArray}{t c:Int}{h wd n sh N:Nat}{w0:World}{Goal:Goroutine->World->Prop}{fr:Frame}{cs:List Frame}{K:List Item}
theorem Bw(hw:pZ wd)(hQ:Q.size=32)(next:∀a w,Below w0.heap.size w0 w->aM [(1, .string Q),(2, .pt N),(6, .int .i64 (dk Q.data.toList wd (256/wd)))] 57 [] a->Rn (ac true Tryd.prog) Goal (fr.atR a K) cs w)(hkd:w0.heap[N]?=some (.cells (aL t c h wd n sh) 38)):
 ∀(m i:Nat) (a:Act) (w:World),256/wd- i=m->i<=256/wd->Below w0.heap.size w0 w->aM [(1, .string Q),(2, .pt N),(5, .int .i64 (ck wd)),(6, .int .i64 (dk Q.data.toList wd i)),(7, .int .i64 i)] 57 [] a->
  Rn (ac true Tryd.prog) Goal (fr.atR a (.code (Bz Tryd.f34):: .inLoop (Bz Tryd.f34):: .inBlock 0::K)) cs w:=by
 have hNlt:=(gA hkd).1
 have hwd0:0<wd:=by rcases hw with rfl|rfl|rfl<;>decide
 have htop:=mw hw
 have h128:256/wd<=128:=by rcases hw with rfl|rfl|rfl<;>decide
 have hhead:∀(i:Nat) (a:Act) (w:World) (R:List Nat),i<=256/wd->Below w0.heap.size w0 w->aM [(1, .string Q),(2, .pt N),(5, .int .i64 (ck wd)),(6, .int .i64 (dk Q.data.toList wd i)),(7, .int .i64 i)] 57 [] a->
  (∀a,aM [(21, .bool (decide ((i:Int)<((256/wd:Nat):Int)))),(1, .string Q),(2, .pt N),(5, .int .i64 (ck wd)),(6, .int .i64 (dk Q.data.toList wd i)),(7, .int .i64 i)] 57 [] a->Rn (ac true Tryd.prog) Goal (fr.atR a (.code (.cond (.tmp 21) .skip (.exit 0)):: .code (.seq (.block 1 (.seq (.region 6 (ae Tryd.f34 6) false) (.region 7 (ae Tryd.f34 7) false))) (.region 5 (ae Tryd.f34 5) false)):: .inLoop (Bz Tryd.f34):: .inBlock 0::K)) cs w)->
  Rn (ac true Tryd.prog) Goal (fr.atR a (.code (Bz Tryd.f34):: .inLoop (Bz Tryd.f34):: .inBlock 0::K)) cs w:=by
  intro i a w _ hi hB hF hnext
  have hkd':=(hB.block N hNlt).trans hkd
  refine Rn.p rfl (Rn.p rfl (Rn.r (L:=[0,1,2,3,4]) rfl ?_))
  refine Rn.y hF 17 7 rfl λa hF=> ?_
  refine Rn.o hF 18 (.fieldAddr 38 (.tmp 2) 3) (λo ho=>bX 3 (by decide) ho (hF.get (d:=2) rfl)) λa hF=> ?_
  refine Rn.o hF 19 (.load 3 (.tmp 18)) (λo ho=>(ay (v:= .int .i64 wd) aQ ho (hF.get (d:=18) rfl) ((am hkd' 3).trans rfl)).1) λa hF=> ?_
  refine Rn.o hF 20 (.binOp .quo 3 (.const (.int .i64 256)) (.tmp 19) 3) (λo ho=>uk (m:=256) ho rfl (hF.get (d:=19) rfl) hwd0 (by decide)) λa hF=> ?_
  refine Rn.o hF 21 (.binOp .lss 3 (.tmp 17) (.tmp 20) 3) (λo ho=>(cQ ho (hF.get (d:=17) rfl) (hF.get (d:=20) rfl)).1) λa hF=> ?_
  exact Rn.p rfl (hnext a (hF.only ⟨rfl,rfl,rfl,rfl,rfl,rfl,trivial⟩))
 intro m
 induction m with
 |zero=>
  intro i a w hm hi hB hF
  have hi2:i=256/wd:=by omega
  refine hhead i a w [] hi hB hF λa hF=> ?_
  refine Rn.cond _ (hF.get (d:=21) rfl) ?_
  rw[decide_eq_false (by omega)]
  exact Rn.p rfl (next a w hB (hF.only ⟨rfl,rfl,by rw[←hi2];rfl,trivial⟩))
 |succ m ih=>
  intro i a w hm hi hB hF
  have hlt:i<256/wd:=by omega
  refine hhead i a w [] hi hB hF λa hF=> ?_
  refine Rn.cond _ (hF.get (d:=21) rfl) ?_
  rw[decide_eq_true (by omega)]
  have hkd':=(hB.block N hNlt).trans hkd
  have hS:=nk Q.data.toList hw i
  have hdt:=nS Q.data.toList wd i
  have hdiv:i/(8/wd)<Q.size:=by rw[hQ];rcases hw with rfl|rfl|rfl<;>simp at hlt⊢<;>omega
  refine Rn.p rfl (Rn.p rfl (Rn.p rfl (Rn.p rfl (Rn.r (L:=[0,1,2,3,4,5]) rfl ?_))))
  refine Rn.y hF 24 1 rfl λa hF=> ?_
  refine Rn.y hF 25 7 rfl λa hF=> ?_
  refine Rn.o hF 26 (.fieldAddr 38 (.tmp 2) 3) (λo ho=>bX 3 (by decide) ho (hF.get (d:=2) rfl)) λa hF=> ?_
  refine Rn.o hF 27 (.load 3 (.tmp 26)) (λo ho=>(ay (v:= .int .i64 wd) aQ ho (hF.get (d:=26) rfl) ((am hkd' 3).trans rfl)).1) λa hF=> ?_
  refine Rn.calls (f:=52) (xs:=#[.tmp 24, .tmp 25, .tmp 27]) (ats:=#[9,3,3]) (args:=#[.string Q, .int .i64 i, .int .i64 wd]) hF 28 (by decide) (by kernel_rfl) (by simp[hF.get (d:=24) rfl,hF.get (d:=25) rfl,hF.get (d:=27) rfl]) Lf.func52 (by kernel_rfl) (by kernel_rfl)
   (R:=λv w'=>v= .int .i64 (cn Q.data.toList wd i)/\Below w.heap.size w w') ((tA Q i wd hw hdiv (by omega) w).mono λe w' h=>⟨_,h.1,rfl,h.2⟩) λv w2 hv a hF=> ?_
  obtain⟨rfl,hb2⟩:=hv
  refine Rn.s hF 8 28 rfl λa hF=> ?_
  refine Rn.p rfl (Rn.r (L:=[0,1,2,3,4,5]) rfl ?_)
  refine Rn.y hF 29 6 rfl λa hF=> ?_
  refine Rn.y hF 30 5 rfl λa hF=> ?_
  refine Rn.o hF 31 (.binOp .add 3 (.tmp 29) (.tmp 30) 3) (λo ho=>da ho (hF.get (d:=29) rfl) (hF.get (d:=30) rfl) (by omega)) λa hF=> ?_
  refine Rn.y hF 32 8 rfl λa hF=> ?_
  refine Rn.o hF 33 (.binOp .sub 3 (.tmp 31) (.tmp 32) 3) (λo ho=>jh ho (hF.get (d:=31) rfl) (hF.get (d:=32) rfl) (by omega)) λa hF=> ?_
  rw[show(dk Q.data.toList wd i:Int)+(ck wd:Int)-(cn Q.data.toList wd i:Int)=((dk Q.data.toList wd (i+1):Nat):Int)from by simp only[dk];omega]at hF
  refine Rn.s hF 6 33 rfl λa hF=> ?_
  refine Rn.p rfl (Rn.p rfl (Rn.r (L:=[0,1,2]) rfl ?_))
  refine Rn.y hF 22 7 rfl λa hF=> ?_
  refine Rn.o hF 23 (.binOp .add 3 (.tmp 22) (.const (.int .i64 1)) 3) (λo ho=>da (n:=1) ho (hF.get (d:=22) rfl) rfl (by omega)) λa hF=> ?_
  refine Rn.s hF 7 23 rfl λa hF=> ?_
  refine Rn.p rfl (Rn.p rfl (ih (i+1) a w2 (by omega) (by omega) (ah hB hB.size hb2) (hF.only ⟨rfl,rfl,rfl,rfl, ?_,trivial⟩)))
  rw[Int.natCast_add]
  rfl
theorem Bv{al:ByteArray}(hw:pZ wd)(hal:al.size=34)(hn:n<=34*(8/wd))
 (next:∀a w v,Below w0.heap.size w0 w->w.ownsRow w0.heap.size 3 1 v n (jV al wd n)->aM [(10,v)] 57 [] a->Rn (ac true Tryd.prog) Goal (fr.atR a K) cs w):
 ∀(m i:Nat) (v:Value) (a:Act) (w:World),n- i=m->i<=n->Below w0.heap.size w0 w->w.heap[N]?=some (.cells (aL t c h wd n sh) 38)->w.ownsRow w0.heap.size 3 1 v i (jV al wd i)->aM [(2, .pt N),(9, .string al),(10,v),(11, .int .i64 i)] 57 [] a->
  Rn (ac true Tryd.prog) Goal (fr.atR a (.code (I2 Tryd.f34):: .inLoop (I2 Tryd.f34):: .inBlock 2::K)) cs w:=by
 have hper:8/wd<=4:=by rcases hw with rfl|rfl|rfl<;>decide
 have hn136:n<=136:=Nat.le_trans hn (Nat.le_trans (Nat.mul_le_mul_left 34 hper) (by decide))
 intro m
 induction m with
 |zero=>
  intro i v a w hm hi hB hk hown hF
  have hin:i=n:=by omega
  subst hin
  refine Rn.p rfl (Rn.p rfl (Rn.r (L:=[0,1,2,3]) rfl ?_))
  refine Rn.y hF 41 11 rfl λa hF=> ?_
  refine Rn.o hF 42 (.fieldAddr 38 (.tmp 2) 4) (λo ho=>bX 4 (by decide) ho (hF.get (d:=2) rfl)) λa hF=> ?_
  refine Rn.o hF 43 (.load 3 (.tmp 42)) (λo ho=>(ay (v:= .int .i64 i) aQ ho (hF.get (d:=42) rfl) ((am hk 4).trans rfl)).1) λa hF=> ?_
  refine Rn.o hF 44 (.binOp .lss 3 (.tmp 41) (.tmp 43) 3) (λo ho=>(cQ ho (hF.get (d:=41) rfl) (hF.get (d:=43) rfl)).1) λa hF=> ?_
  refine Rn.p rfl (Rn.cond _ (hF.get (d:=44) rfl) ?_)
  rw[decide_eq_false (by omega)]
  exact Rn.p rfl (next a w v hB hown (hF.only ⟨rfl,trivial⟩))
 |succ m ih=>
  intro i v a w hm hi hB hk hown hF
  have hin:i<n:=by omega
  have hdiv:i/(8/wd)<al.size:=by
   rw[hal]
   rcases hw with rfl|rfl|rfl<;>simp at hn⊢<;>omega
  refine Rn.p rfl (Rn.p rfl (Rn.r (L:=[0,1,2,3]) rfl ?_))
  refine Rn.y hF 41 11 rfl λa hF=> ?_
  refine Rn.o hF 42 (.fieldAddr 38 (.tmp 2) 4) (λo ho=>bX 4 (by decide) ho (hF.get (d:=2) rfl)) λa hF=> ?_
  refine Rn.o hF 43 (.load 3 (.tmp 42)) (λo ho=>(ay (v:= .int .i64 n) aQ ho (hF.get (d:=42) rfl) ((am hk 4).trans rfl)).1) λa hF=> ?_
  refine Rn.o hF 44 (.binOp .lss 3 (.tmp 41) (.tmp 43) 3) (λo ho=>(cQ ho (hF.get (d:=41) rfl) (hF.get (d:=43) rfl)).1) λa hF=> ?_
  refine Rn.p rfl (Rn.cond _ (hF.get (d:=44) rfl) ?_)
  rw[decide_eq_true (by omega)]
  refine Rn.p rfl (Rn.p rfl (Rn.p rfl (Rn.p rfl (Rn.r (L:=[0,1,2,3,4,5]) rfl ?_))))
  refine Rn.y hF 47 9 rfl λa hF=> ?_
  refine Rn.y hF 48 11 rfl λa hF=> ?_
  refine Rn.o hF 49 (.fieldAddr 38 (.tmp 2) 3) (λo ho=>bX 3 (by decide) ho (hF.get (d:=2) rfl)) λa hF=> ?_
  refine Rn.o hF 50 (.load 3 (.tmp 49)) (λo ho=>(ay (v:= .int .i64 wd) aQ ho (hF.get (d:=49) rfl) ((am hk 3).trans rfl)).1) λa hF=> ?_
  refine Rn.calls (f:=52) (xs:=#[.tmp 47, .tmp 48, .tmp 50]) (ats:=#[9,3,3]) (args:=#[.string al, .int .i64 i, .int .i64 wd]) hF 51 (by decide) (by kernel_rfl) (by simp[hF.get (d:=47) rfl,hF.get (d:=48) rfl,hF.get (d:=50) rfl]) Lf.func52 (by kernel_rfl) (by kernel_rfl)
   (R:=λv w'=>v= .int .i64 (cn al.data.toList wd i)/\Below w.heap.size w w') ((tA al i wd hw hdiv (by omega) w).mono λe w' h=>⟨_,h.1,rfl,h.2⟩) λu w2 hv a hF=> ?_
  obtain⟨rfl,hb2⟩:=hv
  have hk2:=(hb2.block N (gA hk).1).trans hk
  have hown2:=gq hown λk hk=>hb2.block k (hown.lt k hk).2
  have hB2:Below w0.heap.size w0 w2:=ah hB hB.size hb2
  clear hk hown hB hb2
  refine Rn.s hF 12 51 rfl λa hF=> ?_
  refine Rn.p rfl (Rn.r (L:=[0,1,2,3,4]) rfl ?_)
  refine Rn.y hF 52 10 rfl λa hF=> ?_
  refine Rn.y hF 53 12 rfl λa hF=> ?_
  refine Rn.o hF 54 (.buildSlice 22 1 #[(0, .tmp 53)]) (λo ho=>CO ho (hF.get (d:=53) rfl)) λa hF=> ?_
  have hb3:=an w2 (.cells #[.int .i64 (cn al.data.toList wd i)] 3)
  have hnew:=aC w2 (.cells #[.int .i64 (cn al.data.toList wd i)] 3)
  have hk3:=(hb3.block N (gA hk2).1).trans hk2
  have hown3:(w2.alloc (.cells #[.int .i64 (cn al.data.toList wd i)] 3)).ownsRow w0.heap.size 3 1 v i (jV al wd i):=gq hown2 λk hk=>hb3.block k (hown2.lt k hk).2
  have hB3:Below w0.heap.size w0 (w2.alloc (.cells #[.int .i64 (cn al.data.toList wd i)] 3)):=ah hB2 hB2.size hb3
  obtain⟨ti,hti,hz,hsz,hby⟩:=wn
  have happ:=λty=>run_append_own (P:=ac true Tryd.prog) (w2.alloc (.cells #[.int .i64 (cn al.data.toList wd i)] 3)) w0.heap.size 22 ty 3 ti (.int .i64 0) 1 8 (by kernel_rfl) hti hz hsz hby rfl (by decide) v i _ hown3 ⟨w2.heap.size,0,none⟩ 1 1 [.int .i64 (cn al.data.toList wd i)] rfl
   (λj u hj=>by
     have hj0:j=0:=by have:=(List.getElem?_eq_some_iff.1 hj).1;simp at this;omega
     subst hj0
     cases hj
     rw[nb,am hnew]
     rfl) (λu hu=>by simp at hu;subst hu;rfl) (by simp only[maxLen];omega) (by omega) hB3.size
  cases ho:(ae Tryd.f34 14)[3]? with
  |none=>exact absurd ho (by simp;decide)
  |some o=>
  obtain⟨e1,e2,e3⟩:=aJ (d:=some 55) (p:= .call {callee:= .builtin .append,args:=#[.tmp 52, .tmp 54],argTypes:=#[22,22]}) ho (by kernel_rfl)
  obtain⟨v',w3,hrun,hown4,hgr,_⟩:=happ o.type
  have hr:(execOp a.eval o).run (ac true Tryd.prog) (w2.alloc (.cells #[.int .i64 (cn al.data.toList wd i)] 3))= .ok (.value v') w3:=by
   have x8:=hF.get (d:=52) rfl
   have x10:=hF.get (d:=54) rfl
   simp[execOp,e2,resolve,x8,x10,invoke,builtin,hrun]
  refine Rn.ran ho (e3 _) (by rw[e2];simp) hr ?_
  rw[e1]
  have hF:=hF.put (d:=55) (by decide) v'
  revert hF
  generalize a.put (some 55) v'=a
  intro hF
  have q2:=kw hown3 hk3 (by intro cur q;cases q)
  have hk4:=(hgr.block N (gA hk3).1 q2).trans hk3
  have hB4:Below w0.heap.size w0 w3:=pA hB3 hgr (λk hk=>(hown3.lt k hk).1) hB3.size
  refine Rn.s hF 10 55 rfl λa hF=> ?_
  refine Rn.p rfl (Rn.p rfl (Rn.r (L:=[0,1,2]) rfl ?_))
  refine Rn.y hF 45 11 rfl λa hF=> ?_
  refine Rn.o hF 46 (.binOp .add 3 (.tmp 45) (.const (.int .i64 1)) 3) (λo ho=>da (n:=1) ho (hF.get (d:=45) rfl) rfl (by omega)) λa hF=> ?_
  refine Rn.s hF 11 46 rfl λa hF=> ?_
  refine Rn.p rfl (Rn.p rfl (ih (i+1) v' a w3 (by omega) (by omega) hB4 hk4 ?_ (hF.only ⟨rfl,rfl,rfl, ?_,trivial⟩)))
  ·have e:jV al wd (i+1)=jV al wd i++[.int .i64 (cn al.data.toList wd i)]:=by simp[jV,List.range_succ]
   rw[e]
   exact hown4
  ·rw[Int.natCast_add]
   rfl
end
theorem G1(Q:ByteArray)(t c:Int)(h wd n sh:Nat)(w:World)(hw:pZ wd)(hsh:sh<=8)(hn1:1<=n)(hn2:n<=34*(8/wd))(hQ:Q.size=32):
 Calls (ac true Tryd.prog) 34 #[.agg (aL t c h wd n sh), .string Q] w λe w'=>∃v,e= .returned v/\j1 n (λc=>cn (iO Q.data.toList wd sh) wd c) v w'/\Below w.heap.size w w':=by
 refine bF (t:=4) Lf.func34 rfl λcs=> ?_
 rw[bW (N:=57) [.agg (aL t c h wd n sh), .string Q] Lf.func34 IC rfl]
 have hF:=bm [.agg (aL t c h wd n sh), .string Q] 57 (by simp)
 refine Rn.p rfl (Rn.r (L:=[0,1]) rfl ?_)
 refine Rn.z hF 2 0 38 rfl λa hF=> ?_
 show Rn _ _ _ _ (w.alloc (.cells (aL t c h wd n sh) 38))
 have hb1:=an w (.cells (aL t c h wd n sh) 38)
 have hkd:=aC w (.cells (aL t c h wd n sh) 38)
 revert hb1 hkd
 generalize w.alloc (.cells (aL t c h wd n sh) 38)=w1
 intro hb1 hkd
 have h2w:2^wd<=256:=by rcases hw with rfl|rfl|rfl<;>decide
 have hwd8:wd<=8:=by rcases hw with rfl|rfl|rfl<;>decide
 obtain⟨H2,hH2⟩:∃H2,H2=2^wd:=⟨_,rfl⟩
 have hp:(1:Int)*2^wd=(H2:Int):=by rw[Int.one_mul,hH2,Int.natCast_pow];rfl
 have h2t:ck wd=H2- 1:=by rw[hH2];rfl
 have hH0:0<H2:=by rw[hH2];exact Nat.two_pow_pos wd
 rw[←hH2]at h2w
 refine Rn.c hF 4 (.slice none 0 0) λa hF=> ?_
 refine Rn.p rfl (Rn.p rfl (Rn.r (L:=[0,1,2,3,4]) rfl ?_))
 refine Rn.o hF 13 (.fieldAddr 38 (.tmp 2) 3) (λo ho=>bX 3 (by decide) ho (hF.get (d:=2) rfl)) λa hF=> ?_
 refine Rn.o hF 14 (.load 3 (.tmp 13)) (λo ho=>(ay (v:= .int .i64 wd) aQ ho (hF.get (d:=13) rfl) ((am hkd 3).trans rfl)).1) λa hF=> ?_
 refine Rn.o hF 15 (.binOp .shl 3 (.const (.int .i64 1)) (.tmp 14) 3) (λo ho=>ji (m:=1) (k:=wd) ho rfl (hF.get (d:=14) rfl) (by omega) (by rw[hp];omega)) λa hF=> ?_
 rw[hp]at hF
 refine Rn.o hF 16 (.binOp .sub 3 (.tmp 15) (.const (.int .i64 1)) 3) (λo ho=>jh (n:=1) ho (hF.get (d:=15) rfl) rfl (by omega)) λa hF=> ?_
 rw[show(H2:Int)- 1=(ck wd:Int)from by omega]at hF
 refine Rn.s hF 5 16 rfl λa hF=> ?_
 refine Rn.p rfl (Rn.p rfl (Rn.r (L:=[0]) rfl ?_))
 refine Rn.c hF 6 (.int .i64 0) λa hF=> ?_
 refine Rn.p rfl (Rn.p rfl (Rn.p rfl (Rn.r (L:=[0]) rfl ?_)))
 refine Rn.c hF 7 (.int .i64 0) λa hF=> ?_
 refine Rn.p rfl (Rn.p rfl (Rn.p rfl ?_))
 refine Bw (w0:=w1) (N:=w.heap.size) hw hQ (λa w2 hB2 hF=> ?_) hkd (256/wd) 0 a w1 rfl (Nat.zero_le _) (bR) (hF.only ⟨rfl,rfl,rfl,rfl,rfl,trivial⟩)
 have hkd2:=(hB2.block _ (gA hkd).1).trans hkd
 have hS:=nk Q.data.toList hw (256/wd)
 have h128:256/wd<=128:=by rcases hw with rfl|rfl|rfl<;>decide
 have h2s:2^sh<=256:=Nat.le_trans (Nat.pow_le_pow_right (by decide) hsh) (by decide)
 have hmul:dk Q.data.toList wd (256/wd)*2^sh<=32640*256:=Nat.mul_le_mul (by omega) h2s
 have hcast:(dk Q.data.toList wd (256/wd):Int)*2^sh=((dk Q.data.toList wd (256/wd)*2^sh:Nat):Int):=by rw[Int.natCast_mul,Int.natCast_pow];rfl
 refine Rn.p rfl (Rn.r (L:=[0,1,2,3,4,5,6,7]) rfl ?_)
 refine Rn.y hF 34 1 rfl λa hF=> ?_
 refine Rn.y hF 35 6 rfl λa hF=> ?_
 refine Rn.o hF 36 (.fieldAddr 38 (.tmp 2) 5) (λo ho=>bX 5 (by decide) ho (hF.get (d:=2) rfl)) λa hF=> ?_
 refine Rn.o hF 37 (.load 3 (.tmp 36)) (λo ho=>(ay (v:= .int .i64 sh) aQ ho (hF.get (d:=36) rfl) ((am hkd2 5).trans rfl)).1) λa hF=> ?_
 refine Rn.o hF 38 (.binOp .shl 3 (.tmp 35) (.tmp 37) 3) (λo ho=>ji (k:=sh) ho (hF.get (d:=35) rfl) (hF.get (d:=37) rfl) (by omega) (by rw[hcast];omega)) λa hF=> ?_
 rw[hcast]at hF
 refine Rn.calls (f:=21) (xs:=#[.tmp 38, .const (.int .i64 2)]) (ats:=#[3,3]) (args:=#[.int .i64 ((dk Q.data.toList wd (256/wd)*2^sh:Nat):Int), .int .i64 ((2:Nat):Int)]) hF 39 (by decide) (by kernel_rfl) (by simp only[List.map_toArray,List.map_cons,List.map_nil,hF.get (d:=38) rfl];rfl) Lf.func21 (by kernel_rfl) (by kernel_rfl)
  (R:=λv w'=>v= .string (ob (dk Q.data.toList wd (256/wd)*2^sh) 2)/\Below w2.heap.size w2 w') ((dK _ 2 w2 (by decide) (by omega)).mono λe w' h=>⟨_,h.1,rfl,h.2⟩) λv w3 hv a hF=> ?_
 obtain⟨rfl,hb3⟩:=hv
 refine Rn.o hF 40 (.binOp .add 9 (.tmp 34) (.tmp 39) 9) (λo ho=>cu ho (hF.get (d:=34) rfl) (hF.get (d:=39) rfl) (by rw[hQ,aG];decide)) λa hF=> ?_
 refine Rn.s hF 9 40 rfl λa hF=> ?_
 have hB3:Below w.heap.size w w3:=ah (ah hb1 hb1.size hB2) (ah hb1 hb1.size hB2).size hb3
 have hkd3:=(hb3.block _ (gA hkd2).1).trans hkd2
 refine Rn.p rfl (Rn.p rfl (Rn.r (L:=[0]) rfl ?_))
 refine Rn.c hF 10 (.slice none 0 0) λa hF=> ?_
 refine Rn.p rfl (Rn.p rfl (Rn.p rfl (Rn.r (L:=[0]) rfl ?_)))
 refine Rn.c hF 11 (.int .i64 0) λa hF=> ?_
 refine Rn.p rfl (Rn.p rfl (Rn.p rfl ?_))
 have hsz:(Q++ob (dk Q.data.toList wd (256/wd)*2^sh) 2).size=34:=by rw[ByteArray.size_append,hQ,aG]
 have hlist:(Q++ob (dk Q.data.toList wd (256/wd)*2^sh) 2).data.toList=iO Q.data.toList wd sh:=by simp[iO,ob]
 refine Bv (w0:=w) (N:=w.heap.size) (al:=Q++ob (dk Q.data.toList wd (256/wd)*2^sh) 2) hw hsz hn2 (λa w4 v hB4 hown hF=> ?_) n 0 (.slice none 0 0) a w3 rfl (Nat.zero_le _) hB3 hkd3 (World.ownsRow_nil _ _ _ _) (hF.only ⟨rfl,rfl,rfl,rfl,trivial⟩)
 refine Rn.p rfl (Rn.r (L:=[0,1]) rfl ?_)
 refine Rn.y hF 56 10 rfl λa hF=> ?_
 refine Rn.s hF 4 56 rfl λa hF=> ?_
 refine Rn.p rfl (Rn.ends rfl (.inr ⟨_,rfl⟩) (Rn.now ⟨a,_,v,rfl,hF.defers,hF.slot 4 _ rfl,v,rfl, ?_,hB4⟩))
 rcases hown.2 with⟨_,h0⟩|⟨g,cap,cur,rfl,_,hg,hnc,_,hcs,htake⟩
 ·omega
 refine⟨g,cap,rfl,(gA hg).1,λc hc=> ?_⟩
 rw[am hg]
 have h1:(cur.toList.take (n*1))[c]?=(jV (Q++ob (dk Q.data.toList wd (256/wd)*2^sh) 2) wd n)[c]?:=by rw[htake]
 rw[List.getElem?_take_of_lt (by omega)]at h1
 rw[←Array.getElem?_toList,h1,←hlist]
 simp[jV,hc]
def J7(cv:Array Value)(id salt msg Qb:ByteArray)(q h wd n sh:Nat)(t c:Int):Nat->Value->World->Prop
 |0,v,_=>v= .agg (aL t c h wd n sh)
 |1,v,_=>v= .agg cv
 |2,v,_=>v= .string id
 |3,v,_=>v= .int .i64 q
 |4,v,_=>v= .string salt
 |5,v,_=>v= .string msg
 |6,v,_=>v= .string Qb
 |7,v,w=>j1 n (λc=>cn (iO Qb.data.toList wd sh) wd c) v w
 |_,v,w=>j1 n (λc=>cn (iO Qb.data.toList wd sh) wd c) v w
theorem Br{cv:Array Value}{id salt msg Qb:ByteArray}{q h wd n sh:Nat}{t c:Int}(k:Nat)(v:Value)(w w':World)(hg:J7 cv id salt msg Qb q h wd n sh t c k v w)(hb:Below w.heap.size w w'):J7 cv id salt msg Qb q h wd n sh t c k v w':=by
 match k,hg with
 |0,hg|1,hg|2,hg|3,hg|4,hg|5,hg|6,hg=>exact hg
 |7,hg=>exact j1.mono hg hb
 |_+8,hg=>exact j1.mono hg hb
theorem Gj{KS:List Int}(hKl:KS.length=64)(hKw:l7 KS){cv:Array Value}{id salt msg ys path Qb:ByteArray}{q b8 b9 h wd n sh:Nat}{t c:Int}(hQb:Qb=nY KS [id,ob q 4,ob 33153 2,salt,msg])(hw:pZ wd)(hsh:sh<=8)(hn1:1<=n)(hn2:n<=34*(8/wd))(hq:q<4294967296)(hlen:id.size+6+salt.size+msg.size<=140737488355328){w:World}(hC:rM KS cv w)(hbox:w.heap[b8]?=some (.cells cv 24))(hkd:w.heap[b9]?=some (.cells (aL t c h wd n sh) 38)){fr:Frame}{Goal:Goroutine->World->Prop}{cs:List Frame}{K:List Item}{a:Act}
 (hF:aM [(2, .string id),(3, .int .i64 q),(4, .string salt),(5, .string msg),(6, .string ys),(7, .string path),(8, .pt b8),(9, .pt b9)] 106 [] a)
 (next:∀a w',(Below w.heap.size w w'/\∃v,j1 n (λc=>cn (iO Qb.data.toList wd sh) wd c) v w'/\aM [(17,v),(2, .string id),(3, .int .i64 q),(4, .string salt),(5, .string msg),(6, .string ys),(7, .string path),(8, .pt b8),(9, .pt b9)] 106 [] a)->Rn (ac true Tryd.prog) Goal (fr.atR a K) cs w'):
 Rn (ac true Tryd.prog) Goal (fr.atR a (.code (.region 1 (ae Tryd.f20 1) true)::K)) cs w:=by
 refine Rn.grows (fx:=[(2, .string id),(3, .int .i64 q),(4, .string salt),(5, .string msg),(6, .string ys),(7, .string path),(8, .pt b8),(9, .pt b9)]) (ds:=[25,26,27,28,29,30,31,32,17]) (N:=106) (df:=[]) (G:=J7 cv id salt msg Qb q h wd n sh t c) (by kernel_rfl) (by kernel_rfl) Br (λm o a w' hm ho hb hfx hne=> ?_)
  (λm a w'=>m=9/\Below w.heap.size w w'/\∃v,j1 n (λc=>cn (iO Qb.data.toList wd sh) wd c) v w'/\aM [(17,v),(2, .string id),(3, .int .i64 q),(4, .string salt),(5, .string msg),(6, .string ys),(7, .string path),(8, .pt b8),(9, .pt b9)] 106 [] a) (λa w' hG=> ?_) (λm o a w' rest hm ho hS hgo=> ?_) (λa w' hS=> ?_) hF.defers hF.size (hF.all (by simp))
 ·have hlt:m<9:=hm
  rcases(by omega:m=0\/m=1\/m=2\/m=3\/m=4\/m=5\/m=6\/m=7\/m=8)with rfl|rfl|rfl|rfl|rfl|rfl|rfl|rfl|rfl
  ·have e2:=aP ho 25 ( .load 38 (.tmp 9))
   exact af (lV e2 (C5 (hfx _ (mG (i:=7) rfl))) ((hb.block _ (gA hkd).1).trans hkd)) ⟨rfl,bR⟩
  ·have e2:=aP ho 26 ( .load 24 (.tmp 8))
   exact af (dI hC.two e2 (C5 (hfx _ (mG (i:=6) rfl))) ((hb.block _ (gA hbox).1).trans hbox)) ⟨rfl,bR⟩
  ·have e2:=aP ho 27 ( .move (.tmp 2))
   exact EU (.inl e2) (hfx _ (mG (i:=0) rfl)) ⟨rfl,bR⟩
  ·have e2:=aP ho 28 ( .move (.tmp 3))
   exact EU (.inl e2) (hfx _ (mG (i:=1) rfl)) ⟨rfl,bR⟩
  ·have e2:=aP ho 29 ( .move (.tmp 4))
   exact EU (.inl e2) (hfx _ (mG (i:=2) rfl)) ⟨rfl,bR⟩
  ·have e2:=aP ho 30 ( .move (.tmp 5))
   exact EU (.inl e2) (hfx _ (mG (i:=3) rfl)) ⟨rfl,bR⟩
  ·have e2:=aP ho 31 ( .call {callee:= .value (.func 35),args:=#[.tmp 26, .tmp 27, .tmp 28, .tmp 29, .tmp 30],argTypes:=#[24,9,3,9,9]})
   obtain⟨u1,hu1,rfl⟩:=nE hne 1 26
   obtain⟨u2,hu2,rfl⟩:=nE hne 2 27
   obtain⟨u3,hu3,rfl⟩:=nE hne 3 28
   obtain⟨u4,hu4,rfl⟩:=nE hne 4 29
   obtain⟨u5,hu5,rfl⟩:=nE hne 5 30
   have hr:=az (w:=w') e2 (show(#[Operand.tmp 26, .tmp 27, .tmp 28, .tmp 29, .tmp 30]:Array Operand).map a.eval=#[.agg cv, .string id, .int .i64 q, .string salt, .string msg]from by simp[C5 hu1,C5 hu2,C5 hu3,C5 hu4,C5 hu5]) (rI (P:=ac true Tryd.prog) Lf.func35 _)
   exact .inr ⟨_,_,hr.1,(ut hKl hKw id salt msg q (by omega) hlen w' (hC.mono hb)).mono λe w'' h=>⟨_,h.1,congrArg Value.string hQb.symm,h.2⟩⟩
  ·have e2:=aP ho 32 ( .call {callee:= .value (.func 34),args:=#[.tmp 25, .tmp 31],argTypes:=#[38,9]})
   obtain⟨u,hu,rfl⟩:=nE hne 0 25
   obtain⟨u2,hu2,rfl⟩:=nE hne 6 31
   have hr:=az (w:=w') e2 (show(#[Operand.tmp 25, .tmp 31]:Array Operand).map a.eval=#[.agg (aL t c h wd n sh), .string Qb]from by simp[C5 hu,C5 hu2]) (rI (P:=ac true Tryd.prog) Lf.func34 _)
   exact .inr ⟨_,_,hr.1,G1 Qb t c h wd n sh w' hw hsh hn1 hn2 (by rw[hQb];exact iv _ _)⟩
  ·have e2:=aP ho 17 ( .assign (.tmp 32))
   obtain⟨u,hu,hG⟩:=nE hne 7 32
   exact EU (.inr e2) hu ⟨hG,bR⟩
 ·obtain⟨u,hu,hu2⟩:=hG.come 8 17 rfl trivial
  exact⟨rfl,hG.old,u,hu2,hG.base.more hu⟩
 ·exact absurd (gA ho).1 (by obtain⟨rfl,_⟩:=hS;decide)
 ·exact next a w' hS.2
def J6(cv:Array Value)(id ys Yn:ByteArray)(q i d gb cap n b9 wd H2:Nat):Nat->Value->World->Prop
 |0,v,_=>v= .agg cv
 |1,v,_=>v= .string id
 |2,v,_=>v= .int .i64 q
 |3,v,_=>v= .int .i64 i
 |4,v,_=>v= .slice (some ⟨gb,0,none⟩) n cap
 |5,v,_=>v= .int .i64 i
 |6,v,_=>v= .pointer (some ⟨gb,i,none⟩)
 |7,v,_=>v= .int .i64 (d:Int)
 |8,v,_=>v= .pointer (some ⟨b9,3,none⟩)
 |9,v,_=>v= .int .i64 wd
 |10,v,_=>v= .int .i64 (H2:Int)
 |11,v,_=>v= .int .i64 (ck wd)
 |12,v,_=>v= .string ys
 |13,v,_=>v= .int .i64 i
 |14,v,_=>v= .int .i64 ((32*i:Nat):Int)
 |15,v,_=>v= .int .i64 i
 |16,v,_=>v= .int .i64 ((32*i:Nat):Int)
 |17,v,_=>v= .int .i64 ((32*i+32:Nat):Int)
 |18,v,_=>v= .string (ys.extract (32*i) (32*i+32))
 |19,v,_=>v= .string Yn
 |_,v,_=>v= .string Yn
theorem Bq{cv:Array Value}{id ys Yn:ByteArray}{q i d gb cap n b9 wd H2:Nat}(k:Nat)(v:Value)(w w':World)(hg:J6 cv id ys Yn q i d gb cap n b9 wd H2 k v w):J6 cv id ys Yn q i d gb cap n b9 wd H2 k v w':=by
 match k,hg with
 |0,hg|1,hg|2,hg|3,hg|4,hg|5,hg|6,hg|7,hg|8,hg|9,hg|10,hg|11,hg|12,hg|13,hg|14,hg|15,hg|16,hg|17,hg|18,hg|19,hg|_+20,hg=>exact hg
theorem Gi{KS:List Int}(hKl:KS.length=64)(hKw:l7 KS){cv:Array Value}{id ys path en Yn:ByteArray}{q i d gb cap b8 b9 h wd n sh H2:Nat}{t c:Int}(hYn:Yn=Dw KS id q i (ck wd- d) d (ys.extract (32*i) (32*i+32)))(hH2:H2=2^wd)(hH0:0<H2)(h2w:H2<=256)(hwd8:wd<=8)(h2t:ck wd=H2- 1)(hin:i<n)(hn:n<=1000)(hd8:d<256)(hys:32*i+32<=ys.size)(hid:id.size<=1000)(hq:q<4294967296){w:World}(hgb:gb<w.heap.size)(hd:w.cell? ⟨gb,i,none⟩=some (.int .i64 (d:Int)))(hC:rM KS cv w)(hbox:w.heap[b8]?=some (.cells cv 24))(hkd:w.heap[b9]?=some (.cells (aL t c h wd n sh) 38)){fr:Frame}{Goal:Goroutine->World->Prop}{cs:List Frame}{K:List Item}{a:Act}
 (hF:aM [(2, .string id),(3, .int .i64 q),(6, .string ys),(8, .pt b8),(9, .pt b9),(17, .slice (some ⟨gb,0,none⟩) n cap),(19, .int .i64 i),(18, .string en),(7, .string path)] 106 [] a)
 (next:∀a w',(Below w.heap.size w w'/\aM [(20, .string Yn),(2, .string id),(3, .int .i64 q),(6, .string ys),(8, .pt b8),(9, .pt b9),(17, .slice (some ⟨gb,0,none⟩) n cap),(19, .int .i64 i),(18, .string en),(7, .string path)] 106 [] a)->Rn (ac true Tryd.prog) Goal (fr.atR a K) cs w'):
 Rn (ac true Tryd.prog) Goal (fr.atR a (.code (.region 6 (ae Tryd.f20 6) true)::K)) cs w:=by
 refine Rn.grows (fx:=[(2, .string id),(3, .int .i64 q),(6, .string ys),(8, .pt b8),(9, .pt b9),(17, .slice (some ⟨gb,0,none⟩) n cap),(19, .int .i64 i),(18, .string en),(7, .string path)]) (ds:=[39,40,41,42,43,44,45,46,47,48,49,50,51,52,53,54,55,56,57,58,20]) (N:=106) (df:=[]) (G:=J6 cv id ys Yn q i d gb cap n b9 wd H2) (by kernel_rfl) (by kernel_rfl) (λk v w w' hg _=>Bq k v w w' hg) (λm o a w' hm ho hb hfx hne=> ?_)
  (λm a w'=>m=21/\Below w.heap.size w w'/\aM [(20, .string Yn),(2, .string id),(3, .int .i64 q),(6, .string ys),(8, .pt b8),(9, .pt b9),(17, .slice (some ⟨gb,0,none⟩) n cap),(19, .int .i64 i),(18, .string en),(7, .string path)] 106 [] a) (λa w' hG=> ?_) (λm o a w' rest hm ho hS hgo=> ?_) (λa w' hS=> ?_) hF.defers hF.size (hF.all (by simp))
 ·have hlt:m<21:=hm
  rcases(by omega:m=0\/m=1\/m=2\/m=3\/m=4\/m=5\/m=6\/m=7\/m=8\/m=9\/m=10\/m=11\/m=12\/m=13\/m=14\/m=15\/m=16\/m=17\/m=18\/m=19\/m=20)with rfl|rfl|rfl|rfl|rfl|rfl|rfl|rfl|rfl|rfl|rfl|rfl|rfl|rfl|rfl|rfl|rfl|rfl|rfl|rfl|rfl
  ·have e2:=aP ho 39 ( .load 24 (.tmp 8))
   exact af (dI hC.two e2 (C5 (hfx _ (mG (i:=3) rfl))) ((hb.block _ (gA hbox).1).trans hbox)) ⟨rfl,bR⟩
  ·have e2:=aP ho 40 ( .move (.tmp 2))
   exact EU (.inl e2) (hfx _ (mG (i:=0) rfl)) ⟨rfl,bR⟩
  ·have e2:=aP ho 41 ( .move (.tmp 3))
   exact EU (.inl e2) (hfx _ (mG (i:=1) rfl)) ⟨rfl,bR⟩
  ·have e2:=aP ho 42 ( .move (.tmp 19))
   exact EU (.inl e2) (hfx _ (mG (i:=6) rfl)) ⟨rfl,bR⟩
  ·have e2:=aP ho 43 ( .move (.tmp 17))
   exact EU (.inl e2) (hfx _ (mG (i:=5) rfl)) ⟨rfl,bR⟩
  ·have e2:=aP ho 44 ( .move (.tmp 19))
   exact EU (.inl e2) (hfx _ (mG (i:=6) rfl)) ⟨rfl,bR⟩
  ·have e2:=aP ho 45 ( .indexAddr 22 (.tmp 43) (.tmp 44))
   obtain⟨u,hu,rfl⟩:=nE hne 4 43
   obtain⟨u2,hu2,rfl⟩:=nE hne 5 44
   refine af (gp (w:=w') (t:=22) (e:=3) (by kernel_rfl) (λw=>by kernel_rfl) e2 (C5 hu) (C5 hu2) hin).1 ⟨?_,bR⟩
   rw[nb,Nat.zero_add]
   rfl
  ·have e2:=aP ho 46 ( .load 3 (.tmp 45))
   obtain⟨u,hu,rfl⟩:=nE hne 6 45
   exact af (ay (v:= .int .i64 (d:Int)) aQ e2 (C5 hu) ((World.cell?_of_block (w:=w) (a:=⟨gb,i,none⟩) (hb.block gb hgb)).trans hd)).1 ⟨rfl,bR⟩
  ·have e2:=aP ho 47 ( .fieldAddr 38 (.tmp 9) 3)
   exact af (bX 3 (by decide) e2 (C5 (hfx _ (mG (i:=4) rfl)))) ⟨rfl,bR⟩
  ·have e2:=aP ho 48 ( .load 3 (.tmp 47))
   obtain⟨u,hu,rfl⟩:=nE hne 8 47
   exact af (ay aQ e2 (C5 hu) ((am ((hb.block _ (gA hkd).1).trans hkd) 3).trans rfl)).1 ⟨rfl,bR⟩
  ·have e2:=aP ho 49 ( .binOp .shl 3 (.const (.int .i64 1)) (.tmp 48) 3)
   obtain⟨u,hu,rfl⟩:=nE hne 9 48
   have hp:(1:Int)*2^wd=(H2:Int):=by rw[Int.one_mul,hH2,Int.natCast_pow];rfl
   refine af (ji (m:=1) (k:=wd) e2 rfl (C5 hu) (by omega) (by rw[hp];omega)) ⟨?_,bR⟩
   rw[hp]
   rfl
  ·have e2:=aP ho 50 ( .binOp .sub 3 (.tmp 49) (.const (.int .i64 1)) 3)
   obtain⟨u,hu,rfl⟩:=nE hne 10 49
   refine af (jh (n:=1) e2 (C5 hu) rfl (by omega)) ⟨?_,bR⟩
   have hp:(H2:Int)- 1=(ck wd:Int):=by omega
   rw[hp]
   rfl
  ·have e2:=aP ho 51 ( .move (.tmp 6))
   exact EU (.inl e2) (hfx _ (mG (i:=2) rfl)) ⟨rfl,bR⟩
  ·have e2:=aP ho 52 ( .move (.tmp 19))
   exact EU (.inl e2) (hfx _ (mG (i:=6) rfl)) ⟨rfl,bR⟩
  ·have e2:=aP ho 53 ( .binOp .mul 3 (.const (.int .i64 32)) (.tmp 52) 3)
   obtain⟨u,hu,rfl⟩:=nE hne 13 52
   refine af (dA (m:=32) e2 rfl (C5 hu) (by omega)).1 ⟨?_,bR⟩
   rw[show(32:Int)*(i:Int)=((32*i:Nat):Int)from by omega]
   rfl
  ·have e2:=aP ho 54 ( .move (.tmp 19))
   exact EU (.inl e2) (hfx _ (mG (i:=6) rfl)) ⟨rfl,bR⟩
  ·have e2:=aP ho 55 ( .binOp .mul 3 (.const (.int .i64 32)) (.tmp 54) 3)
   obtain⟨u,hu,rfl⟩:=nE hne 15 54
   refine af (dA (m:=32) e2 rfl (C5 hu) (by omega)).1 ⟨?_,bR⟩
   rw[show(32:Int)*(i:Int)=((32*i:Nat):Int)from by omega]
   rfl
  ·have e2:=aP ho 56 ( .binOp .add 3 (.tmp 55) (.const (.int .i64 32)) 3)
   obtain⟨u,hu,rfl⟩:=nE hne 16 55
   refine af (da (n:=32) e2 (C5 hu) rfl (by omega)) ⟨?_,bR⟩
   rw[show((32*i:Nat):Int)+32=((32*i+32:Nat):Int)from by omega]
   rfl
  ·have e2:=aP ho 57 ( .slice 9 (.tmp 51) (some (.tmp 53)) (some (.tmp 56)) none)
   obtain⟨u,hu,rfl⟩:=nE hne 12 51
   obtain⟨u2,hu2,rfl⟩:=nE hne 14 53
   obtain⟨u3,hu3,rfl⟩:=nE hne 17 56
   exact af (cN (m:=32*i) (n:=32*i+32) e2 (C5 hu) (C5 hu2) (C5 hu3) (by omega) hys).1 ⟨rfl,bR⟩
  ·have e2:=aP ho 58 ( .call {callee:= .value (.func 36),args:=#[.tmp 39, .tmp 40, .tmp 41, .tmp 42, .tmp 46, .tmp 50, .tmp 57],argTypes:=#[24,9,3,3,3,3,9]})
   obtain⟨u0,hu0,rfl⟩:=nE hne 0 39
   obtain⟨u1,hu1,rfl⟩:=nE hne 1 40
   obtain⟨u2,hu2,rfl⟩:=nE hne 2 41
   obtain⟨u3,hu3,rfl⟩:=nE hne 3 42
   obtain⟨u7,hu7,rfl⟩:=nE hne 7 46
   obtain⟨u11,hu11,rfl⟩:=nE hne 11 50
   obtain⟨u18,hu18,rfl⟩:=nE hne 18 57
   have hr:=az (w:=w') e2 (show(#[Operand.tmp 39, .tmp 40, .tmp 41, .tmp 42, .tmp 46, .tmp 50, .tmp 57]:Array Operand).map a.eval=#[.agg cv, .string id, .int .i64 q, .int .i64 i, .int .i64 (d:Int), .int .i64 (ck wd), .string (ys.extract (32*i) (32*i+32))]from by simp[C5 hu0,C5 hu1,C5 hu2,C5 hu3,C5 hu7,C5 hu11,C5 hu18]) (rI (P:=ac true Tryd.prog) Lf.func36 _)
   exact .inr ⟨_,_,hr.1,(Hu hKl hKw id (ys.extract (32*i) (32*i+32)) q i d (ck wd) hq (by omega) (by omega) (by omega) hid (by rw[ByteArray.size_extract];omega) w' (hC.mono hb)).mono λe w'' h=>⟨_,h.1,congrArg Value.string hYn.symm,h.2⟩⟩
  ·have e2:=aP ho 20 ( .assign (.tmp 58))
   obtain⟨u,hu,hG⟩:=nE hne 19 58
   exact EU (.inr e2) hu ⟨hG,bR⟩
 ·obtain⟨u,hu,hu2⟩:=hG.come 20 20 rfl trivial
  obtain rfl:=hu2
  exact⟨rfl,hG.old,hG.base.more hu⟩
 ·exact absurd (gA ho).1 (by obtain⟨rfl,_⟩:=hS;decide)
 ·exact next a w' hS.2
end Go.Proofs.YtkmoglhgkcnalaaDoor.L1
