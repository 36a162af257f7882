/- Proved: 'lintellaw.Rooted' returns true for every input that the row lets in, on every schedule of the goroutines that the call starts, without a data race, and its arguments read as they did: Verify of a key whose root is what a signature comes to answers what the document's answer is. Conditions: the row's own (the table of the hash holds what the program's text lays). -/
import Derived.Test.YtkmoglhgkcnalaaDoorCards
import Derived.Test.YtkmoglhgkcnalaaDoorTie
import Derived.ProofKit
import Derived.OpenShut
import Derived.ShutString
import Derived.ChangeOld
import Derived.Below
import Derived.Deep.DeepHandedRow
import Derived.Lib.LaidTab
import Derived.Conc.Holds
import Derived.SevenTiedAt
import Derived.Test.YtkmoglhgkcnalaaDoorOwn15
set_option maxHeartbeats 16000000
set_option maxRecDepth 100000
namespace Go.Proofs.YtkmoglhgkcnalaaDoor.L1
open Go Go.Conc Go.RowKit Go.Proofs.YtkmoglhgkcnalaaDoor
section
variable{w:World}{ev:Operand->Value}{o:Oper}{x y:Operand}{m:Int}{u:TypeId}
theorem LM(hop:o.op= .unOp .neg 3 x)(hx:ev x= .int .i64 m)(h: -9223372036854775808<= -m/\ -m<9223372036854775808):(execOp ev o).run (ac true Tryd.prog) w= .ok (.value (.int .i64 (-m))) w:=by
 have e:IntKind.i64.wrap (-m)= -m:=by rw[IntKind.wrap_i64];omega
 simp[execOp,hop,hx,go_sem,e]
theorem LE{t:ByteArray}{n:Nat}(hop:o.op= .slice 9 x none (some y) none)(hx:ev x= .string t)(hy:ev y= .int .i64 n)(h':n<=t.size):(execOp ev o).run (ac true Tryd.prog) w= .ok (.value (.string (t.extract 0 n))) w:=by
 have hu:(ac true Tryd.prog).underlying 9=some .string:=by kernel_rfl
 simp[execOp,hop,hx,hy,Instr.sliceAt,Instr.slice,Instr.sliceBounds,run_underlying hu,Instr.sliceBound,asIntOf,h']
end
theorem LO:Tryd.f17.body=some (.seq (.region 0 (ae Tryd.f17 0) false) (.seq (.seq (.region 1 (ae Tryd.f17 1) false) (.cond (.tmp 6) (.seq (.region 2 (ae Tryd.f17 2) false) .ret) .skip)) (.seq (.seq (.region 3 (ae Tryd.f17 3) false) (.cond (.tmp 8) (.region 4 (ae Tryd.f17 4) false) .skip)) (.seq (.region 5 (ae Tryd.f17 5) false) .ret)))):=by kernel_rfl
theorem Ly{Goal:Goroutine->World->Prop}{cs:List Frame}{w:World}{n m:Nat}(hn:0<n){a:Act}(hF:aM [(0, .int .i64 m),(1, .int .i64 n)] 15 [] a)(next:∀a,aM [(4, .int .i64 ((m%n:Nat):Int))] 15 [] a->Rn (ac true Tryd.prog) Goal ((base 17).atR a [.code .ret]) cs w):
 Rn (ac true Tryd.prog) Goal ((base 17).atR a [.code (.seq (.region 5 (ae Tryd.f17 5) false) .ret)]) cs w:=by
 refine Rn.p rfl (Rn.r (L:=[0,1,2,3]) rfl ?_)
 refine Rn.y hF 12 0 rfl λa hF=> ?_
 refine Rn.y hF 13 1 rfl λa hF=> ?_
 refine Rn.o hF 14 (.binOp .rem 3 (.tmp 12) (.tmp 13) 3) (λo ho=>FA ho (hF.get (d:=12) rfl) (hF.get (d:=13) rfl) hn) λa hF=> ?_
 refine Rn.s hF 4 14 rfl λa hF=> ?_
 exact Rn.p rfl (next a (hF.only ⟨rfl,trivial⟩))
theorem Ls(c:Int)(n:Nat)(hc: -9223372036854775808<=c/\c<9223372036854775808)(hn:0<n)(w:World):
 Calls (ac true Tryd.prog) 17 #[.int .i64 c, .int .i64 n] w λe w'=>∃r:Nat,e= .returned (.int .i64 r)/\r<n/\w'=w:=by
 refine bF (t:=4) Lf.func17 rfl λcs=> ?_
 rw[bW (N:=15) [.int .i64 c, .int .i64 n] Lf.func17 LO rfl]
 have hF:=bm [.int .i64 c, .int .i64 n] 15 (by simp)
 refine Rn.p rfl (Rn.r (L:=[0]) rfl ?_)
 refine Rn.c hF 4 (.int .i64 0) λa hF=> ?_
 refine Rn.p rfl (Rn.p rfl (Rn.p rfl (Rn.r (L:=[0,1]) rfl ?_)))
 refine Rn.y hF 5 1 rfl λa hF=> ?_
 refine Rn.o hF 6 (.binOp .eql 3 (.tmp 5) (.const (.int .i64 0)) 3) (λo ho=>mJ ho (hF.get (d:=5) rfl) rfl) λa hF=> ?_
 refine Rn.p rfl (Rn.cond _ (hF.get (d:=6) rfl) ?_)
 rw[show((n:Int)==0)=false from by simp;omega]
 have hF:aM [(0, .int .i64 c),(1, .int .i64 n)] 15 [] a:=hF.only ⟨rfl,rfl,trivial⟩
 refine Rn.p rfl (Rn.p rfl (Rn.p rfl (Rn.r (L:=[0,1]) rfl ?_)))
 refine Rn.y hF 7 0 rfl λa hF=> ?_
 refine Rn.o hF 8 (.binOp .lss 3 (.tmp 7) (.const (.int .i64 0)) 3) (λo ho=>(cQ ho (hF.get (d:=7) rfl) rfl).1) λa hF=> ?_
 refine Rn.p rfl (Rn.cond _ (hF.get (d:=8) rfl) ?_)
 by_cases h:c<0
 ·rw[decide_eq_true h]
  have hF:aM [(0, .int .i64 c),(1, .int .i64 n)] 15 [] a:=hF.only ⟨rfl,rfl,trivial⟩
  refine Rn.r (L:=[0,1,2,3]) rfl ?_
  refine Rn.y hF 9 0 rfl λa hF=> ?_
  refine Rn.o hF 10 (.binOp .add 3 (.tmp 9) (.const (.int .i64 1)) 3) (λo ho=>da (n:=1) ho (hF.get (d:=9) rfl) rfl (by omega)) λa hF=> ?_
  refine Rn.o hF 11 (.unOp .neg 3 (.tmp 10)) (λo ho=>LM ho (hF.get (d:=10) rfl) (by omega)) λa hF=> ?_
  refine Rn.s hF 0 11 rfl λa hF=> ?_
  refine Rn.p rfl (Ly (m:=(-(c+1)).toNat) hn (hF.only ⟨?_,rfl,trivial⟩) λa hF=>Rn.ends rfl (.inr ⟨_,rfl⟩) (Rn.now ⟨a,_,_,rfl,hF.defers,hF.slot 4 _ rfl,_,rfl,Nat.mod_lt _ hn,rfl⟩))
  rw[Int.toNat_of_nonneg (by omega)]
  rfl
 ·rw[decide_eq_false h]
  refine Rn.p rfl (Ly (m:=c.toNat) hn (hF.only ⟨?_,rfl,trivial⟩) λa hF=>Rn.ends rfl (.inr ⟨_,rfl⟩) (Rn.now ⟨a,_,_,rfl,hF.defers,hF.slot 4 _ rfl,_,rfl,Nat.mod_lt _ hn,rfl⟩))
  rw[Int.toNat_of_nonneg (by omega)]
  rfl
def LA(f:Func):Code:= .seq (.seq (.region 2 (ae f 2) false) (.cond (.tmp 9) .skip (.exit 0))) (.block 1 (.region 3 (ae f 3) false))
theorem LN:Tryd.f19.body=some (.seq (.region 0 (ae Tryd.f19 0) false) (.seq (.region 1 (ae Tryd.f19 1) false) (.seq (.block 0 (.loop (LA Tryd.f19))) (.seq (.region 4 (ae Tryd.f19 4) false) .ret)))):=by kernel_rfl
theorem LD{s:ByteArray}{n:Nat}(hs:s.size<=140737488355328)(hn:n<=100000){Goal:Goroutine->World->Prop}{fr:Frame}{cs:List Frame}{K:List Item}{w:World}
 (next:∀a out,n<=out.size->aM [(1, .int .i64 n),(5, .string out)] 17 [] a->Rn (ac true Tryd.prog) Goal (fr.atR a K) cs w):
 ∀(k:Nat) (out:ByteArray) (a:Act),n- out.size<=k->out.size<=n+s.size+1->aM [(0, .string s),(1, .int .i64 n),(5, .string out)] 17 [] a->
  Rn (ac true Tryd.prog) Goal (fr.atR a (.code (LA Tryd.f19):: .inLoop (LA Tryd.f19):: .inBlock 0::K)) cs w:=by
 intro k
 induction k using Nat.strongRecOn with
 |ind k ih=>
  intro out a hk ho hF
  refine Rn.p rfl (Rn.p rfl (Rn.r (L:=[0,1,2,3]) rfl ?_))
  refine Rn.y hF 6 5 rfl λa hF=> ?_
  refine Rn.o hF 7 (.call {callee:= .builtin .len,args:=#[.tmp 6],argTypes:=#[9]}) (λo ho=>qO ho (hF.get (d:=6) rfl)) λa hF=> ?_
  refine Rn.y hF 8 1 rfl λa hF=> ?_
  refine Rn.o hF 9 (.binOp .lss 3 (.tmp 7) (.tmp 8) 3) (λo ho=>(cQ ho (hF.get (d:=7) rfl) (hF.get (d:=8) rfl)).1) λa hF=> ?_
  refine Rn.p rfl (Rn.cond _ (hF.get (d:=9) rfl) ?_)
  by_cases hlt:out.size<n
  ·rw[decide_eq_true (by omega)]
   refine Rn.p rfl (Rn.p rfl (Rn.r (L:=[0,1,2,3,4]) rfl ?_))
   refine Rn.y hF 10 5 rfl λa hF=> ?_
   refine Rn.y hF 11 0 rfl λa hF=> ?_
   refine Rn.o hF 12 (.binOp .add 9 (.tmp 10) (.tmp 11) 9) (λo ho=>cu ho (hF.get (d:=10) rfl) (hF.get (d:=11) rfl) (by omega)) λa hF=> ?_
   refine Rn.o hF 13 (.binOp .add 9 (.tmp 12) (.const (.string ⟨#[0]⟩)) 9) (λo ho=>cu ho (hF.get (d:=12) rfl) rfl (by rw[ByteArray.size_append,show(ByteArray.mk #[0]).size=1 from rfl];omega)) λa hF=> ?_
   refine Rn.s hF 5 13 rfl λa hF=> ?_
   have hz:(out++s++⟨#[0]⟩).size=out.size+s.size+1:=by rw[ByteArray.size_append,ByteArray.size_append];rfl
   exact Rn.p rfl (Rn.p rfl (Rn.p rfl (ih (n-(out++s++⟨#[0]⟩).size) (by omega) _ a (Nat.le_refl _) (by omega) (hF.only ⟨rfl,rfl,rfl,trivial⟩))))
  ·rw[decide_eq_false (by omega)]
   exact Rn.p rfl (next a out (by omega) (hF.only ⟨rfl,rfl,trivial⟩))
theorem LF(s:ByteArray)(n:Nat)(hs:s.size<=140737488355328)(hn:n<=100000)(w:World):
 Calls (ac true Tryd.prog) 19 #[.string s, .int .i64 n] w λe w'=>∃r:ByteArray,e= .returned (.string r)/\r.size=n/\w'=w:=by
 refine bF (t:=4) Lf.func19 rfl λcs=> ?_
 rw[bW (N:=17) [.string s, .int .i64 n] Lf.func19 LN rfl]
 have hF:=bm [.string s, .int .i64 n] 17 (by simp)
 refine Rn.p rfl (Rn.r (L:=[0]) rfl ?_)
 refine Rn.c hF 4 (.string ⟨#[]⟩) λa hF=> ?_
 refine Rn.p rfl (Rn.p rfl (Rn.r (L:=[0]) rfl ?_))
 refine Rn.c hF 5 (.string ⟨#[]⟩) λa hF=> ?_
 refine Rn.p rfl (Rn.p rfl (Rn.p rfl (Rn.p rfl ?_)))
 refine LD hs hn (λa out ho hF=> ?_) n ⟨#[]⟩ a (by omega) (Nat.zero_le _) (hF.only ⟨rfl,rfl,rfl,trivial⟩)
 refine Rn.p rfl (Rn.r (L:=[0,1,2,3]) rfl ?_)
 refine Rn.y hF 14 5 rfl λa hF=> ?_
 refine Rn.y hF 15 1 rfl λa hF=> ?_
 refine Rn.o hF 16 (.slice 9 (.tmp 14) none (some (.tmp 15)) none) (λo h=>LE h (hF.get (d:=14) rfl) (hF.get (d:=15) rfl) ho) λa hF=> ?_
 refine Rn.s hF 4 16 rfl λa hF=> ?_
 exact Rn.p rfl (Rn.ends rfl (.inr ⟨_,rfl⟩) (Rn.now ⟨a,_,_,rfl,hF.defers,hF.slot 4 _ rfl,out.extract 0 n,rfl,by rw[ByteArray.size_extract];omega,rfl⟩))
section
variable{Goal:Goroutine->World->Prop}{b:Frame}{a:Act}{k:List Item}{cs:List Frame}{w:World}{F:List (Nat×Value)}{N:Nat}{ds:List Deferred}{ops:Array Oper}{m:Nat}{rest:List Nat}
theorem Rn.pick(hF:aM F N ds a)(d x n:Nat){c:Int}(hx:F.lookup x=some (.int .i64 c))(hc: -9223372036854775808<=c/\c<9223372036854775808)(hn:0<n)
 (next:∀r:Nat,r<n->∀a',aM ((d, .int .i64 r)::F) N ds a'->Rn (ac true Tryd.prog) Goal (b.atR a' (.inRegion ops rest::k)) cs w) (hd:d<N:=by decide) (h:(ops[m]?).map (λo=>(o.dst,o.op,o.guard))=some (some d, .call {callee:= .value (.func 17),args:=#[.tmp x, .const (.int .i64 n)],argTypes:=#[3,3]},none):=by kernel_rfl):Rn (ac true Tryd.prog) Goal (b.atR a (.inRegion ops (m::rest)::k)) cs w:=by
 refine Rn.calls (args:=#[.int .i64 c, .int .i64 n]) hF d hd h (by simp only[List.map_toArray,List.map_cons,List.map_nil,hF.get hx];rfl) Lf.func17 (by kernel_rfl) (by kernel_rfl) (R:=λv w'=>∃r:Nat,v= .int .i64 r/\r<n/\w'=w) ((Ls c n hc hn w).mono λe w' ⟨r,h1,h2,h3⟩=>⟨_,h1,r,rfl,h2,h3⟩) λv w' hv a hF=> ?_
 obtain⟨r,rfl,hr,hw⟩:=hv
 rw[hw]
 exact next r hr a hF
theorem Rn.long(hF:aM F N ds a)(d x n:Nat)(y:Operand){s:ByteArray}(hx:F.lookup x=some (.string s))(hy:a.eval y= .int .i64 n)(hs:s.size<=140737488355328)(hn:n<=100000)
 (next:∀r:ByteArray,r.size=n->∀a',aM ((d, .string r)::F) N ds a'->Rn (ac true Tryd.prog) Goal (b.atR a' (.inRegion ops rest::k)) cs w) (hd:d<N:=by decide) (h:(ops[m]?).map (λo=>(o.dst,o.op,o.guard))=some (some d, .call {callee:= .value (.func 19),args:=#[.tmp x,y],argTypes:=#[9,3]},none):=by kernel_rfl):Rn (ac true Tryd.prog) Goal (b.atR a (.inRegion ops (m::rest)::k)) cs w:=by
 refine Rn.calls (args:=#[.string s, .int .i64 n]) hF d hd h (by simp only[List.map_toArray,List.map_cons,List.map_nil,hF.get hx,hy]) Lf.func19 (by kernel_rfl) (by kernel_rfl) (R:=λv w'=>∃r:ByteArray,v= .string r/\r.size=n/\w'=w) ((LF s n hs hn w).mono λe w' ⟨r,h1,h2,h3⟩=>⟨_,h1,r,rfl,h2,h3⟩) λv w' hv a hF=> ?_
 obtain⟨r,rfl,hr,hw⟩:=hv
 rw[hw]
 exact next r hr a hF
theorem Rn.uu(hF:aM F N ds a)(d x:Nat){v:Int}(hx:F.lookup x=some (.int .i64 v))
 (next:∀(r:ByteArray) (w':World),r.size=4->Below w.heap.size w w'->∀a',aM ((d, .string r)::F) N ds a'->Rn (ac true Tryd.prog) Goal (b.atR a' (.inRegion ops rest::k)) cs w') (hd:d<N:=by decide) (h:(ops[m]?).map (λo=>(o.dst,o.op,o.guard))=some (some d, .call {callee:= .value (.func 21),args:=#[.tmp x, .const (.int .i64 4)],argTypes:=#[3,3]},none):=by kernel_rfl):Rn (ac true Tryd.prog) Goal (b.atR a (.inRegion ops (m::rest)::k)) cs w:=by
 refine Rn.calls (args:=#[.int .i64 v, .int .i64 ((4:Nat):Int)]) hF d hd h (by simp only[List.map_toArray,List.map_cons,List.map_nil,hF.get hx];rfl) Lf.func21 (by kernel_rfl) (by kernel_rfl) (R:=λz w'=>∃r:ByteArray,z= .string r/\r.size=4/\Below w.heap.size w w') ((LC v (v%18446744073709551616).toNat 4 w (by decide) (by omega)).mono λe w' h=>⟨_,h.1,_,rfl,bT 4 _,h.2⟩) λv w' hv a hF=> ?_
 obtain⟨r,rfl,hr,hw⟩:=hv
 exact next r w' hr hw a hF
theorem Rn.cat(hF:aM F N ds a)(d x y:Nat){s t:ByteArray}(hx:F.lookup x=some (.string s))(hy:F.lookup y=some (.string t))(hs:s.size+t.size<=9223372036854775807)
 (next:∀a',aM ((d, .string (s++t))::F) N ds a'->Rn (ac true Tryd.prog) Goal (b.atR a' (.inRegion ops rest::k)) cs w) (hd:d<N:=by decide) (h:(ops[m]?).map (λo=>(o.dst,o.op,o.guard))=some (some d, .binOp .add 9 (.tmp x) (.tmp y) 9,none):=by kernel_rfl):Rn (ac true Tryd.prog) Goal (b.atR a (.inRegion ops (m::rest)::k)) cs w:=
 Rn.op hF d (.binOp .add 9 (.tmp x) (.tmp y) 9) hd h (by simp) (λo ho=>cu ho (hF.get hx) (hF.get hy) hs) next
theorem Rn.kf(hF:aM F N ds a)(d e x j:Nat){c1 c2:Int}{hh wd n sh b19:Nat}(v:Value)(hx:F.lookup x=some (.pointer (some ⟨b19,0,none⟩)))(hkd:w.heap[b19]?=some (.cells (aL c1 c2 hh wd n sh) 38))(hj:j<6)(hv:(aL c1 c2 hh wd n sh)[j]?=some v)
 (next:∀a',aM ((e,v)::(d, .pointer (some ⟨b19,j,none⟩))::F) N ds a'->Rn (ac true Tryd.prog) Goal (b.atR a' (.inRegion ops rest::k)) cs w) {m1:Nat} (hd:d<N:=by decide) (he:e<N:=by decide) (h:(ops[m]?).map (λo=>(o.dst,o.op,o.guard))=some (some d, .fieldAddr 38 (.tmp x) j,none):=by kernel_rfl) (h1:(ops[m1]?).map (λo=>(o.dst,o.op,o.guard))=some (some e, .load 3 (.tmp d),none):=by kernel_rfl):Rn (ac true Tryd.prog) Goal (b.atR a (.inRegion ops (m::m1::rest)::k)) cs w:=by
 refine Rn.op hF d (.fieldAddr 38 (.tmp x) j) hd h (by simp) (λo ho=>bX j hj ho (hF.get hx)) λa hF=> ?_
 exact Rn.op hF e (.load 3 (.tmp d)) he h1 (by simp) (λo ho=>(ay aQ ho (hF.get (d:=d) (by simp[List.lookup])) ((am hkd j).trans hv)).1) next
theorem Rn.g(hF:aM F N ds a)(d:Nat)(p:Op)(g gd:Nat)(q:Bool)(V:Value->Prop)(hq:F.lookup gd=some (.bool q))(hnd:∀c,p≠ .defer c)(hy:q=true->∀o:Oper,o.op=p->uY (ac true Tryd.prog) a o w λv w'=>V v/\w'=w)
 (next:∀v a',(q=true->V v)->aM ((d,v)::F) N ds a'->Rn (ac true Tryd.prog) Goal (b.atR a' (.inRegion ops rest::k)) cs w) (hd:d<N:=by decide) (h:(ops[m]?).map (λo=>(o.dst,o.op,o.guard))=some (some d,p,some (g,true)):=by kernel_rfl) (hg:(ops[g]?).bind (·.dst)=some gd:=by kernel_rfl):Rn (ac true Tryd.prog) Goal (b.atR a (.inRegion ops (m::rest)::k)) cs w:=by
 cases ho:ops[m]? with
 |none=>rw[ho]at h;cases h
 |some o=>
  rw[ho]at h
  simp only[Option.map_some,Option.some.injEq,Prod.mk.injEq]at h
  obtain⟨e1,e2,e3⟩:=h
  have hw:=lQ (tmps:=a.tmps) e3 hg (hF.slot gd _ hq)
  cases q with
  |false=>
   refine Rn.skips ho hw ?_
   rw[e1]
   exact next _ _ (λh=>by cases h) (hF.put hd _)
  |true=>
   refine Rn.does ho hw (by rw[e2];exact hnd) (hy rfl o e2) λv w' ⟨hv,hw'⟩=> ?_
   rw[e1,hw']
   exact next v _ (λ_=>hv) (hF.put hd v)
end
def LY(f:Func):Code:=(.seq (.region 22 (ae f 22) false) (.seq (.region 23 (ae f 23) false) (.seq (.region 24 (ae f 24) false) .ret)))
def LZ(f:Func):Code:= .seq (.region 21 (ae f 21) false) (LY f)
def M1(f:Func):Code:= .seq (.region 18 (ae f 18) false) (.seq (.seq (.region 19 (ae f 19) false) (.cond (.tmp 107) (.region 20 (ae f 20) false) .skip)) (LZ f))
def M3(f:Func):Code:= .seq (.region 13 (ae f 13) false) (.seq (.region 14 (ae f 14) true) (.seq (.region 15 (ae f 15) false) (.seq (.seq (.region 16 (ae f 16) false) (.cond (.tmp 101) (.region 17 (ae f 17) false) .skip)) (M1 f))))
def t8(f:Func):Code:=(.seq (.region 8 (ae f 8) false) (.seq (.region 9 (ae f 9) false) (.seq (.region 10 (ae f 10) false) (.seq (.region 11 (ae f 11) false) (.seq (.region 12 (ae f 12) false) (M3 f))))))
def t5(f:Func):Code:= .seq (.region 5 (ae f 5) false) (.seq (.seq (.region 6 (ae f 6) false) (.cond (.tmp 52) (.region 7 (ae f 7) false) .skip)) (t8 f))
theorem LU:Tryd.f6.body=some (.seq (.region 0 (ae Tryd.f6 0) false) (.seq (.region 1 (ae Tryd.f6 1) false) (.seq (.region 2 (ae Tryd.f6 2) false) (.seq (.seq (.region 3 (ae Tryd.f6 3) false) (.cond (.tmp 36) (.region 4 (ae Tryd.f6 4) false) .skip)) (t5 Tryd.f6))))):=by kernel_rfl
structure Rw (w0 w:World) (cv kd:Array Value) (b17 b19:Nat):Prop where
 old:Below w0.heap.size w0 w
 cst:rM rN cv w
 box:w.heap[b17]?=some (.cells cv 24)
 kd:w.heap[b19]?=some (.cells kd 38)
theorem Rw.mono{w0 w w':World}{cv kd:Array Value}{b17 b19:Nat}(h:Rw w0 w cv kd b17 b19)(hb:Below w.heap.size w w'):Rw w0 w' cv kd b17 b19:=⟨ah h.old h.old.size hb,h.cst.mono hb,(hb.block _ (gA h.box).1).trans h.box,(hb.block _ (gA h.kd).1).trans h.kd⟩
section
variable{Goal:Goroutine->World->Prop}{cs:List Frame}{w0:World}(hTab:w0.rangeAt 0 0 (aj rN))(h0:0<w0.heap.size)(fin:∀a w',aM [(16, .bool true)] 137 [] a->Below w0.heap.size w0 w'->Rn (ac true Tryd.prog) Goal ((base 6).atR a [.code .ret]) cs w'){cv:Array Value}{b17 b19 t c h wd n sh:Nat}
include hTab h0 fin
theorem LW{key msg sig:ByteArray}(hm:msg.size<=140737488351232)(hk:key.size<=1125899906842624)(hs:sig.size<=1125899906842624){w:World}{kd:Array Value}(hR:Rw w0 w cv kd b17 b19){a:Act}(hF:aM [(4, .string msg),(17, .pt b17),(27, .string key),(30, .string sig)] 137 [] a):Rn (ac true Tryd.prog) Goal ((base 6).atR a [.code (LY Tryd.f6)]) cs w:=by
 refine Rn.p rfl (Rn.r (L:=[0,1,2,3,4]) rfl ?_)
 refine Rn.y hF 125 27 rfl λa hF=> ?_
 refine Rn.y hF 126 4 rfl λa hF=> ?_
 refine Rn.y hF 127 30 rfl λa hF=> ?_
 refine Rn.calls (f:=15) (xs:=#[.tmp 125, .tmp 126, .tmp 127]) (ats:=#[9,9,9]) (args:=#[.string key, .string msg, .string sig]) hF 128 (by decide) (by kernel_rfl) (by simp[hF.get (d:=125) rfl,hF.get (d:=126) rfl,hF.get (d:=127) rfl]) Lf.func15 (by kernel_rfl) (by kernel_rfl)
  (R:=λv w'=>∃c,v= .int .i64 c/\sD rN key msg sig c/\Below w.heap.size w w') ((xC rN ey key msg sig (by omega) hs w (Mc h0 hR.old hTab) (Nat.lt_of_lt_of_le h0 hR.old.size)).mono λe w' ⟨c,h1,h2,h3⟩=>⟨_,h1,c,rfl,h2,h3⟩) λv w4 hv a hF=> ?_
 obtain⟨c,rfl,hver,hb4⟩:=hv
 have hR:=hR.mono hb4
 refine Rn.s hF 31 128 rfl λa hF=> ?_
 refine Rn.p rfl (Rn.p rfl (Rn.r (L:=[0,1,2,3,4,5]) rfl ?_))
 refine Rn.o hF 129 (.load 24 (.tmp 17)) (λo ho=>dI hR.cst.two ho (hF.get (d:=17) rfl) hR.box) λa hF=> ?_
 refine Rn.y hF 130 27 rfl λa hF=> ?_
 refine Rn.y hF 131 4 rfl λa hF=> ?_
 refine Rn.y hF 132 30 rfl λa hF=> ?_
 refine Rn.calls (f:=16) (xs:=#[.tmp 129, .tmp 130, .tmp 131, .tmp 132]) (ats:=#[24,9,9,9]) (args:=#[.agg cv, .string key, .string msg, .string sig]) hF 133 (by decide) (by kernel_rfl) (by simp[hF.get (d:=129) rfl,hF.get (d:=130) rfl,hF.get (d:=131) rfl,hF.get (d:=132) rfl]) Lf.func16 (by kernel_rfl) (by kernel_rfl)
  (R:=λv w'=>∃c,v= .int .i64 c/\sD rN key msg sig c/\Below w4.heap.size w4 w') ((ve ey EP key msg sig hm hk hs w4 hR.cst).mono λe w' ⟨c,h1,h2,h3⟩=>⟨_,h1,c,rfl,h2,h3⟩) λv w5 hv a hF=> ?_
 obtain⟨d,rfl,hver',hb5⟩:=hv
 have hR:=hR.mono hb5
 obtain rfl:=EV hver hver'
 refine Rn.s hF 32 133 rfl λa hF=> ?_
 refine Rn.p rfl (Rn.p rfl (Rn.r (L:=[0,1,2,3]) rfl ?_))
 refine Rn.y hF 134 31 rfl λa hF=> ?_
 refine Rn.y hF 135 32 rfl λa hF=> ?_
 refine Rn.o hF 136 (.binOp .eql 33 (.tmp 134) (.tmp 135) 33) (λo ho=>FD ho rfl (hF.get (d:=134) rfl) (hF.get (d:=135) rfl)) λa hF=> ?_
 rw[show(c==c)=true from by simp]at hF
 refine Rn.s hF 16 136 rfl λa hF=> ?_
 exact Rn.p rfl (fin a w5 (hF.only ⟨rfl,trivial⟩) hR.old)
theorem LQ{key msg more salt ys path:ByteArray}{q:Nat}{x y:Int}(hm:msg.size<=140737488351232)(hk:key.size<=1125899906842624)(hmore:more.size<=140737488351232)(hsalt:salt.size=32)(hys:ys.size<=100000)(hp:path.size<=100000){w:World}{kd:Array Value}(hR:Rw w0 w cv kd b17 b19){a:Act}(hF:aM [(4, .string msg),(7, .string more),(17, .pt b17),(21, .int .i64 q),(23, .string salt),(24, .string ys),(25, .string path),(27, .string key),(28, .int .i64 x),(29, .int .i64 y)] 137 [] a):Rn (ac true Tryd.prog) Goal ((base 6).atR a [.code (LZ Tryd.f6)]) cs w:=by
 refine Rn.p rfl (Rn.r (L:=[0,1,2,3,4,5,6,7,8,9,10,11,12,13,14,15,16]) rfl ?_)
 refine Rn.y hF 109 21 rfl λa hF=> ?_
 refine Rn.uu hF 110 109 rfl λu1 w1 hu1 hb1 a hF=> ?_
 refine Rn.y hF 111 28 rfl λa hF=> ?_
 refine Rn.uu hF 112 111 rfl λu2 w2 hu2 hb2 a hF=> ?_
 refine Rn.cat hF 113 110 112 rfl rfl (by omega) λa hF=> ?_
 refine Rn.y hF 114 23 rfl λa hF=> ?_
 refine Rn.cat hF 115 113 114 rfl rfl (by simp only[ByteArray.size_append];omega) λa hF=> ?_
 refine Rn.y hF 116 24 rfl λa hF=> ?_
 refine Rn.cat hF 117 115 116 rfl rfl (by simp only[ByteArray.size_append];omega) λa hF=> ?_
 refine Rn.y hF 118 29 rfl λa hF=> ?_
 refine Rn.uu hF 119 118 rfl λu3 w3 hu3 hb3 a hF=> ?_
 refine Rn.cat hF 120 117 119 rfl rfl (by simp only[ByteArray.size_append];omega) λa hF=> ?_
 refine Rn.y hF 121 7 rfl λa hF=> ?_
 refine Rn.cat hF 122 120 121 rfl rfl (by simp only[ByteArray.size_append];omega) λa hF=> ?_
 refine Rn.y hF 123 25 rfl λa hF=> ?_
 refine Rn.cat hF 124 122 123 rfl rfl (by simp only[ByteArray.size_append];omega) λa hF=> ?_
 refine Rn.s hF 30 124 rfl λa hF=> ?_
 exact Rn.p rfl (LW hTab h0 fin hm hk (by simp only[ByteArray.size_append];omega) (((hR.mono hb1).mono hb2).mono hb3) (hF.only ⟨rfl,rfl,rfl,rfl,trivial⟩))
theorem LR{key msg more salt ys path:ByteArray}{q:Nat}{x ot:Int}(hm:msg.size<=140737488351232)(hk:key.size<=1125899906842624)(hmore:more.size<=140737488351232)(hsalt:salt.size=32)(hys:ys.size<=100000)(hp:path.size<=100000)(hot: -9223372036854775808<=ot/\ot<9223372036854775808){w:World}(hR:Rw w0 w cv (aL t c h wd n sh) b17 b19){a:Act}(hF:aM [(4, .string msg),(6, .int .i64 ot),(7, .string more),(17, .pt b17),(19, .pt b19),(21, .int .i64 q),(23, .string salt),(24, .string ys),(25, .string path),(27, .string key),(28, .int .i64 x)] 137 [] a):Rn (ac true Tryd.prog) Goal ((base 6).atR a [.code (M1 Tryd.f6)]) cs w:=by
 refine Rn.p rfl (Rn.r (L:=[0,1,2]) rfl ?_)
 refine Rn.kf hF 103 104 19 0 (.int .i64 t) rfl hR.kd (by decide) rfl λa hF=> ?_
 refine Rn.s hF 29 104 rfl λa hF=> ?_
 refine Rn.p rfl (Rn.p rfl (Rn.p rfl (Rn.r (L:=[0,1,2]) rfl ?_)))
 refine Rn.y hF 105 6 rfl λa hF=> ?_
 refine Rn.pick hF 106 105 4 rfl hot (by decide) λr hr a hF=> ?_
 refine Rn.o hF 107 (.binOp .eql 3 (.tmp 106) (.const (.int .i64 0)) 3) (λo ho=>mJ ho (hF.get (d:=106) rfl) rfl) λa hF=> ?_
 refine Rn.p rfl (Rn.cond _ (hF.get (d:=107) rfl) ?_)
 cases ((r:Int)==0)with
 |true=>
  refine Rn.r (L:=[0,1]) rfl ?_
  refine Rn.y hF 108 6 rfl λa hF=> ?_
  refine Rn.s hF 29 108 rfl λa hF=> ?_
  exact Rn.p rfl (LQ hTab h0 fin hm hk hmore hsalt hys hp hR (hF.only ⟨rfl,rfl,rfl,rfl,rfl,rfl,rfl,rfl,rfl,rfl,trivial⟩))
 |false=>exact Rn.p rfl (LQ hTab h0 fin hm hk hmore hsalt hys hp hR (hF.only ⟨rfl,rfl,rfl,rfl,rfl,rfl,rfl,rfl,rfl,rfl,trivial⟩))
end
def G6(id rt:ByteArray)(t c b19:Nat):Nat->Value->World->Prop
 |0,v,_=>v= .pointer (some ⟨b19,0,none⟩)
 |1,v,_=>v= .int .i64 t
 |2,v,_=>v= .string (ob t 4)
 |3,v,_=>v= .pointer (some ⟨b19,1,none⟩)
 |4,v,_=>v= .int .i64 c
 |5,v,_=>v= .string (ob c 4)
 |6,v,_=>v= .string (ob t 4++ob c 4)
 |7,v,_=>v= .string id
 |8,v,_=>v= .string (ob t 4++ob c 4++id)
 |9,v,_=>v= .string rt
 |10,v,_=>v= .string (ob t 4++ob c 4++id++rt)
 |_,v,_=>v= .string (ob t 4++ob c 4++id++rt)
theorem LI{id rt:ByteArray}{t c b19:Nat}(k:Nat)(v:Value)(w w':World)(hg:G6 id rt t c b19 k v w):G6 id rt t c b19 k v w':=by
 match k,hg with
 |0,hg|1,hg|2,hg|3,hg|4,hg|5,hg|6,hg|7,hg|8,hg|9,hg|10,hg|_+11,hg=>exact hg
theorem LS{id rt msg more salt ys path:ByteArray}{t c b17 b19 h wd n sh q:Nat}{oc ot:Int}(ht:t<1000)(hc:c<1000)(hid:id.size<=1000)(hrt:rt.size<=1000){w:World}(hkd:w.heap[b19]?=some (.cells (aL t c h wd n sh) 38)){fr:Frame}{Goal:Goroutine->World->Prop}{cs:List Frame}{K:List Item}{a:Act}
 (hF:aM [(4, .string msg),(5, .int .i64 oc),(6, .int .i64 ot),(7, .string more),(17, .pt b17),(19, .pt b19),(21, .int .i64 q),(22, .string id),(23, .string salt),(24, .string ys),(25, .string path),(26, .string rt)] 137 [] a)
 (next:∀a w',(Below w.heap.size w w'/\aM [(27, .string (ob t 4++ob c 4++id++rt)),(4, .string msg),(5, .int .i64 oc),(6, .int .i64 ot),(7, .string more),(17, .pt b17),(19, .pt b19),(21, .int .i64 q),(22, .string id),(23, .string salt),(24, .string ys),(25, .string path),(26, .string rt)] 137 [] a)->Rn (ac true Tryd.prog) Goal (fr.atR a K) cs w'):
 Rn (ac true Tryd.prog) Goal (fr.atR a (.code (.region 14 (ae Tryd.f6 14) true)::K)) cs w:=by
 refine Rn.grows (fx:=[(4, .string msg),(5, .int .i64 oc),(6, .int .i64 ot),(7, .string more),(17, .pt b17),(19, .pt b19),(21, .int .i64 q),(22, .string id),(23, .string salt),(24, .string ys),(25, .string path),(26, .string rt)]) (ds:=[86,87,88,89,90,91,92,93,94,95,96,27]) (N:=137) (df:=[]) (G:=G6 id rt t c b19) (by kernel_rfl) (by kernel_rfl) (λk v w w' hg _=>LI k v w w' hg) (λm o a w' hm ho hb hfx hne=> ?_)
  (λm a w'=>m=12/\Below w.heap.size w w'/\aM [(27, .string (ob t 4++ob c 4++id++rt)),(4, .string msg),(5, .int .i64 oc),(6, .int .i64 ot),(7, .string more),(17, .pt b17),(19, .pt b19),(21, .int .i64 q),(22, .string id),(23, .string salt),(24, .string ys),(25, .string path),(26, .string rt)] 137 [] a) (λa w' hG=> ?_) (λm o a w' rest hm ho hS hgo=> ?_) (λa w' hS=> ?_) hF.defers hF.size (hF.all (by simp))
 ·have hlt:m<12:=hm
  rcases(by omega:m=0\/m=1\/m=2\/m=3\/m=4\/m=5\/m=6\/m=7\/m=8\/m=9\/m=10\/m=11)with rfl|rfl|rfl|rfl|rfl|rfl|rfl|rfl|rfl|rfl|rfl|rfl
  ·have e2:=aP ho 86 ( .fieldAddr 38 (.tmp 19) 0)
   exact af (bX 0 (by decide) e2 (C5 (hfx _ (mG (i:=5) rfl)))) ⟨rfl,bR⟩
  ·have e2:=aP ho 87 ( .load 3 (.tmp 86))
   obtain⟨u,hu,rfl⟩:=nE hne 0 86
   exact af (ay aQ e2 (C5 hu) ((am ((hb.block _ (gA hkd).1).trans hkd) 0).trans rfl)).1 ⟨rfl,bR⟩
  ·have e2:=aP ho 88 ( .call {callee:= .value (.func 21),args:=#[.tmp 87, .const (.int .i64 4)],argTypes:=#[3,3]})
   obtain⟨u,hu,rfl⟩:=nE hne 1 87
   have hr:=az (w:=w') e2 (show(#[Operand.tmp 87, .const (.int .i64 4)]:Array Operand).map a.eval=#[.int .i64 ((t:Nat):Int), .int .i64 ((4:Nat):Int)]from by simp[C5 hu];rfl) (rI (P:=ac true Tryd.prog) Lf.func21 _)
   exact .inr ⟨_,_,hr.1,(dK (t) 4 w' (by decide) (by omega)).mono λe w'' h=>⟨_,h.1,rfl,h.2⟩⟩
  ·have e2:=aP ho 89 ( .fieldAddr 38 (.tmp 19) 1)
   exact af (bX 1 (by decide) e2 (C5 (hfx _ (mG (i:=5) rfl)))) ⟨rfl,bR⟩
  ·have e2:=aP ho 90 ( .load 3 (.tmp 89))
   obtain⟨u,hu,rfl⟩:=nE hne 3 89
   exact af (ay aQ e2 (C5 hu) ((am ((hb.block _ (gA hkd).1).trans hkd) 1).trans rfl)).1 ⟨rfl,bR⟩
  ·have e2:=aP ho 91 ( .call {callee:= .value (.func 21),args:=#[.tmp 90, .const (.int .i64 4)],argTypes:=#[3,3]})
   obtain⟨u,hu,rfl⟩:=nE hne 4 90
   have hr:=az (w:=w') e2 (show(#[Operand.tmp 90, .const (.int .i64 4)]:Array Operand).map a.eval=#[.int .i64 ((c:Nat):Int), .int .i64 ((4:Nat):Int)]from by simp[C5 hu];rfl) (rI (P:=ac true Tryd.prog) Lf.func21 _)
   exact .inr ⟨_,_,hr.1,(dK (c) 4 w' (by decide) (by omega)).mono λe w'' h=>⟨_,h.1,rfl,h.2⟩⟩
  ·have e2:=aP ho 92 ( .binOp .add 9 (.tmp 88) (.tmp 91) 9)
   obtain⟨u,hu,rfl⟩:=nE hne 2 88
   obtain⟨u2,hu2,rfl⟩:=nE hne 5 91
   exact af (cu e2 (C5 hu) (C5 hu2) (by first|(simp only[aG];omega)|(simp only[ByteArray.size_append,aG];omega))) ⟨rfl,bR⟩
  ·have e2:=aP ho 93 ( .move (.tmp 22))
   exact EU (.inl e2) (hfx _ (mG (i:=7) rfl)) ⟨rfl,bR⟩
  ·have e2:=aP ho 94 ( .binOp .add 9 (.tmp 92) (.tmp 93) 9)
   obtain⟨u,hu,rfl⟩:=nE hne 6 92
   obtain⟨u2,hu2,rfl⟩:=nE hne 7 93
   exact af (cu e2 (C5 hu) (C5 hu2) (by first|(simp only[aG];omega)|(simp only[ByteArray.size_append,aG];omega))) ⟨rfl,bR⟩
  ·have e2:=aP ho 95 ( .move (.tmp 26))
   exact EU (.inl e2) (hfx _ (mG (i:=11) rfl)) ⟨rfl,bR⟩
  ·have e2:=aP ho 96 ( .binOp .add 9 (.tmp 94) (.tmp 95) 9)
   obtain⟨u,hu,rfl⟩:=nE hne 8 94
   obtain⟨u2,hu2,rfl⟩:=nE hne 9 95
   exact af (cu e2 (C5 hu) (C5 hu2) (by first|(simp only[aG];omega)|(simp only[ByteArray.size_append,aG];omega))) ⟨rfl,bR⟩
  ·have e2:=aP ho 27 ( .assign (.tmp 96))
   obtain⟨u,hu,hG⟩:=nE hne 10 96
   exact EU (.inr e2) hu ⟨hG,bR⟩
 ·obtain⟨u,hu,hu2⟩:=hG.come 11 27 rfl trivial
  obtain rfl:=hu2
  exact⟨rfl,hG.old,hG.base.more hu⟩
 ·exact absurd (gA ho).1 (by obtain⟨rfl,_⟩:=hS;decide)
 ·exact next a w' hS.2
structure LP (t c h wd n sh:Nat):Prop where
 wid:pZ wd
 sh:sh<=8
 n1:1<=n
 n2:n<=34*(8/wd)
 n3:n<=136
 h:h<=8
 t:t<1000
 c:c<1000
theorem LK{t c:Nat}(ht:t=226\/t=5)(hc:c<5)(hc2:2<=c):LP t c (cX t) (eW c) (gQ c) (gK c):=by
 rcases(by omega:c=2\/c=3\/c=4)with rfl|rfl|rfl<;>rcases ht with rfl|rfl<;>exact⟨by first|exact .inl rfl|exact .inr (.inl rfl)|exact .inr (.inr rfl),by decide,by decide,by decide,by decide,by decide,by decide,by decide⟩
section
variable{Goal:Goroutine->World->Prop}{cs:List Frame}{w0:World}(hTab:w0.rangeAt 0 0 (aj rN))(h0:0<w0.heap.size)(fin:∀a w',aM [(16, .bool true)] 137 [] a->Below w0.heap.size w0 w'->Rn (ac true Tryd.prog) Goal ((base 6).atR a [.code .ret]) cs w'){cv:Array Value}{b17 b19 t c h wd n sh:Nat}{msg more parts:ByteArray}{chains qi oc ot:Int}(hm:msg.size<=140737488351232)(hmore:more.size<=140737488351232)(hparts:parts.size<=140737488351232)(hch: -9223372036854775808<=chains/\chains<9223372036854775808)(hqi: -9223372036854775808<=qi/\qi<9223372036854775808)(hoc: -9223372036854775808<=oc/\oc<9223372036854775808)(hot: -9223372036854775808<=ot/\ot<9223372036854775808)
include hTab h0 fin hm hmore hoc hot
theorem LX{id salt ys path:ByteArray}{q:Nat}(ok:LP t c h wd n sh)(hq:q<64)(hid:id.size=16)(hsalt:salt.size=32)(hys:ys.size=32*n)(hp:path.size=32*h){w:World}(hR:Rw w0 w cv (aL t c h wd n sh) b17 b19){a:Act}
 (hF:aM [(4, .string msg),(5, .int .i64 oc),(6, .int .i64 ot),(7, .string more),(17, .pt b17),(19, .pt b19),(21, .int .i64 q),(22, .string id),(23, .string salt),(24, .string ys),(25, .string path)] 137 [] a):Rn (ac true Tryd.prog) Goal ((base 6).atR a [.code (M3 Tryd.f6)]) cs w:=by
 obtain⟨k1,k2,k3,k4,k5,k6,k7,k8⟩:=ok
 refine Rn.p rfl (Rn.r (L:=[0,1,2,3,4,5,6,7,8,9]) rfl ?_)
 refine Rn.o hF 77 (.load 24 (.tmp 17)) (λo ho=>dI hR.cst.two ho (hF.get (d:=17) rfl) hR.box) λa hF=> ?_
 refine Rn.o hF 78 (.load 38 (.tmp 19)) (λo ho=>lV ho (hF.get (d:=19) rfl) hR.kd) λa hF=> ?_
 refine Rn.y hF 79 22 rfl λa hF=> ?_
 refine Rn.y hF 80 21 rfl λa hF=> ?_
 refine Rn.y hF 81 23 rfl λa hF=> ?_
 refine Rn.y hF 82 4 rfl λa hF=> ?_
 refine Rn.y hF 83 24 rfl λa hF=> ?_
 refine Rn.y hF 84 25 rfl λa hF=> ?_
 refine Rn.calls (f:=20) (xs:=#[.tmp 77, .tmp 78, .tmp 79, .tmp 80, .tmp 81, .tmp 82, .tmp 83, .tmp 84]) (ats:=#[24,38,9,3,9,9,9,9]) (args:=#[.agg cv, .agg (aL t c h wd n sh), .string id, .int .i64 q, .string salt, .string msg, .string ys, .string path]) hF 85 (by decide) (by kernel_rfl) (by simp[hF.get (d:=77) rfl,hF.get (d:=78) rfl,hF.get (d:=79) rfl,hF.get (d:=80) rfl,hF.get (d:=81) rfl,hF.get (d:=82) rfl,hF.get (d:=83) rfl,hF.get (d:=84) rfl]) Lf.func20 (by kernel_rfl) (by kernel_rfl)
  (R:=λv w'=>∃rt:ByteArray,v= .string rt/\rt.size=32/\Below w.heap.size w w') ((BN ey EP id salt msg ys path t c h wd sh n q k1 k2 k3 k4 k6 (by omega) (by omega) (by omega) (by omega) (by omega) w hR.cst).mono λe w' h=>⟨_,h.1,_,rfl,y7 _ _ _ _ _ (iv _ _) _,h.2⟩) λv w1 hv a hF=> ?_
 obtain⟨rt,rfl,hrt,hb1⟩:=hv
 have hR:=hR.mono hb1
 refine Rn.s hF 26 85 rfl λa hF=> ?_
 refine Rn.p rfl (Rn.p rfl ?_)
 refine LS k7 k8 (by omega) (by omega) hR.kd (hF.only ⟨rfl,rfl,rfl,rfl,rfl,rfl,rfl,rfl,rfl,rfl,rfl,rfl,trivial⟩) λa w2 ⟨hb2,hF⟩=> ?_
 have hR:=hR.mono hb2
 refine Rn.p rfl (Rn.r (L:=[0,1,2]) rfl ?_)
 refine Rn.kf hF 97 98 19 1 (.int .i64 c) rfl hR.kd (by decide) rfl λa hF=> ?_
 refine Rn.s hF 28 98 rfl λa hF=> ?_
 refine Rn.p rfl (Rn.p rfl (Rn.p rfl (Rn.r (L:=[0,1,2]) rfl ?_)))
 refine Rn.y hF 99 5 rfl λa hF=> ?_
 refine Rn.pick hF 100 99 4 rfl hoc (by decide) λr hr a hF=> ?_
 refine Rn.o hF 101 (.binOp .eql 3 (.tmp 100) (.const (.int .i64 0)) 3) (λo ho=>mJ ho (hF.get (d:=100) rfl) rfl) λa hF=> ?_
 refine Rn.p rfl (Rn.cond _ (hF.get (d:=101) rfl) ?_)
 have hk:(ob t 4++ob c 4++id++rt).size<=1125899906842624:=by simp only[ByteArray.size_append,aG];omega
 cases ((r:Int)==0)with
 |true=>
  refine Rn.r (L:=[0,1]) rfl ?_
  refine Rn.y hF 102 5 rfl λa hF=> ?_
  refine Rn.s hF 28 102 rfl λa hF=> ?_
  exact Rn.p rfl (LR hTab h0 fin hm hk hmore hsalt (by omega) (by omega) hot hR (hF.only ⟨rfl,rfl,rfl,rfl,rfl,rfl,rfl,rfl,rfl,rfl,rfl,trivial⟩))
 |false=>exact Rn.p rfl (LR hTab h0 fin hm hk hmore hsalt (by omega) (by omega) hot hR (hF.only ⟨rfl,rfl,rfl,rfl,rfl,rfl,rfl,rfl,rfl,rfl,rfl,trivial⟩))
include hparts hqi
theorem M8(ok:LP t c h wd n sh){w:World}(hR:Rw w0 w cv (aL t c h wd n sh) b17 b19){a:Act}
 (hF:aM [(2, .int .i64 qi),(3, .string parts),(4, .string msg),(5, .int .i64 oc),(6, .int .i64 ot),(7, .string more),(17, .pt b17),(19, .pt b19)] 137 [] a):Rn (ac true Tryd.prog) Goal ((base 6).atR a [.code (t8 Tryd.f6)]) cs w:=by
 have hz:∀b:UInt8,(parts++⟨#[b]⟩).size=parts.size+1:=λb=>ByteArray.size_append
 have h5:=ok.n3
 have h6:=ok.h
 refine Rn.p rfl (Rn.r (L:=[0,1,2]) rfl ?_)
 refine Rn.y hF 58 2 rfl λa hF=> ?_
 refine Rn.pick hF 59 58 64 rfl hqi (by decide) λq hq a hF=> ?_
 refine Rn.s hF 21 59 rfl λa hF=> ?_
 refine Rn.p rfl (Rn.p rfl (Rn.r (L:=[0,1,2]) rfl ?_))
 refine Rn.y hF 60 3 rfl λa hF=> ?_
 refine Rn.long hF 61 60 16 (.const (.int .i64 16)) rfl rfl (by omega) (by decide) λid hid a hF=> ?_
 refine Rn.s hF 22 61 rfl λa hF=> ?_
 refine Rn.p rfl (Rn.p rfl (Rn.r (L:=[0,1,2,3]) rfl ?_))
 refine Rn.y hF 62 3 rfl λa hF=> ?_
 refine Rn.o hF 63 (.binOp .add 9 (.tmp 62) (.const (.string ⟨#[99]⟩)) 9) (λo ho=>cu ho (hF.get (d:=62) rfl) rfl (show parts.size+1<=_ by omega)) λa hF=> ?_
 refine Rn.long hF 64 63 32 (.const (.int .i64 32)) rfl rfl (by rw[hz];omega) (by decide) λsalt hsalt a hF=> ?_
 refine Rn.s hF 23 64 rfl λa hF=> ?_
 refine Rn.p rfl (Rn.p rfl (Rn.r (L:=[0,1,2,3,4,5,6]) rfl ?_))
 refine Rn.y hF 65 3 rfl λa hF=> ?_
 refine Rn.o hF 66 (.binOp .add 9 (.tmp 65) (.const (.string ⟨#[121]⟩)) 9) (λo ho=>cu ho (hF.get (d:=65) rfl) rfl (show parts.size+1<=_ by omega)) λa hF=> ?_
 refine Rn.kf hF 67 68 19 4 (.int .i64 n) rfl hR.kd (by decide) rfl λa hF=> ?_
 refine Rn.o hF 69 (.binOp .mul 3 (.const (.int .i64 32)) (.tmp 68) 3) (λo ho=>(dA (m:=32) ho rfl (hF.get (d:=68) rfl) (by omega)).1) λa hF=> ?_
 refine Rn.long hF 70 66 (32*n) (.tmp 69) rfl ((hF.get (d:=69) rfl).trans (congrArg (Value.int .i64) (by omega))) (by rw[hz];omega) (by omega) λys hys a hF=> ?_
 refine Rn.s hF 24 70 rfl λa hF=> ?_
 refine Rn.p rfl (Rn.p rfl (Rn.r (L:=[0,1,2,3,4,5,6]) rfl ?_))
 refine Rn.y hF 71 3 rfl λa hF=> ?_
 refine Rn.o hF 72 (.binOp .add 9 (.tmp 71) (.const (.string ⟨#[112]⟩)) 9) (λo ho=>cu ho (hF.get (d:=71) rfl) rfl (show parts.size+1<=_ by omega)) λa hF=> ?_
 refine Rn.kf hF 73 74 19 2 (.int .i64 h) rfl hR.kd (by decide) rfl λa hF=> ?_
 refine Rn.o hF 75 (.binOp .mul 3 (.const (.int .i64 32)) (.tmp 74) 3) (λo ho=>(dA (m:=32) ho rfl (hF.get (d:=74) rfl) (by omega)).1) λa hF=> ?_
 refine Rn.long hF 76 72 (32*h) (.tmp 75) rfl ((hF.get (d:=75) rfl).trans (congrArg (Value.int .i64) (by omega))) (by rw[hz];omega) (by omega) λpath hp a hF=> ?_
 refine Rn.s hF 25 76 rfl λa hF=> ?_
 exact Rn.p rfl (LX hTab h0 fin hm hmore hoc hot ok hq hid hsalt hys hp hR (hF.only ⟨rfl,rfl,rfl,rfl,rfl,rfl,rfl,rfl,rfl,rfl,rfl,trivial⟩))
end
section
variable{Goal:Goroutine->World->Prop}{cs:List Frame}{w0:World}(hTab:w0.rangeAt 0 0 (aj rN))(h0:0<w0.heap.size)(fin:∀a w',aM [(16, .bool true)] 137 [] a->Below w0.heap.size w0 w'->Rn (ac true Tryd.prog) Goal ((base 6).atR a [.code .ret]) cs w'){cv:Array Value}{b17 t:Nat}{msg more parts:ByteArray}{chains qi oc ot:Int}(hm:msg.size<=140737488351232)(hmore:more.size<=140737488351232)(hparts:parts.size<=140737488351232)(hch: -9223372036854775808<=chains/\chains<9223372036854775808)(hqi: -9223372036854775808<=qi/\qi<9223372036854775808)(hoc: -9223372036854775808<=oc/\oc<9223372036854775808)(hot: -9223372036854775808<=ot/\ot<9223372036854775808)
include hTab h0 fin hm hmore hparts hch hqi hoc hot
theorem M9(ht:t=226\/t=5){w:World}(hold:Below w0.heap.size w0 w)(hC:rM rN cv w)(hbox:w.heap[b17]?=some (.cells cv 24)){a:Act}
 (hF:aM [(1, .int .i64 chains),(2, .int .i64 qi),(3, .string parts),(4, .string msg),(5, .int .i64 oc),(6, .int .i64 ot),(7, .string more),(17, .pt b17),(18, .int .i64 t)] 137 [] a):Rn (ac true Tryd.prog) Goal ((base 6).atR a [.code (t5 Tryd.f6)]) cs w:=by
 refine Rn.p rfl (Rn.r (L:=[0,1,2,3,4,5,6,7,8,9,10]) rfl ?_)
 refine Rn.y hF 38 18 rfl λa hF=> ?_
 refine Rn.y hF 39 1 rfl λa hF=> ?_
 refine Rn.pick hF 40 39 3 rfl hch (by decide) λr hr a hF=> ?_
 refine Rn.o hF 41 (.binOp .add 3 (.const (.int .i64 2)) (.tmp 40) 3) (λo ho=>da (m:=2) ho rfl (hF.get (d:=40) rfl) (by omega)) λa hF=> ?_
 rw[show(2:Int)+(r:Int)=((2+r:Nat):Int)from by omega]at hF
 have ok:=LK ht (c:=2+r) (by omega) (by omega)
 have ok2:=LK ht (c:=2) (by decide) (by decide)
 revert ok hF
 generalize 2+r=c
 intro hF ok
 refine Rn.calls (f:=18) (xs:=#[.tmp 38, .tmp 41]) (ats:=#[3,3]) (args:=#[.int .i64 t, .int .i64 c]) hF 42 (by decide) (by kernel_rfl) (by simp only[List.map_toArray,List.map_cons,List.map_nil,hF.get (d:=38) rfl,hF.get (d:=41) rfl]) Lf.func18 (by kernel_rfl) (by kernel_rfl)
  (R:=λv w'=>(∃q:Bool,v= .tuple #[.agg (aL t c (cX t) (eW c) (gQ c) (gK c)), .bool q])/\Below w.heap.size w w') ((yr t c w).mono λe w' h=>⟨_,h.1,⟨_,rfl⟩,h.2⟩) λv w1 hv a hF=> ?_
 obtain⟨⟨q,rfl⟩,hb1⟩:=hv
 have hold1:=ah hold hold.size hb1
 have hC1:=hC.mono hb1
 have hbox1:=(hb1.block _ (gA hbox).1).trans hbox
 have hlt17:=(gA hbox1).1
 refine Rn.y hF 37 42 rfl λa hF=> ?_
 refine Rn.o hF 43 (.extract (.tmp 37) 0) (λo ho=>fg ho (hF.get (d:=37) rfl) rfl) λa hF=> ?_
 refine Rn.o hF 44 (.extract (.tmp 37) 1) (λo ho=>fg ho (hF.get (d:=37) rfl) rfl) λa hF=> ?_
 refine Rn.o hF 19 (.alloc 38) (λo ho=>uw ho) λa hF=> ?_
 have h9:=aC w1 (.cells (aL 0 0 0 0 0 0) 38)
 have hb2:=an w1 (.cells (aL 0 0 0 0 0 0) 38)
 revert h9 hb2
 generalize w1.alloc (.cells (aL 0 0 0 0 0 0) 38)=w2
 intro h9 hb2
 refine Rn.does0 hF (.store 38 (.tmp 19) (.tmp 43)) (by kernel_rfl) (by simp) (λo ho=>cr (cells:=(aL t c (cX t) (eW c) (gQ c) (gK c))) ho (hF.get (d:=19) rfl) (hF.get (d:=43) rfl) h9 uB rfl (by simp[aL,Value.oneCell'])) λa hF=> ?_
 have hkd:=setRow_heap w2 w1.heap.size _ (aL t c (cX t) (eW c) (gQ c) (gK c)) _ _ h9
 have hb3:Below w1.heap.size w1 (w2.setRow w1.heap.size (aL t c (cX t) (eW c) (gQ c) (gK c))):=hb2.trans (cx _ _ _ (Nat.le_refl _))
 revert hkd hb3
 generalize w2.setRow w1.heap.size (aL t c (cX t) (eW c) (gQ c) (gK c))=w3
 intro hkd hb3
 have mk:∀{w':World} {kd:Array Value},Below w1.heap.size w1 w'->w'.heap[w1.heap.size]?=some (.cells kd 38)->Rw w0 w' cv kd b17 w1.heap.size:=λhb hk=>⟨ah hold1 hold1.size hb,hC1.mono hb,(hb.block _ hlt17).trans hbox1,hk⟩
 have hR:=mk hb3 hkd
 clear h9 hb2
 refine Rn.s hF 20 44 rfl λa hF=> ?_
 have hF:aM [(1, .int .i64 chains),(2, .int .i64 qi),(3, .string parts),(4, .string msg),(5, .int .i64 oc),(6, .int .i64 ot),(7, .string more),(17, .pt b17),(18, .int .i64 t),(19, .pt w1.heap.size)] 137 [] a:=hF.only ⟨rfl,rfl,rfl,rfl,rfl,rfl,rfl,rfl,rfl,rfl,trivial⟩
 refine Rn.p rfl (Rn.p rfl (Rn.p rfl (Rn.r (L:=[0,1,2,3,4,5,6,7]) rfl ?_)))
 refine Rn.y hF 45 1 rfl λa hF=> ?_
 refine Rn.pick hF 46 45 3 rfl hch (by decide) λr1 hr1 a hF=> ?_
 refine Rn.o hF 47 (.binOp .eql 3 (.tmp 46) (.const (.int .i64 2)) 3) (λo ho=>mJ ho (hF.get (d:=46) rfl) rfl) λa hF=> ?_
 revert hF
 generalize ((r1:Int)==2)=q1
 intro hF
 refine Rn.y hF 48 47 rfl λa hF=> ?_
 refine Rn.g hF 49 (.move (.tmp 1)) 3 48 q1 (λv=>v= .int .i64 chains) rfl (by simp) (λ_ o ho=>af (by rw[bI (.inl ho),hF.get (d:=1) rfl]) ⟨rfl,rfl⟩) λv1 a hv1 hF=> ?_
 refine Rn.g hF 50 (.call {callee:= .value (.func 17),args:=#[.tmp 49, .const (.int .i64 16)],argTypes:=#[3,3]}) 3 48 q1 (λv=>∃r:Nat,v= .int .i64 r) rfl (by simp) (λhq o ho=> ?_) λv2 a hv2 hF=> ?_
 ·obtain rfl:=hv1 hq
  have hr:=az (w:=w3) (ev:=a.eval) ho (show(#[Operand.tmp 49, .const (.int .i64 16)]:Array Operand).map a.eval=#[.int .i64 chains, .int .i64 ((16:Nat):Int)]from by simp only[List.map_toArray,List.map_cons,List.map_nil,hF.get (d:=49) rfl];rfl) (rI (P:=ac true Tryd.prog) Lf.func17 _)
  exact .inr ⟨_,_,hr.1,(Ls chains 16 hch (by decide) w3).mono λe w'' ⟨r,h1,h2,h3⟩=>⟨_,h1,⟨r,rfl⟩,h3⟩⟩
 refine Rn.g hF 51 (.binOp .neq 3 (.tmp 50) (.const (.int .i64 2)) 3) 3 48 q1 (λv=>∃q:Bool,v= .bool q) rfl (by simp) (λhq o ho=> ?_) λv3 a hv3 hF=> ?_
 ·obtain⟨r,rfl⟩:=hv2 hq
  exact af (oa ho (hF.get (d:=50) rfl) rfl) ⟨⟨_,rfl⟩,rfl⟩
 have e52:∃q2:Bool,(if q1=true then a.eval (.tmp 51)else a.eval (.const (.bool false)))= .bool q2:=by
  cases q1 with
  |true=>
   obtain⟨q2,rfl⟩:=hv3 rfl
   exact⟨q2,hF.get (d:=51) rfl⟩
  |false=>exact⟨false,rfl⟩
 obtain⟨q2,e52⟩:=e52
 refine Rn.o hF 52 (.pick (.tmp 48) (.tmp 51) (.const (.bool false))) (λo ho=>(jG ho (hF.get (d:=48) rfl)).trans (by rw[e52])) λa hF=> ?_
 refine Rn.p rfl (Rn.cond _ (hF.get (d:=52) rfl) ?_)
 have hF:aM [(2, .int .i64 qi),(3, .string parts),(4, .string msg),(5, .int .i64 oc),(6, .int .i64 ot),(7, .string more),(17, .pt b17),(18, .int .i64 t),(19, .pt w1.heap.size)] 137 [] a:=hF.only ⟨rfl,rfl,rfl,rfl,rfl,rfl,rfl,rfl,rfl,trivial⟩
 cases q2 with
 |false=>exact Rn.p rfl (M8 hTab h0 fin hm hmore hparts hqi hoc hot ok hR (hF.only ⟨rfl,rfl,rfl,rfl,rfl,rfl,rfl,rfl,trivial⟩))
 |true=>
  refine Rn.r (L:=[0,1,2,3,4,5]) rfl ?_
  refine Rn.y hF 54 18 rfl λa hF=> ?_
  refine Rn.calls (f:=18) (xs:=#[.tmp 54, .const (.int .i64 2)]) (ats:=#[3,3]) (args:=#[.int .i64 t, .int .i64 ((2:Nat):Int)]) hF 55 (by decide) (by kernel_rfl) (by simp only[List.map_toArray,List.map_cons,List.map_nil,hF.get (d:=54) rfl];rfl) Lf.func18 (by kernel_rfl) (by kernel_rfl)
   (R:=λv w'=>(∃q:Bool,v= .tuple #[.agg (aL t ((2:Nat):Int) (cX t) (eW ((2:Nat):Int)) (gQ ((2:Nat):Int)) (gK ((2:Nat):Int))), .bool q])/\Below w3.heap.size w3 w') ((yr t ((2:Nat):Int) w3).mono λe w' h=>⟨_,h.1,⟨_,rfl⟩,h.2⟩) λv w4 hv a hF=> ?_
  obtain⟨⟨q,rfl⟩,hb4⟩:=hv
  have hb14:=ah hb3 hb3.size hb4
  have hkd4:=(hb4.block _ (gA hkd).1).trans hkd
  refine Rn.y hF 53 55 rfl λa hF=> ?_
  refine Rn.o hF 56 (.extract (.tmp 53) 0) (λo ho=>fg ho (hF.get (d:=53) rfl) rfl) λa hF=> ?_
  refine Rn.o hF 57 (.extract (.tmp 53) 1) (λo ho=>fg ho (hF.get (d:=53) rfl) rfl) λa hF=> ?_
  refine Rn.does0 hF (.store 38 (.tmp 19) (.tmp 56)) (by kernel_rfl) (by simp) (λo ho=>cr (cells:=(aL t ((2:Nat):Int) (cX t) (eW ((2:Nat):Int)) (gQ ((2:Nat):Int)) (gK ((2:Nat):Int)))) ho (hF.get (d:=19) rfl) (hF.get (d:=56) rfl) hkd4 uB rfl (by simp[aL,Value.oneCell'])) λa hF=> ?_
  exact Rn.p rfl (M8 hTab h0 fin hm hmore hparts hqi hoc hot ok2 (mk (hb14.trans (cx _ _ _ (Nat.le_refl _))) (setRow_heap w4 w1.heap.size _ (aL t ((2:Nat):Int) (cX t) (eW ((2:Nat):Int)) (gQ ((2:Nat):Int)) (gK ((2:Nat):Int))) _ _ hkd4)) (hF.only ⟨rfl,rfl,rfl,rfl,rfl,rfl,rfl,rfl,trivial⟩))
end
theorem Lf.func6{q:Bool}:(ac q Tryd.prog).funcs[6]?=some Tryd.f6:=aB Tryd.func6 (by decide) rfl rfl (by kernel_rfl)
theorem LL(tree chains qi:Int)(parts msg:ByteArray)(oc ot:Int)(more:ByteArray)(htr: -9223372036854775808<=tree/\tree<9223372036854775808)(hch: -9223372036854775808<=chains/\chains<9223372036854775808)(hqi: -9223372036854775808<=qi/\qi<9223372036854775808)(hoc: -9223372036854775808<=oc/\oc<9223372036854775808)(hot: -9223372036854775808<=ot/\ot<9223372036854775808)(hparts:parts.size<=140737488351232)(hm:msg.size<=140737488351232)(hmore:more.size<=140737488351232)(w:World)(hTab:w.rangeAt 0 0 (aj rN))(h0:0<w.heap.size):
 Calls (ac true Tryd.prog) 6 #[.int .i64 tree, .int .i64 chains, .int .i64 qi, .string parts, .string msg, .int .i64 oc, .int .i64 ot, .string more] w λe w'=>e= .returned (.bool true)/\Below w.heap.size w w':=by
 refine bF (t:=16) Lf.func6 rfl λcs=> ?_
 rw[bW (N:=137) [.int .i64 tree, .int .i64 chains, .int .i64 qi, .string parts, .string msg, .int .i64 oc, .int .i64 ot, .string more] Lf.func6 LU rfl]
 have hF:=bm [.int .i64 tree, .int .i64 chains, .int .i64 qi, .string parts, .string msg, .int .i64 oc, .int .i64 ot, .string more] 137 (by simp)
 refine Rn.p rfl (Rn.r (L:=[0]) rfl ?_)
 refine Rn.c hF 16 (.bool false) λa hF=> ?_
 refine Rn.p rfl (Rn.p rfl (Rn.r (L:=[0,1,2]) rfl ?_))
 refine Rn.calls (f:=8) (xs:=#[]) (ats:=#[]) (args:=#[]) hF 33 (by decide) (by kernel_rfl) (by simp) Lf.func8 (by kernel_rfl) (by kernel_rfl)
  (R:=λv w'=>∃cv,v= .agg cv/\rM rN cv w'/\Below w.heap.size w w') ((uq w).mono λe w' ⟨h1,h2,h3,h4,h5⟩=>⟨_,h1,_,rfl,⟨w.heap.size+1,8,w.heap.size+1+1,64,rfl,h3,by omega,h4,by omega⟩,h2⟩) λv w1 hv a hF=> ?_
 obtain⟨cv,rfl,hC,hb1⟩:=hv
 have hone:cv.size=2/\cv.all (·.oneCell')=true:=by
  obtain⟨hb,c1,kb,c2,rfl,_⟩:=hC
  exact⟨rfl,by simp[Value.oneCell']⟩
 refine Rn.o hF 17 (.alloc 24) (λo ho=>HF ho) λa hF=> ?_
 have h7:=aC w1 (.cells #[.slice none 0 0, .slice none 0 0] 24)
 have hb2:=an w1 (.cells #[.slice none 0 0, .slice none 0 0] 24)
 revert h7 hb2
 generalize w1.alloc (.cells #[.slice none 0 0, .slice none 0 0] 24)=w2
 intro h7 hb2
 refine Rn.does0 hF (.store 24 (.tmp 17) (.tmp 33)) (by kernel_rfl) (by simp) (λo ho=>cr (cells:=cv) ho (hF.get (d:=17) rfl) (hF.get (d:=33) rfl) h7 (by rw[hone.1];exact JP) (by rw[hone.1];rfl) hone.2) λa hF=> ?_
 have h7':=setRow_heap w2 w1.heap.size _ cv _ _ h7
 have hB2:Below w1.heap.size w1 (w2.setRow w1.heap.size cv):=hb2.trans (cx _ _ _ (Nat.le_refl _))
 revert h7' hB2
 generalize w2.setRow w1.heap.size cv=w3
 intro h7' hB2
 have hB3:Below w.heap.size w w3:=ah hb1 hb1.size hB2
 have hC3:=hC.mono hB2
 refine Rn.p rfl (Rn.p rfl (Rn.r (L:=[0]) rfl ?_))
 refine Rn.c hF 18 (.int .i64 226) λa hF=> ?_
 refine Rn.p rfl (Rn.p rfl (Rn.p rfl (Rn.r (L:=[0,1,2]) rfl ?_)))
 refine Rn.y hF 34 0 rfl λa hF=> ?_
 refine Rn.pick hF 35 34 4 rfl htr (by decide) λr hr a hF=> ?_
 refine Rn.o hF 36 (.binOp .eql 3 (.tmp 35) (.const (.int .i64 0)) 3) (λo ho=>mJ ho (hF.get (d:=35) rfl) rfl) λa hF=> ?_
 refine Rn.p rfl (Rn.cond _ (hF.get (d:=36) rfl) ?_)
 have fin:∀a w',aM [(16, .bool true)] 137 [] a->Below w.heap.size w w'->Rn (ac true Tryd.prog) (λg w'=>∃(a:Act) (k:List Item) (v:Value),g=hU {(base 6).atR a k with mode:= .returning} cs/\a.defers=[]/\a.tmps[16]?=some v/\Ending.returned v= .returned (.bool true)/\Below w.heap.size w w') ((base 6).atR a [.code .ret]) cs w':=λa w' hF hb=>Rn.ends rfl (.inr ⟨_,rfl⟩) (Rn.now ⟨a,_,_,rfl,hF.defers,hF.slot 16 _ rfl,rfl,hb⟩)
 cases ((r:Int)==0)with
 |true=>
  refine Rn.r (L:=[0]) rfl ?_
  refine Rn.c hF 18 (.int .i64 5) λa hF=> ?_
  exact Rn.p rfl (M9 (t:=5) hTab h0 fin hm hmore hparts hch hqi hoc hot (.inr rfl) hB3 hC3 h7' (hF.only ⟨rfl,rfl,rfl,rfl,rfl,rfl,rfl,rfl,rfl,trivial⟩))
 |false=>exact Rn.p rfl (M9 (t:=226) hTab h0 fin hm hmore hparts hch hqi hoc hot (.inl rfl) hB3 hC3 h7' (hF.only ⟨rfl,rfl,rfl,rfl,rfl,rfl,rfl,rfl,rfl,trivial⟩))
end Go.Proofs.YtkmoglhgkcnalaaDoor.L1
namespace Go.Proofs.YtkmoglhgkcnalaaDoor.rooted
open Go Go.Conc Go.ChangeShapes Go.WideShapes Go.ChangeAt Go.RowKit Go.Proofs.YtkmoglhgkcnalaaDoor
open Go.ChangeMaps (open_string shut_string)
section
variable{H:Type}{enc:TypeId×Value->H}
theorem ri{a:Assume}{C:Checked}{os:Os}{f:FuncId}{fn:Func}{s:ChangeSpec}{conds:List PathCond}{apart fresh handsOn again:Bool}{laid:List (String×DataW Unit)}
 (own:ownKnob C.prog.godebug=none) (started:os.Started) (hfn:C.prog.funcs[f]?=some fn)
 (witness:∃(w:World) (tape:Tape) (i:Input),w.os=os/\(w.forCall tape i).Shaped C.prog/\i.vars=[]/\Input.okWide C.prog (w.forCall tape i) .any w.heap.size f i/\
   (OpenSpec.ofChange s).preRow enc C.prog fn conds apart laid (w.forCall tape i).memory i.args/\a.holds C.prog (lone (Frame.enter C.prog f i.args .normal) [] (w.forCall tape i)))
 (runs:∀(W:World) (base:Nat) (args:Array Value) (ds gs:List (DataW H)) (before:List MemPlace),
   (∀(j:Nat) t v,fn.params[j]?=some t->args[j]?=some v->Value.okWide C.prog W .any base t v)->
   DataW.Whole enc C.prog fn.params.toList s.vars apart W args.toList ds gs before->
   (DataW.weightsEach C.prog (fn.params.toList++(OpenSpec.ofChange s).bare.plain.varTypes C.prog) (ds++gs)).all (· <=reachBytes)=true->
   laidMetH C.prog laid W->W.ShapedOpen C.prog->
   cZ C.prog (λv W'=>s.post enc C.prog fn apart fresh handsOn again W args v W') (solo (Conc.G (Frame.enter C.prog f args .normal) []) W) #[]):
 ReturnsInLeavingWide a C os f .any ((OpenSpec.ofChange s).preRow enc C.prog fn conds apart laid) (s.post enc C.prog fn apart fresh handsOn again):=by
 refine returnsInLeavingWide_of_good own started witness ?_
 intro w tape i _ hsh _ hok hpre hholds
 obtain⟨_,_,_,fn',hfn',_,_,_,_,hval⟩:=hok
 have e:fn'=fn:=Option.some.inj (hfn'.symm.trans hfn)
 subst e
 obtain⟨⟨hp,hl⟩,hz⟩:=hpre
 obtain⟨ds,gs,before,hw,hc,hk⟩:=OpenSpec.pre_parts hp
 have hw':=DataW.Whole.of_heap (w':=w.forCall tape i) (by rfl) hw
 obtain⟨M,last,o,w',t',h1,h2,h3,h4⟩:=runs (w.forCall tape i) w.heap.size i.args ds gs before hval hw' (hz.weights hw) (hl.of_heap (by rfl)) hsh
 exact⟨M,last,o,w',t',h1,h2,h3,h4.mono λv hp=>ChangeSpec.post_blind hp⟩
end
theorem own:ownKnob Tryd.prog.godebug=none:=by kernel_rfl
theorem JU:Tryd.prog.globalNamed "lintel/digest.roots" =some 0:=by kernel_rfl
theorem Dx:(Tryd.prog.globals[0]?).map (·.type)=some 85:=by kernel_rfl
theorem Gt:Tryd.prog.cellsOf 85=64:=by kernel_rfl
theorem Gu:Tryd.prog.cellsOf 52=1:=by kernel_rfl
theorem Jv{W:World}(h:laidMetH Tryd.prog Rows.rootedRow.laid W):Lib.TabIs Tryd.prog W "lintel/digest.roots" .u32 rN:=
 Lib.tabIs_of_head (rest:=[]) JU Dx Tryd.underlying85 Tryd.underlying52 Gu Gt h
theorem Jy:(((begin Tryd.prog (λ_ _=>0) default).world.heap[0]?).bind Obj.row?).map (λp=>p.1.size)=some 64:=by kernel_rfl
theorem Jx:((((begin Tryd.prog (λ_ _=>0) default).world.heap[1]?).bind Obj.row?).isSome)=true:=by kernel_rfl
theorem KX:Tryd.prog.globals.size=2:=by kernel_rfl
theorem Gx:eM false (Tryd.f6.body.getD .skip)=true:=by kernel_rfl
theorem E1(H:Type)(enc:TypeId×Value->H)(W:World)(base:Nat)(args:Array Value)(ds gs:List (DataW H))(before:List MemPlace)
 (hval:∀(j:Nat) t v,Tryd.f6.params[j]?=some t->args[j]?=some v->Value.okWide Tryd.prog W .any base t v)
 (hW:DataW.Whole enc Tryd.prog Tryd.f6.params.toList Rows.rootedSpec.vars false W args.toList ds gs before)
 (hR:(DataW.weightsEach Tryd.prog (Tryd.f6.params.toList++(OpenSpec.ofChange Rows.rootedSpec).bare.plain.varTypes Tryd.prog) (ds++gs)).all (· <=reachBytes)=true)
 (hL:laidMetH Tryd.prog Rows.rootedRow.laid W) (hsh:W.ShapedOpen Tryd.prog):
 cZ Tryd.prog (λv W'=>Rows.rootedSpec.post enc Tryd.prog Tryd.f6 false true false false W args v W') (solo (Conc.G (Frame.enter Tryd.prog 6 args .normal) []) W) #[]:=by
 have hW':=hW
 obtain⟨p,q,hA0,hV,rfl,hfz,hnd⟩:=hW
 have hA:DataW.TrodAll enc Tryd.prog W 0 (λ_=>true) true Tryd.f6.params.toList args.toList ds p:=hA0
 rw[Tryd.params6]at hA hval
 obtain⟨v0,vs0,d0,ds0,p0,q0,hargs,rfl,rfl,h0,r0⟩:=trodAll_cons hA
 obtain⟨v1,vs1,d1,ds1,p1,q1,rfl,rfl,rfl,h1,r1⟩:=trodAll_cons r0
 obtain⟨v2,vs2,d2,ds2,p2,q2,rfl,rfl,rfl,h2,r2⟩:=trodAll_cons r1
 obtain⟨v3,vs3,d3,ds3,p3,q3,rfl,rfl,rfl,h3,r3⟩:=trodAll_cons r2
 obtain⟨v4,vs4,d4,ds4,p4,q4,rfl,rfl,rfl,h4,r4⟩:=trodAll_cons r3
 obtain⟨v5,vs5,d5,ds5,p5,q5,rfl,rfl,rfl,h5,r5⟩:=trodAll_cons r4
 obtain⟨v6,vs6,d6,ds6,p6,q6,rfl,rfl,rfl,h6,r6⟩:=trodAll_cons r5
 obtain⟨v7,vs7,d7,ds7,p7,q7,rfl,rfl,rfl,h7,r7⟩:=trodAll_cons r6
 obtain⟨rfl,rfl,rfl⟩:=trodAll_nil r7
 obtain rfl:args=#[v0,v1,v2,v3,v4,v5,v6,v7]:=by cases args;simp_all
 obtain⟨rfl,rfl⟩:=trodVars_none hV
 obtain⟨a0,rfl,rfl,rfl,w0⟩:=open_int Tryd.underlying3 (hval 0 3 v0 rfl rfl) h0
 obtain⟨a1,rfl,rfl,rfl,w1⟩:=open_int Tryd.underlying3 (hval 1 3 v1 rfl rfl) h1
 obtain⟨a2,rfl,rfl,rfl,w2⟩:=open_int Tryd.underlying3 (hval 2 3 v2 rfl rfl) h2
 obtain⟨a3,rfl,rfl,rfl,w3⟩:=open_string Tryd.underlying9 (hval 3 9 v3 rfl rfl) h3
 obtain⟨a4,rfl,rfl,rfl,w4⟩:=open_string Tryd.underlying9 (hval 4 9 v4 rfl rfl) h4
 obtain⟨a5,rfl,rfl,rfl,w5⟩:=open_int Tryd.underlying3 (hval 5 3 v5 rfl rfl) h5
 obtain⟨a6,rfl,rfl,rfl,w6⟩:=open_int Tryd.underlying3 (hval 6 3 v6 rfl rfl) h6
 obtain⟨a7,rfl,rfl,rfl,w7⟩:=open_string Tryd.underlying9 (hval 7 9 v7 rfl rfl) h7
 have tab:=Jv hL
 have hK:W.rangeAt 0 0 (aj rN):=λj v hv=>by
  have hj:j<64:=by have:=(List.getElem?_eq_some_iff.1 hv).1;rwa [aD,ey]at this
  have:=tab.cell JU j (by rw[ey];exact hj)
  rw[Nat.zero_add,this,←hv,I1 rN j (by rw[ey];exact hj)]
 simp[DataW.weightsEach,DataW.weights]at hR
 have hb:∀x:ByteArray,x.data.size<=reachBytes->x.size<=140737488351232:=λx h=>Nat.le_trans h (by decide)
 have hi:∀z:Int,(Lit.int .i64 z).wf=true-> -9223372036854775808<=z/\z<9223372036854775808:=λz h=>by
  have h1:IntKind.i64.min= -9223372036854775808:=rfl
  have h2:IntKind.i64.max=9223372036854775807:=rfl
  simp[Lit.wf,h1,h2]at h
  omega
 clear hA0
 obtain⟨⟨z0,t0⟩,hz0,hz64⟩:=Option.map_eq_some_iff.1 Jy
 obtain⟨⟨z1,t1⟩,hz1⟩:=Option.isSome_iff_exists.1 Jx
 obtain⟨cl,hcl,hclsz,_⟩:=hsh.1 0 z0 t0 (by rw[KX];decide) hz0
 obtain⟨c1,hc1,_,_⟩:=hsh.1 1 z1 t1 (by rw[KX];decide) hz1
 have hW2:2<=W.heap.size:=(gA hc1).1
 have hz64:z0.size=64:=hz64
 have hplain:∀v∈cl,aI v=true:=by
  intro v hv
  obtain⟨j,hj,rfl⟩:=Array.mem_iff_getElem.1 hv
  have hj64:j<rN.length:=by rw[ey];omega
  have hc:=hK j _ (I1 rN j hj64)
  rw[Nat.zero_add]at hc
  have hc2:W.cell? ⟨0,j,none⟩=cl[j]?:=by simp[World.cell?,hcl]
  rw[hc2,Array.getElem?_eq_getElem hj]at hc
  rw[Option.some.inj hc]
  rfl
 have hrun:=yp (f:=6) (r:=16) (args:=#[.int .i64 a0, .int .i64 a1, .int .i64 a2, .string a3, .string a4, .int .i64 a5, .int .i64 a6, .string a7]) (v:= .bool true) (W:=W) (KS:=rN) Tryd.func6 (c:=Tryd.f6.body.getD .skip) rfl Gx rfl rfl (by decide) (by decide) (by kernel_rfl)
  (λv hv=>by
    simp only[List.mem_toArray,List.mem_cons,List.not_mem_nil,or_false]at hv
    rcases hv with rfl|rfl|rfl|rfl|rfl|rfl|rfl|rfl<;>rfl) rfl (by simp[undef]) hW2 hK ey ⟨cl,t0,(0,0),hplain,hcl⟩
  (λw hK h2=>(L1.LL a0 a1 a2 a3 a4 a5 a6 a7 (hi _ w0) (hi _ w1) (hi _ w2) (hi _ w5) (hi _ w6) (hb _ hR.1) (hb _ hR.2.1) (hb _ hR.2.2) w hK (by omega)).mono λe w' h=>h.1)
 obtain⟨M,last,o,w',t',k1,k2,k3,k4⟩:=hrun
 refine⟨M,last,o,w',t',k1,k2,k3,k4.mono λv hv=> ?_⟩
 obtain⟨rfl,bel⟩:=hv
 exact⟨_,_,_,[],_,[],hW',trodAll_mk1 (shut_bool Tryd.underlying4 _),(trodAll_cons_mk (shut_int Tryd.underlying3 w0) (trodAll_cons_mk (shut_int Tryd.underlying3 w1) (trodAll_cons_mk (shut_int Tryd.underlying3 w2) (trodAll_cons_mk (shut_string Tryd.underlying9 w3) (trodAll_cons_mk (shut_string Tryd.underlying9 w4) (trodAll_cons_mk (shut_int Tryd.underlying3 w5) (trodAll_cons_mk (shut_int Tryd.underlying3 w6) (trodAll_cons_mk (shut_string Tryd.underlying9 w7) trodAll_mk0)))))))),rfl,bel.frame _,λh=>by cases h⟩
noncomputable def oh(os:Os):World:=
 {World.holding Tryd.prog os ⟨#[],#[],[]⟩with heap:=(World.holding Tryd.prog os ⟨#[],#[],[]⟩).heap.modify 0 fun
   | .cells _ t frozen=> .cells (aj rN).toArray t frozen
   |o=>o}
theorem Dt(os:Os):laidMet Tryd.prog Rows.rootedRow.laid ((oh os).forCall (λ_ _=>0) ⟨#[],#[.int .i64 0, .int .i64 0, .int .i64 0, .string ByteArray.empty, .string ByteArray.empty, .int .i64 0, .int .i64 0, .string ByteArray.empty],[]⟩).memory:=
 laidMet_of_run' 8 (by kernel_rfl) (by kernel_rfl)
theorem reads(os:Os){H:Type}(enc:TypeId×Value->H):∃places,DataW.whole enc Tryd.prog ((oh os).forCall (λ_ _=>0) ⟨#[],#[.int .i64 0, .int .i64 0, .int .i64 0, .string ByteArray.empty, .string ByteArray.empty, .int .i64 0, .int .i64 0, .string ByteArray.empty],[]⟩).memory Tryd.f6.params.toList Rows.rootedSpec.vars false #[Value.int .i64 0, .int .i64 0, .int .i64 0, .string ByteArray.empty, .string ByteArray.empty, .int .i64 0, .int .i64 0, .string ByteArray.empty].toList 8=some ([.lit (.int .i64 0), .lit (.int .i64 0), .lit (.int .i64 0), .lit (.string []), .lit (.string []), .lit (.int .i64 0), .lit (.int .i64 0), .lit (.string [])],[],places):=
 ⟨[],by kernel_rfl⟩
theorem HJ(os:Os)(started:os.Started)(H:Type)(enc:TypeId×Value->H):
 ReturnsInLeavingWide {} Tryd.checked os 6 .any ((OpenSpec.ofChange Rows.rootedSpec).preRow enc Tryd.prog Tryd.f6 Rows.rootedRow.domain false Rows.rootedRow.laid) (Rows.rootedSpec.post enc Tryd.prog Tryd.f6 false true false false):=by
 obtain⟨places,hx⟩:=reads os enc
 refine ri (C:=Tryd.checked) (s:=Rows.rootedSpec) own started Tryd.func6
  (witness_row_at (enc:=enc) (C:=Tryd.checked) false (oh os) #[.int .i64 0, .int .i64 0, .int .i64 0, .string ByteArray.empty, .string ByteArray.empty, .int .i64 0, .int .i64 0, .string ByteArray.empty] rfl (by kernel_rfl) (by kernel_rfl) (by kernel_rfl)
    (OpenSpec.preRow_of_cond 8 hx (by kernel_rfl) (λk hk=>by cases hk) (by kernel_rfl) (Dt os))) ?_
 intro W base args ds gs before hval hW hR hL hsh
 exact E1 H enc W base args ds gs before hval hW hR hL hsh
theorem KA:Rows.RootedSaid:=
 OpenClaim.holds_of_wide_leaving 6 Tryd.f6 rfl rfl rfl rfl rfl rfl rfl ⟨rfl,rfl,rfl,rfl,rfl⟩ rfl rfl rfl rfl rfl (by kernel_rfl) Tryd.func6 (by kernel_rfl)
  (of_decide_eq_true (by kernel_rfl)) (by unfold Func.isWrapper;first|(rw[if_pos (by decide+kernel)];kernel_rfl)|(rw[if_neg (by decide+kernel)];exact⟨rfl,rfl⟩))
  (λos started H enc _=>by rw[OpenClaim.pre_eq_preRow];exact HJ os started H enc)
theorem plain(f:FuncId)(fn:Func)(hf:Tryd.pinned.checked.prog.funcNamed "lintel/lintellaw.Rooted" =some f)(hfn:Tryd.pinned.checked.prog.funcs[f]?=some fn):
 false=Tryd.pinned.checked.prog.looks []/\∀(j:Nat) t,fn.params[j]?=some t->Tryd.pinned.checked.prog.wantsStandIn t=false:=by
 obtain rfl:f=6:=Option.some.inj ((show Tryd.prog.funcNamed "lintel/lintellaw.Rooted" =some 6 by kernel_rfl).symm.trans hf)|>.symm
 obtain rfl:fn=Tryd.f6:=(Option.some.inj (Tryd.func6.symm.trans hfn)).symm
 refine⟨by kernel_rfl,λj t ht=> ?_⟩
 rw[Tryd.params6]at ht
 have hm:=Array.mem_of_getElem? ht
 simp only[List.mem_toArray,List.mem_cons,List.not_mem_nil,or_false]at hm
 have hi:Tryd.prog.wantsStandIn 3=false:=by kernel_rfl
 have hs:Tryd.prog.wantsStandIn 9=false:=by kernel_rfl
 rcases hm with rfl|rfl|rfl|rfl|rfl|rfl|rfl|rfl
 ·exact hi
 ·exact hi
 ·exact hi
 ·exact hs
 ·exact hs
 ·exact hi
 ·exact hi
 ·exact hs
theorem Ai(Lk:Looks){p:Pinned}{s:OpenSpec}{c:OpenClaim}(kinds:List LaidKind)(tests:Bool)(har:Bool×String)(lk:Bool)(hc:c.holds p s)(hw:c.wfByText s=true)(htie:c.laidByTextAt Lk p kinds tests)
 (hst:c.start= .entering) (hnb:c.noBlocks=false/\c.again=false) (hm:p.checked.prog.mainIs=some (har.1,har.2.toList)) (hn:(!har.1&&har.2.isEmpty&& !lk)=false)
 (hl:∀f fn,p.checked.prog.funcNamed c.func=some f->p.checked.prog.funcs[f]?=some fn->lk=p.checked.prog.looks []/\∀(j:Nat) t,fn.params[j]?=some t->p.checked.prog.wantsStandIn t=false)
 (hg:true=c.goesBy p.checked.prog):
 Claim7.holds p (.plain s) {stood:={row:=c,standIns:=[],harness:=har,looks:=lk},kinds:=[],alts:=[],goes:=true,laidByText:=true,laidKinds:=kinds,laidTests:=tests,laidLooks:=Lk}:=by
 have h6:Claim7.isSixth {stood:={row:=c,standIns:=[],harness:=har,looks:=lk},kinds:=[]}=false:=by simpa[Claim7.isSixth]using hn
 have hnew:=Claim7.tied_new_at Lk kinds tests (Claim7.new_of_sixth hc har lk hst hnb hm h6 hl) hw
 exact⟨hnew,(λD hD=>by cases hD),htie,(λh=>by cases h),hg⟩
theorem card:Rows.RootedCardSaid:=
 Ai .later _ _ _ _ KA (by kernel_rfl) rooted_row_tie rfl ⟨rfl,rfl⟩ (by kernel_rfl) rfl plain (by kernel_rfl)
end Go.Proofs.YtkmoglhgkcnalaaDoor.rooted
namespace Go.Proofs.YtkmoglhgkcnalaaDoor
theorem rooted_card_holds:Rows.RootedCardSaid:=rooted.card
end Go.Proofs.YtkmoglhgkcnalaaDoor
