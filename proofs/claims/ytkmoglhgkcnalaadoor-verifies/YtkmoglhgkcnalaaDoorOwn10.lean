/- A part of what the last text of the claim imports: texts laid together, and made small, by a program. -/
import Derived.Test.YtkmoglhgkcnalaaDoorProg
import Derived.Conc.WgGenN3
import Derived.Test.YtkmoglhgkcnalaaDoorOwn9
set_option maxHeartbeats 16000000
set_option maxRecDepth 100000
namespace Go.Proofs.YtkmoglhgkcnalaaDoor
open Go Go.Conc Go.RowKit
open Go.ConcN (WgLive)
abbrev eJ(P:Program)(ty Wg C n:Nat)(val:Nat->Value)(RO:Nat->Prop):ap:={P:=P,ty:=ty,Wg:=Wg,C:=C,ety:=9,n:=n,val:=val,RO:=RO,mine:=λi c=>c%8=i/\c<n}
structure dP where
 s:cq
 /-- what may stand behind its cells-/
 ex:Array Value
 bs:Nat
 bg:Nat
 be:Nat
 ga:Addr
 glen:Nat
 gcap:Nat
 dig:Nat->Int
 /-- where the digits lie-/
 gr:Nat->Prop
 wL:World
 G:Nat
def Jb(N:dP)(n:Nat)(w:World):Prop:=∀w':World,(∀b,N.gr b->w'.heap[b]?=w.heap[b]?)->∀c,c<n->
 (Instr.loadAt 3 (.pointer (some (N.ga.add c)))).run Tryd.prog w'= .ok (.int .i64 (N.dig c)) w'/\∀e∈(Instr.loadAt 3 (.pointer (some (N.ga.add c)))).events Tryd.prog w' #[],∃a:Addr,e=⟨.cell a,false,false⟩/\N.gr a.block
structure ze (N:dP) (C n:Nat) (w:World):Prop where
 sig:w.heap[N.bs]?=some (.cells (N.s.cells++N.ex) 82)
 gone:w.heap[N.bg]?=some (.cells #[.slice (some N.ga) N.glen N.gcap] 22)
 ends:w.heap[N.be]?=some (.cells #[.slice (some ⟨C,0,none⟩) n n] 70)
 digs:Jb N n w
 tab:ib N.wL w
 size:N.G<=w.heap.size
 zero:∃v0,w.cell? ⟨0,0,none⟩=some v0
theorem jK{N:dP}{ty Wg C n:Nat}{val:Nat->Value}{RO:Nat->Prop}(h:RO N.bs/\RO N.bg/\RO N.be/\(∀b,N.gr b->RO b)/\RO 0):A1 (eJ Tryd.prog ty Wg C n val RO) (ze N C n):=λw w' hk hs hp=>by
 refine⟨(hk _ h.1).trans hp.sig,(hk _ h.2.1).trans hp.gone,(hk _ h.2.2.1).trans hp.ends,λw2 h2=>hp.digs w2 λb hb=>(h2 b hb).trans (hk b (h.2.2.2.1 b hb)), ?_,Nat.le_trans hp.size hs, ?_⟩
 ·obtain⟨c,e,f,q1,q2,q3⟩:=hp.tab
  exact⟨c,e,f,q1,q2,(hk _ h.2.2.2.2).trans q3⟩
 ·obtain⟨v0,h0⟩:=hp.zero
  refine⟨v0, ?_⟩
  rw[←h0]
  unfold World.cell?
  rw[hk _ h.2.2.2.2]
structure oO (N:dP) (n:Nat) (val:Nat->Value) (PL:Program):Prop where
 env:j4 PL Tryd.prog N.G
 same:∀f (fn:Func),PL.funcs[f]?=some fn->fn.body.isSome=true->jf PL Tryd.prog f
 here:∃fn fn',PL.funcs[84]?=some fn/\Tryd.prog.funcs[84]?=some fn'/\fn.ntmps=fn'.ntmps/\fn.body=fn'.body/\∃c,fn.body=some c/\eM (84==aV) c=true
 calm:ax N.wL
 low:2<=N.G/\N.G<=N.wL.heap.size
 tree:∀c,c<n->fc PL (lP 84 8 (· =val c)) (ba PL 84 #[.agg N.s.cells, .int .i64 c, .int .i64 (N.dig c), .string (N.s.links.extract (c*32) ((c+1)*32))] []) N.wL
 plain:∀c,c<n->∃t,val c= .string t
 glen:n<=N.glen
 count:N.s.count=n
 small:n<=65536
 links:n*32<=N.s.links.size
section
variable{N:dP}{ty Wg C n:Nat}{val:Nat->Value}{RO:Nat->Prop}{PL:Program}{i l:Nat}{V done:Nat->Prop}{w0:World}{k:List Item}{cs:List Frame}
def GP(N:dP)(c:Nat):List (Nat×Value):=[(1, .pt N.bs),(3, .pt N.bg),(4, .pt N.be),(5, .int .i64 c),(6, .string (N.s.links.extract (c*32) ((c+1)*32)))]
def CC(N:dP)(C n:Nat)(val:Nat->Value)(c:Nat):List (Nat×Nat×Value):=[(0,12, .slice (some ⟨C,0,none⟩) n n),(1,13, .int .i64 c),(2,14, .agg N.s.cells),(3,15, .int .i64 c),(4,16, .slice (some N.ga) N.glen N.gcap),(5,17, .int .i64 c),
 (6,18, .pointer (some (N.ga.add c))),(7,19, .int .i64 (N.dig c)),(8,20, .string (N.s.links.extract (c*32) ((c+1)*32))),(9,21,val c),(10,22, .pointer (some ((⟨C,0,none⟩:Addr).add c)))]
theorem KI:zM (ae Tryd.f81 4)=true:=by kernel_rfl
theorem Jq(N:dP)(C n:Nat)(val:Nat->Value)(c:Nat):∀p∈CC N C n val c,∀q∈CC N C n val c,p.2.1=q.2.1\/p.1=q.1->p=q:=by
 intro p hp q hq h
 simp only[CC,List.mem_cons,List.not_mem_nil,or_false]at hp hq
 rcases hp with rfl|rfl|rfl|rfl|rfl|rfl|rfl|rfl|rfl|rfl|rfl<;>rcases hq with rfl|rfl|rfl|rfl|rfl|rfl|rfl|rfl|rfl|rfl|rfl<;>first|rfl|(exfalso;simp at h)
theorem yP(N:dP)(C n:Nat)(val:Nat->Value)(c:Nat):∀p∈CC N C n val c,p.2.1<23/\p.1≠11/\∀q∈GP N c,q.1≠p.2.1:=by
 intro p hp
 simp only[CC,List.mem_cons,List.not_mem_nil,or_false]at hp
 rcases hp with rfl|rfl|rfl|rfl|rfl|rfl|rfl|rfl|rfl|rfl|rfl<;>refine⟨by simp,by simp,λq hq=> ?_⟩<;>simp only[GP,List.mem_cons,List.not_mem_nil,or_false]at hq<;>rcases hq with rfl|rfl|rfl|rfl|rfl<;>simp
theorem JH{c:Nat}{listed:Array Bool}{a:Act}(h:eQ (GP N c) (CC N C n val c) 23 listed a){m d:Nat}{v:Value}(hm:(m,d,v)∈CC N C n val c):eQ (GP N c) (CC N C n val c) 23 (listed.setIfInBounds m true) (a.put (some d) v):=
 h.put (yP N C n val c _ hm).1 (yP N C n val c _ hm).2.2 λp hp e=>Jq N C n val c p hp _ hm e
theorem FM:(∀w:World,(sizeOf 3).run Tryd.prog w= .ok 1 w)/\(∀w:World,(sizeOf 9).run Tryd.prog w= .ok 1 w):=⟨λ_=>by kernel_rfl,λ_=>by kernel_rfl⟩
theorem bK{P:Program}{ev:Operand->Value}{o:Oper}{w:World}{v:Value}{V RO:Nat->Prop}(h:Yl P ev o w v #[]):(execOp ev o).run P w= .ok (.value v) w/\∀e∈(execOp ev o).events P w #[],eR V RO e:=⟨h.1,λe he=>by rw[h.2]at he;simp at he⟩
theorem pE{P:Program}{ev:Operand->Value}{o:Oper}{w:World}{v:Value}{V RO:Nat->Prop}{ad:Addr}(hb:V ad.block\/RO ad.block)(h:Yl P ev o w v #[⟨.cell ad,false,false⟩]):(execOp ev o).run P w= .ok (.value v) w/\∀e∈(execOp ev o).events P w #[],eR V RO e:=⟨h.1,λe he=>by
 rw[h.2]at he
 simp only[List.mem_toArray,List.mem_singleton]at he
 subst he
 exact⟨rfl,hb.imp id λh=>⟨h,rfl⟩⟩⟩
theorem DU{P:Program}{ev:Operand->Value}{o:Oper}{w:World}{v:Value}{V RO:Nat->Prop}{b:Nat}(hb:V b\/RO b)(h:Yl P ev o w v (kt b)):(execOp ev o).run P w= .ok (.value v) w/\∀e∈(execOp ev o).events P w #[],eR V RO e:=⟨h.1,λe he=>by
 rw[h.2]at he
 obtain⟨k,rfl⟩:=xQ he
 exact⟨rfl,hb.imp id λh=>⟨h,rfl⟩⟩⟩
theorem Av(s:cq):aI (.agg s.cells)=true:=rfl
def C4(X:ap)(i:Nat)(V:Nat->Prop)(c:Nat)(w0:World)(listed:Array Bool)(w:World):Prop:=(listed[11]?=some false/\w=w0)\/(listed[11]?=some true/\∃w1,aO X i V w0 w1/\w=w1.setCell (X.at c) (X.val c))
theorem C4.other{X:ap}{c m:Nat}{listed:Array Bool}{w:World}(hm:m≠11)(h:C4 X i V c w0 listed w):C4 X i V c w0 (listed.setIfInBounds m true) w:=by
 unfold C4
 rw[sN hm]
 exact h
theorem Hg(D:oO N n val PL)(hR:RO N.bs/\RO N.bg/\RO N.be/\(∀b,N.gr b->RO b)/\RO 0){a:Act}{c:Nat}(hc:c%8=i/\c<n)(hS:pY (eJ Tryd.prog ty Wg C n val RO) i (ze N C n) V done w0)(hd:a.defers=[])(hz:23<=a.tmps.size)(hf:∀p∈GP N c,a.tmps[p.1]?=some p.2)
 (hnext:∀a' w,aO (eJ Tryd.prog ty Wg C n val RO) i V w0 w->Wk (eJ Tryd.prog ty Wg C n val RO) i V ((rb 81 l).atR a' k) cs (w.setCell ⟨C,c,none⟩ (val c))):
 Wk (eJ Tryd.prog ty Wg C n val RO) i V ((rb 81 l).atR a (.code (.region 4 (ae Tryd.f81 4) true)::k)) cs w0:=by
 have hL:=jK (ty:=ty) (Wg:=Wg) (C:=C) (n:=n) (val:=val) hR
 have hst:∀w,aO (eJ Tryd.prog ty Wg C n val RO) i V w0 w->ze N C n w:=λw r=>(hS.rely hL r).pap
 refine Wk.draw λt=> ?_
 have hsch:Region.schedule ((eJ Tryd.prog ty Wg C n val RO).P.follows .mixedOrders) (ae Tryd.f81 4) t=Region.linearise .any (ae Tryd.f81 4) t:=by
  unfold Region.schedule
  rw[show Region.departs (ae Tryd.f81 4)=false from by kernel_rfl]
  simp
 rw[hsch]
 refine Wk.ordered (yJ KI) (λlisted a w=>eQ (GP N c) (CC N C n val c) 23 listed a/\C4 (eJ Tryd.prog ty Wg C n val RO) i V c w0 listed w) (λlisted a w hall h=> ?_) (λlisted a w m o rest hsz ho hm hdep h hgo=> ?_) t a w0 ⟨⟨hd,hz,hf,λp hp hl=> ?_⟩, .inl ⟨by rfl,rfl⟩⟩
 ·obtain⟨h1,h2⟩:=h
  rcases h2 with⟨h2,_⟩|⟨_,w1,r1,rfl⟩
  ·rw[hall 11 (by decide)]at h2
   cases h2
  ·exact Wk.plain rfl (hnext a w1 r1)
 ·obtain⟨h1,h2⟩:=h
  have hlt:m<12:=(gA ho).1
  have hSt:∃done',pY (eJ Tryd.prog ty Wg C n val RO) i (ze N C n) V done' w:=by
   rcases h2 with⟨_,rfl⟩|⟨_,w1,r1,rfl⟩
   ·exact⟨_,hS⟩
   ·exact⟨_,(hS.rely hL r1).put hL hc.2⟩
  have hstw:∀w',aO (eJ Tryd.prog ty Wg C n val RO) i V w w'->ze N C n w':=λw' r=>(hSt.choose_spec.rely hL r).pap
  have stepV:∀{m:Nat} {o:Oper} {d:Nat} (v:Value),(m,d,v)∈CC N C n val c->o.dst=some d->(∀y,Region.wanted o y=true)->(∀c,o.op≠ .defer c)->m≠11->(ae Tryd.f81 4)[m]?=some o->
   (∀w',aO (eJ Tryd.prog ty Wg C n val RO) i V w w'->(execOp a.eval o).run Tryd.prog w'= .ok (.value v) w'/\∀e∈(execOp a.eval o).events Tryd.prog w' #[],eR V RO e)->
   (∀a' w',eQ (GP N c) (CC N C n val c) 23 (listed.setIfInBounds m true) a'/\C4 (eJ Tryd.prog ty Wg C n val RO) i V c w0 (listed.setIfInBounds m true) w'->Wk (eJ Tryd.prog ty Wg C n val RO) i V ((rb 81 l).atR a' (.inRegion (ae Tryd.f81 4) rest::k)) cs w')->
   Wk (eJ Tryd.prog ty Wg C n val RO) i V ((rb 81 l).atR a (.inRegion (ae Tryd.f81 4) (m::rest)::k)) cs w:=λ{m o d} v hmem e1 e3 hnd h11 ho hy hgo=>by
   refine Wk.value v ho (e3 _) hnd hy ?_
   rw[e1]
   exact hgo _ _ ⟨JH h1 hmem,h2.other h11⟩
  rcases(by omega:m=0\/m=1\/m=2\/m=3\/m=4\/m=5\/m=6\/m=7\/m=8\/m=9\/m=10\/m=11)with rfl|rfl|rfl|rfl|rfl|rfl|rfl|rfl|rfl|rfl|rfl|rfl
  ·obtain⟨e1,e2,e3⟩:=aJ (d:=some 12) (p:= .load 70 (.tmp 4)) ho (by kernel_rfl)
   refine stepV (m:=0) _ (mG (i:=0) rfl) e1 e3 (by rw[e2];simp) (by decide) ho (λw' r'=> ?_) hgo
   exact pE (.inr hR.2.2.1) (ay pn e2 (C5 (h1.fixed _ (mG (i:=2) rfl))) (by rw[am (hstw w' r').ends];rfl))
  ·obtain⟨e1,e2,e3⟩:=aJ (d:=some 13) (p:= .move (.tmp 5)) ho (by kernel_rfl)
   refine stepV (m:=1) _ (mG (i:=1) rfl) e1 e3 (by rw[e2];simp) (by decide) ho (λw' r'=> ?_) hgo
   have hy:=bz (ev:=a.eval) (o:=o) (w:=w') Tryd.prog (.inl e2)
   rw[(C5 (h1.fixed _ (mG (i:=3) rfl)))]at hy
   exact bK hy
  ·obtain⟨e1,e2,e3⟩:=aJ (d:=some 14) (p:= .load 82 (.tmp 1)) ho (by kernel_rfl)
   refine stepV (m:=2) _ (mG (i:=2) rfl) e1 e3 (by rw[e2];simp) (by decide) ho (λw' r'=> ?_) hgo
   exact DU (.inr hR.1) (jy e2 (C5 (h1.fixed _ (mG (i:=0) rfl))) (hstw w' r').sig)
  ·obtain⟨e1,e2,e3⟩:=aJ (d:=some 15) (p:= .move (.tmp 5)) ho (by kernel_rfl)
   refine stepV (m:=3) _ (mG (i:=3) rfl) e1 e3 (by rw[e2];simp) (by decide) ho (λw' r'=> ?_) hgo
   have hy:=bz (ev:=a.eval) (o:=o) (w:=w') Tryd.prog (.inl e2)
   rw[(C5 (h1.fixed _ (mG (i:=3) rfl)))]at hy
   exact bK hy
  ·obtain⟨e1,e2,e3⟩:=aJ (d:=some 16) (p:= .load 22 (.tmp 3)) ho (by kernel_rfl)
   refine stepV (m:=4) _ (mG (i:=4) rfl) e1 e3 (by rw[e2];simp) (by decide) ho (λw' r'=> ?_) hgo
   exact pE (.inr hR.2.1) (ay nI e2 (C5 (h1.fixed _ (mG (i:=1) rfl))) (by rw[am (hstw w' r').gone];rfl))
  ·obtain⟨e1,e2,e3⟩:=aJ (d:=some 17) (p:= .move (.tmp 5)) ho (by kernel_rfl)
   refine stepV (m:=5) _ (mG (i:=5) rfl) e1 e3 (by rw[e2];simp) (by decide) ho (λw' r'=> ?_) hgo
   have hy:=bz (ev:=a.eval) (o:=o) (w:=w') Tryd.prog (.inl e2)
   rw[(C5 (h1.fixed _ (mG (i:=3) rfl)))]at hy
   exact bK hy
  ·obtain⟨e1,e2,e3⟩:=aJ (d:=some 18) (p:= .indexAddr 22 (.tmp 16) (.tmp 17)) ho (by kernel_rfl)
   refine stepV (m:=6) _ (mG (i:=6) rfl) e1 e3 (by rw[e2];simp) (by decide) ho (λw' r'=> ?_) hgo
   exact bK (gp (e:=3) (by kernel_rfl) FM.1 e2 (C5 (h1.come _ (mG (i:=4) rfl) (aZ (n:=6) (k:=4) (by kernel_rfl) ho hdep))) (C5 (h1.come _ (mG (i:=5) rfl) (aZ (n:=6) (k:=5) (by kernel_rfl) ho hdep))) (Nat.lt_of_lt_of_le hc.2 D.glen))
  ·obtain⟨e1,e2,e3⟩:=aJ (d:=some 19) (p:= .load 3 (.tmp 18)) ho (by kernel_rfl)
   refine stepV (m:=7) _ (mG (i:=7) rfl) e1 e3 (by rw[e2];simp) (by decide) ho (λw' r'=> ?_) hgo
   have hp:=(C5 (h1.come _ (mG (i:=6) rfl) (aZ (n:=7) (k:=6) (by kernel_rfl) ho hdep)))
   have hd:=(hstw w' r').digs w' (λ_ _=>rfl) c hc.2
   have e:execOp a.eval o=(do pure (.value (←Instr.loadAt 3 (.pointer (some (N.ga.add c)))))):=by simp only[execOp,e2,hp]
   refine⟨by rw[e,Sem.run_bind,hd.1];simp,λev he=> ?_⟩
   rw[e]at he
   have he:ev∈(Instr.loadAt 3 (.pointer (some (N.ga.add c)))).events Tryd.prog w' #[]:=by
    rw[Sem.events_bind,hd.1]at he
    simpa using he
   obtain⟨ad,rfl,hg⟩:=hd.2 ev he
   exact⟨rfl, .inr ⟨hR.2.2.2.1 _ hg,rfl⟩⟩
  ·obtain⟨e1,e2,e3⟩:=aJ (d:=some 20) (p:= .move (.tmp 6)) ho (by kernel_rfl)
   refine stepV (m:=8) _ (mG (i:=8) rfl) e1 e3 (by rw[e2];simp) (by decide) ho (λw' r'=> ?_) hgo
   have hy:=bz (ev:=a.eval) (o:=o) (w:=w') Tryd.prog (.inl e2)
   rw[(C5 (h1.fixed _ (mG (i:=4) rfl)))]at hy
   exact bK hy
  ·obtain⟨e1,e2,e3⟩:=aJ (d:=some 21) (p:= .call {callee:= .value (.func 84),args:=#[.tmp 14, .tmp 15, .tmp 19, .tmp 20],argTypes:=#[82,3,3,9]}) ho (by kernel_rfl)
   obtain⟨done',hSw⟩:=hSt
   have a1:=(C5 (h1.come _ (mG (i:=2) rfl) (aZ (n:=9) (k:=2) (by kernel_rfl) ho hdep)))
   have a2:=(C5 (h1.come _ (mG (i:=3) rfl) (aZ (n:=9) (k:=3) (by kernel_rfl) ho hdep)))
   have a3:=(C5 (h1.come _ (mG (i:=7) rfl) (aZ (n:=9) (k:=7) (by kernel_rfl) ho hdep)))
   have a4:=(C5 (h1.come _ (mG (i:=8) rfl) (aZ (n:=9) (k:=8) (by kernel_rfl) ho hdep)))
   have hargs:(#[Operand.tmp 14, .tmp 15, .tmp 19, .tmp 20]:Array Operand).map a.eval=#[.agg N.s.cells, .int .i64 c, .int .i64 (N.dig c), .string (N.s.links.extract (c*32) ((c+1)*32))]:=by simp[a1,a2,a3,a4]
   obtain⟨t,ht⟩:=D.plain c hc.2
   refine Wk.call (r:=8) (Val:=(· =val c)) D.env hR.2.2.2.2 D.same Tryd.func84 (by decide) (λtmps v w hv=> ?_) (λv hv=>by rw[hv,ht];rfl) D.here ?_ D.calm (D.tree c hc.2) (λw' r'=>⟨D.low.1,D.low.2,(hstw w' r').size⟩) (λw' r'=>(hstw w' r').tab) hSw.low ho (e3 _) (by rw[e2];simp) (λw'=> ?_) λv hv=> ?_
   ·exact nB (t:=8) rfl hv w
   ·intro v hv
    simp only[List.mem_toArray,List.mem_cons,List.not_mem_nil,or_false]at hv
    rcases hv with rfl|rfl|rfl|rfl
    ·exact Av N.s
    all_goals rfl
   ·have hr:=aE (P:=Tryd.prog) (w:=w') Tryd.func84 (by kernel_rfl) (by kernel_rfl) #[.agg N.s.cells, .int .i64 c, .int .i64 (N.dig c), .string (N.s.links.extract (c*32) ((c+1)*32))]
    exact az e2 hargs hr
   ·subst hv
    rw[e1]
    exact hgo _ _ ⟨JH h1 (mG (i:=9) rfl),h2.other (by decide)⟩
  ·obtain⟨e1,e2,e3⟩:=aJ (d:=some 22) (p:= .indexAddr 70 (.tmp 12) (.tmp 13)) ho (by kernel_rfl)
   refine stepV (m:=10) _ (mG (i:=10) rfl) e1 e3 (by rw[e2];simp) (by decide) ho (λw' r'=> ?_) hgo
   exact bK (gp (e:=9) (by kernel_rfl) FM.2 e2 (C5 (h1.come _ (mG (i:=0) rfl) (aZ (n:=10) (k:=0) (by kernel_rfl) ho hdep))) (C5 (h1.come _ (mG (i:=1) rfl) (aZ (n:=10) (k:=1) (by kernel_rfl) ho hdep))) hc.2)
  ·obtain⟨e1,e2,e3⟩:=aJ (d:=none) (p:= .store 9 (.tmp 22) (.tmp 21)) ho (by kernel_rfl)
   obtain⟨t,ht⟩:=D.plain c hc.2
   have hp:=(C5 (h1.come _ (mG (i:=10) rfl) (aZ (n:=11) (k:=10) (by kernel_rfl) ho hdep)))
   rw[nb,Nat.zero_add]at hp
   have hv:=(C5 (h1.come _ (mG (i:=9) rfl) (aZ (n:=11) (k:=9) (by kernel_rfl) ho hdep)))
   rcases h2 with⟨_,rfl⟩|⟨h3,_⟩
   ·refine Wk.store (c:=c) (v:=val c) ho (e3 _) (by rw[e2];simp) rfl (by kernel_rfl) hc (λw' r'=> ?_) λw' r'=> ?_
    ·obtain⟨cells,q1,q2⟩:=(hS.rely hL r').list
     have q3:c<cells.size:=by rw[show cells.size=n from q2];exact hc.2
     have hce:w'.cell? ⟨C,c,none⟩=some cells[c]:=by
         rw[am q1]
         exact Array.getElem?_eq_getElem q3
     exact eX (by rw[ht];rfl) (by rw[ht];rfl) (FM.2 w') e2 hp hv hce (by unfold World.frozen?;rw[show w'.heap[(⟨C,c,none⟩:Addr).block]?=_ from q1];simp)
    ·rw[e1]
     refine hgo _ _ ⟨h1.pass (λp hp=>(yP N C n val c p hp).2.1) _, .inr ⟨?_,w',r',rfl⟩⟩
     exact Array.getElem?_setIfInBounds_self_of_lt (by rw[hsz];decide)
   ·rw[h3]at hm
    cases hm
 ·simp[Array.getElem?_replicate]at hl
end
end Go.Proofs.YtkmoglhgkcnalaaDoor
namespace Go.Proofs.YtkmoglhgkcnalaaDoor
open Go Go.Conc Go.RowKit
theorem zR:∀f (fn:Func) c,(ac false Tryd.prog).funcs[f]?=some fn->fn.body=some c->eM (f==aV) c=true:=by
 obtain⟨c,h,_⟩:=zI
 rw[FX]
 exact pw h
theorem uP:∀f (fn:Func) c,(ac true Tryd.prog).funcs[f]?=some fn->fn.body=some c->eM (f==aV) c=true:=by
 rw[FW]
 exact pw zH
theorem JD(f:FuncId)(fn:Func)(hf:(ac true Tryd.prog).funcs[f]?=some fn)(hb:fn.body.isSome=true)(hK:f≠68):jf (ac true Tryd.prog) Tryd.prog f:=by
 rw[FW]at hf⊢
 exact pv zH f fn hf hb hK
theorem JE(f:FuncId)(fn:Func)(hf:(ac false Tryd.prog).funcs[f]?=some fn)(hb:fn.body.isSome=true):jf (ac false Tryd.prog) Tryd.prog f:=by
 by_cases hK:f=26
 ·subst hK
  obtain⟨c,hc⟩:=Option.isSome_iff_exists.1 hb
  have hl:(ac false Tryd.prog).funcs[26]?=some Tryd.f26:=aB (c:=(Tryd.f26.body).getD .skip) Tryd.func26 (by decide) (by decide) rfl (by kernel_rfl)
  have e:=hl.symm.trans hf
  cases e
  exact⟨_,_,hl,Tryd.func26,rfl,rfl,c,hc,zR _ _ c hl hc⟩
 ·obtain⟨c,h,_⟩:=zI
  rw[FX]at hf⊢
  exact pv h f fn hf hb hK
theorem JV:(ac false Tryd.prog).funcs[84]?=some Tryd.f84:=aB (c:=(Tryd.f84.body).getD .skip) Tryd.func84 (by decide) (by decide) rfl (by kernel_rfl)
theorem DY{KS:List Int}{s:cq}{i:Nat}{d:Int}{link:ByteArray}(hfine:zg s i d link){w:World}(hK:w.rangeAt 0 0 (aj KS))(hKl:KS.length=64)(h2:2<=w.heap.size)(htab:ib w w)(hcalm:ax w):
 fc (ac false Tryd.prog) (lP 84 8 (· = .string (iZ KS s i d link))) (ba (ac false Tryd.prog) 84 #[.agg s.cells, .int .i64 i, .int .i64 d, .string link] []) w:=by
 refine rP JC zR (c:=(Tryd.f84.body).getD .skip) JV rfl rfl (by decide) (λv hv=> ?_) ⟨Nat.le_refl 2,h2⟩ htab hcalm rfl (by simp[undef]) λτ cs=> ?_
 ·have:v= .agg s.cells\/v= .int .i64 i\/v= .int .i64 d\/v= .string link:=by simpa using hv
  rcases this with rfl|rfl|rfl|rfl<;>rfl
 ·obtain⟨e,w',fr,q1,q2⟩:=L1.zK (ql:=false) KS s i d link hfine (jJ w τ 0) hK hKl (show 0<w.heap.size by omega) cs
  exact⟨e,w',fr,q1.1,q2⟩
def Jp(KS:List Int)(N:dP)(c:Nat):Value:= .string (iZ KS N.s c (N.dig c) (N.s.links.extract (c*32) ((c+1)*32)))
theorem Gp{N:dP}{n:Nat}{KS:List Int}(hG:N.G=2)(hfine:∀c,c<n->zg N.s c (N.dig c) (N.s.links.extract (c*32) ((c+1)*32)))(hK:N.wL.rangeAt 0 0 (aj KS))(hKl:KS.length=64)(h2:2<=N.wL.heap.size)(htab:ib N.wL N.wL)(hcalm:ax N.wL)
 (hglen:n<=N.glen) (hcount:N.s.count=n) (hsmall:n<=65536) (hlinks:n*32<=N.s.links.size):oO N n (Jp KS N) (ac false Tryd.prog) where
 env:=by rw[hG];exact KH
 same:=JE
 here:=⟨_,_,JV,Tryd.func84,rfl,rfl,(Tryd.f84.body).getD .skip,rfl,by kernel_rfl⟩
 calm:=hcalm
 low:=by rw[hG];exact⟨Nat.le_refl 2,h2⟩
 tree:=λc hc=>DY (hfine c hc) hK hKl h2 htab hcalm
 plain:=λc _=>⟨_,rfl⟩
 glen:=hglen
 count:=hcount
 small:=hsmall
 links:=hlinks
end Go.Proofs.YtkmoglhgkcnalaaDoor
namespace Go.Proofs.YtkmoglhgkcnalaaDoor
open Go Go.Conc Go.RowKit
open Go.ConcN (WgLive)
theorem Wk.cond{X:ap}{i:Nat}{V:Nat->Prop}{b:Frame}{a:Act}{k:List Item}{cs:List Frame}{w0:World}{x:Operand}{A B:Code}(q:Bool)(hq:a.eval x= .bool q)(h:Wk X i V (b.atR a (.code (if q then A else B)::k)) cs w0):Wk X i V (b.atR a (.code (.cond x A B)::k)) cs w0:=by
 refine Wk.plain (t:= .code (if q then A else B)::k) ?_ h
 have e:(b.atR a (.code (.cond x A B)::k)).eval x= .bool q:=by rw[Frame.eval_atR];exact hq
 show(match (b.atR a (.code (.cond x A B)::k)).eval x with| .bool q=>some (Item.code (if q then A else B)::k)|_=>none)=_
 rw[e]
theorem Im:Tryd.f83.body=some (.seq (.region 0 (ae Tryd.f83 0) false) (.seq (.region 1 (ae Tryd.f83 1) false) .ret)):=by kernel_rfl
def mR(f:Func):Code:= .seq (.seq (.region 1 (ae f 1) false) (.cond (.tmp 10) .skip (.exit 0))) (.seq (.block 1 (.seq (.region 3 (ae f 3) false) (.cond (.tmp 24) .ret .skip))) (.region 2 (ae f 2) false))
theorem Gz:Tryd.f104.body=some (.seq (.region 0 (ae Tryd.f104 0) false) (.block 0 (.loop (mR Tryd.f104)))):=by kernel_rfl
def roundOf(f:Func):Code:= .block 1 (.region 4 (ae f 4) true)
def dO(f:Func):Code:= .seq (.region 2 (ae f 2) false) (.region 3 (ae f 3) false)
theorem Io:Tryd.f81.body=some (.seq (.region 0 (ae Tryd.f81 0) false) (.seq (.region 1 (ae Tryd.f81 1) false)
 (.block 0 (.rangeFunc (.tmp 9) #[10,11] (dO Tryd.f81) (roundOf Tryd.f81))))):=by kernel_rfl
section
variable{N:dP}{ty Wg C n:Nat}{val:Nat->Value}{RO:Nat->Prop}{PL:Program}{i l ld b1:Nat}{V:Nat->Prop}
structure lO (N:dP) (b1 ld l:Nat) (T:Array Value) (st:LoopState) (w:World):Prop where
 sig:w.heap[b1]?=some (.cells N.s.cells 82)
 list:w.heap[ld]?=some (.deferred (some []))
 loop:w.heap[l]?=some (.loop {state:=st,pending:=none,fn:=81,tmps:=T,params:=#[10,11],assign:=dO Tryd.f81,body:=roundOf Tryd.f81,defers:=ld})
theorem lO.rely{X:ap}{T:Array Value}{st:LoopState}{w w':World}(h:lO N b1 ld l T st w)(hV:V b1/\V ld/\V l)(r:aO X i V w w'):lO N b1 ld l T st w':=
 ⟨(r.own.keep _ (.inl hV.1)).trans h.sig,(r.own.keep _ (.inl hV.2.1)).trans h.list,(r.own.keep _ (.inl hV.2.2)).trans h.loop⟩
theorem lO.turn{T:Array Value}{st st':LoopState}{w:World}(h:lO N b1 ld l T st w)(hne:b1≠l/\ld≠l):lO N b1 ld l T st' (aX w l {state:=st',pending:=none,fn:=81,tmps:=T,params:=#[10,11],assign:=dO Tryd.f81,body:=roundOf Tryd.f81,defers:=ld}):=
 ⟨(aW _ _ hne.1).trans h.sig,(aW _ _ hne.2).trans h.list,ii h.loop⟩
theorem lO.put{T:Array Value}{st:LoopState}{w:World}(h:lO N b1 ld l T st w)(hne:b1≠C/\ld≠C/\l≠C)(c:Nat)(v:Value):lO N b1 ld l T st (w.setCell ⟨C,c,none⟩ v):=by
 have hk:∀b,b≠C->(w.setCell ⟨C,c,none⟩ v).heap[b]?=w.heap[b]?:=λb hb=>by simp only[World.setCell];exact jm hb
 exact⟨(hk _ hne.1).trans h.sig,(hk _ hne.2.1).trans h.list,(hk _ hne.2.2).trans h.loop⟩
theorem Fh(D:oO N n val PL)(hR:RO N.bs/\RO N.bg/\RO N.be/\(∀b,N.gr b->RO b)/\RO 0){T:Array Value}(hT:aM [(1, .pt N.bs),(3, .pt N.bg),(4, .pt N.be)] 23 [] ⟨T,[]⟩)(hV:V b1/\V ld/\V l)(hne:b1≠l/\ld≠l)
 {c:Nat} (hc:c%8=i/\c<n) {cf:Frame} {cs:List Frame} {done:Nat->Prop} {w0:World} (hS:pY (eJ Tryd.prog ty Wg C n val RO) i (ze N C n) V done w0) (hM:lO N b1 ld l T .ready w0)
 (hnext:∀w,pY (eJ Tryd.prog ty Wg C n val RO) i (ze N C n) V (λd=>done d\/d=c) w->lO N b1 ld l T .ready w->Wk (eJ Tryd.prog ty Wg C n val RO) i V (cf.finish (.bool true)) cs w):
 Wk (eJ Tryd.prog ty Wg C n val RO) i V (Frame.round l 81 (((#[10,11]:Array Tmp).zip #[.int .i64 c, .string (N.s.links.extract (c*32) ((c+1)*32))]).foldl (λtmps (t,a)=>tmps.setIfInBounds t a) T) (dO Tryd.f81) (roundOf Tryd.f81) .normal) (cf::cs) w0:=by
 have hL:=jK (ty:=ty) (Wg:=Wg) (C:=C) (n:=n) (val:=val) hR
 have hF:=(hT.put (d:=10) (by decide) (.int .i64 c)).put (d:=11) (by decide) (.string (N.s.links.extract (c*32) ((c+1)*32)))
 have ez:((#[10,11]:Array Tmp).zip #[.int .i64 c, .string (N.s.links.extract (c*32) ((c+1)*32))]).foldl (λ(tmps:Array Value) (x:Tmp×Value)=>match x with|(t,a)=>tmps.setIfInBounds t a) T=(T.setIfInBounds 10 (.int .i64 c)).setIfInBounds 11 (.string (N.s.links.extract (c*32) ((c+1)*32))):=by simp
 rw[ez]
 show Wk _ i V ((rb 81 l).atR ((Act.put ⟨T,[]⟩ (some 10) (.int .i64 c)).put (some 11) (.string (N.s.links.extract (c*32) ((c+1)*32)))) [.code (dO Tryd.f81), .beginRound, .code (roundOf Tryd.f81)]) (cf::cs) w0
 revert hF
 generalize (Act.put ⟨T,[]⟩ (some 10) (.int .i64 c)).put (some 11) (.string (N.s.links.extract (c*32) ((c+1)*32)))=a
 intro hF
 refine Wk.plain rfl (Wk.region (L:=[0]) rfl (Wk.op hF 5 (.assign (.tmp 10)) (.int .i64 c) (by decide) (by kernel_rfl) (by simp) (λo ho w _=> ?_) λa hF=> ?_))
 ·have hy:=bz (ev:=a.eval) (w:=w) Tryd.prog (.inr ho)
  rw[hF.get (d:=10) rfl]at hy
  exact bK hy
 refine Wk.plain rfl (Wk.region (L:=[0]) rfl (Wk.op hF 6 (.assign (.tmp 11)) (.string (N.s.links.extract (c*32) ((c+1)*32))) (by decide) (by kernel_rfl) (by simp) (λo ho w _=> ?_) λa hF=> ?_))
 ·have hy:=bz (ev:=a.eval) (w:=w) Tryd.prog (.inr ho)
  rw[hF.get (d:=11) rfl]at hy
  exact bK hy
 refine Wk.plain rfl (Wk.rounds rfl hV.2.2 hM.loop rfl λw r=> ?_)
 have hS1:=(hS.rely hL r).own hL (fR (RO:=RO) (w:=w) {state:= .busy,pending:=none,fn:=81,tmps:=T,params:=#[10,11],assign:=dO Tryd.f81,body:=roundOf Tryd.f81,defers:=ld} hV.2.2)
 rw[eB]at hS1
 have hM1:=(hM.rely hV r).turn (st':= .busy) hne
 refine Wk.plain rfl (Hg D hR hc hS1 hF.defers hF.size (λp hp=> ?_) λa' w' r'=> ?_)
 ·simp only[GP,List.mem_cons,List.not_mem_nil,or_false]at hp
  rcases hp with rfl|rfl|rfl|rfl|rfl
  ·exact hF.slot 1 _ rfl
  ·exact hF.slot 3 _ rfl
  ·exact hF.slot 4 _ rfl
  ·exact hF.slot 5 _ rfl
  ·exact hF.slot 6 _ rfl
 have hS2:=(hS1.rely hL r').put hL hc.2
 have hn:b1≠C/\ld≠C/\l≠C:=⟨(hS.sep.1 _ hV.1).2.1,(hS.sep.1 _ hV.2.1).2.1,(hS.sep.1 _ hV.2.2).2.1⟩
 have hM2:=(hM1.rely hV r').put hn c (val c)
 refine Wk.plain rfl (Wk.through rfl rfl hV.2.2 hM2.loop λw3 r3=> ?_)
 have hS3:=(hS2.rely hL r3).own hL (fR (RO:=RO) (w:=w3) {state:= .ready,pending:=none,fn:=81,tmps:=T,params:=#[10,11],assign:=dO Tryd.f81,body:=roundOf Tryd.f81,defers:=ld} hV.2.2)
 rw[eB]at hS3
 exact hnext _ hS3 ((hM2.rely hV r3).turn hne)
end
section
variable{N:dP}{ty Wg C n:Nat}{val:Nat->Value}{RO:Nat->Prop}{PL:Program}{i l ld b1:Nat}{V:Nat->Prop}
theorem we(D:oO N n val PL)(hR:RO N.bs/\RO N.bg/\RO N.be/\(∀b,N.gr b->RO b)/\RO 0){T:Array Value}(hT:aM [(1, .pt N.bs),(3, .pt N.bg),(4, .pt N.be)] 23 [] ⟨T,[]⟩)(hV:V b1/\V ld/\V l)(hne:b1≠l/\ld≠l){cf:Frame}{cs:List Frame}
 (hend:∀w,pY (eJ Tryd.prog ty Wg C n val RO) i (ze N C n) V (λ_=>True) w->lO N b1 ld l T .ready w->Wk (eJ Tryd.prog ty Wg C n val RO) i V (cf.finish (.tuple #[])) cs w)
 (c:Nat) (a:Act) (w0:World) (hc:c%8=i) (hcn:c<=n+8) (hF:aM [(0, .func (.yield l) #[] #[]),(2, .pt b1),(4, .int .i64 c)] 25 [] a) (hS:pY (eJ Tryd.prog ty Wg C n val RO) i (ze N C n) V (· <c) w0) (hM:lO N b1 ld l T .ready w0)
 (again:c<n->∀a w0,aM [(0, .func (.yield l) #[] #[]),(2, .pt b1),(4, .int .i64 (c+8:Nat))] 25 [] a->pY (eJ Tryd.prog ty Wg C n val RO) i (ze N C n) V (· <c+8) w0->lO N b1 ld l T .ready w0->
   Wk (eJ Tryd.prog ty Wg C n val RO) i V ((base 104).atR a [.code (mR Tryd.f104), .inLoop (mR Tryd.f104), .inBlock 0]) (cf::cs) w0):
 Wk (eJ Tryd.prog ty Wg C n val RO) i V ((base 104).atR a [.code (mR Tryd.f104), .inLoop (mR Tryd.f104), .inBlock 0]) (cf::cs) w0:=by
 have hL:=jK (ty:=ty) (Wg:=Wg) (C:=C) (n:=n) (val:=val) hR
 have hsm:=D.small
 refine Wk.plain rfl (Wk.plain rfl (Wk.region (L:=[0,1,2,3,4]) rfl ?_))
 refine Wk.op hF 6 (.move (.tmp 4)) (.int .i64 c) (by decide) (by kernel_rfl) (by simp) (λo ho w _=> ?_) λa hF=> ?_
 ·have hy:=bz (ev:=a.eval) (w:=w) Tryd.prog (.inl ho)
  rw[hF.get (d:=4) rfl]at hy
  exact bK hy
 refine Wk.op hF 7 (.fieldAddr 82 (.tmp 2) 0) (.pointer (some ⟨b1,0,none⟩)) (by decide) (by kernel_rfl) (by simp) (λo ho w _=>bK (Lr ho (hF.get (d:=2) rfl))) λa hF=> ?_
 refine Wk.op hF 8 (.fieldAddr 78 (.tmp 7) 6) (.pointer (some ⟨b1,6,none⟩)) (by decide) (by kernel_rfl) (by simp) (λo ho w _=>bK (vd ho (hF.get (d:=7) rfl))) λa hF=> ?_
 refine Wk.op hF 9 (.load 3 (.tmp 8)) (.int .i64 n) (by decide) (by kernel_rfl) (by simp) (λo ho w r=>pE (.inl hV.1) (ay aQ ho (hF.get (d:=8) rfl) (by rw[am (hM.rely hV r).sig,←D.count];rfl))) λa hF=> ?_
 refine Wk.op hF 10 (.binOp .lss 3 (.tmp 6) (.tmp 9) 3) (.bool (decide ((c:Int)<n))) (by decide) (by kernel_rfl) (by simp) (λo ho w r=>bK (cQ ho (hF.get (d:=6) rfl) (hF.get (d:=9) rfl))) λa hF=> ?_
 refine Wk.plain rfl (Wk.cond (decide ((c:Int)<n)) (hF.get (d:=10) rfl) ?_)
 by_cases hlt:c<n
 ·have e:decide ((c:Int)<n)=true:=decide_eq_true (by omega)
  rw[e]
  refine Wk.plain rfl (Wk.plain rfl (Wk.plain rfl (Wk.plain rfl (Wk.region (L:=[0,1,2,3,4,5,6,7,8,9,10,11]) rfl ?_))))
  refine Wk.op hF 13 (.move (.tmp 0)) (.func (.yield l) #[] #[]) (by decide) (by kernel_rfl) (by simp) (λo ho w _=> ?_) λa hF=> ?_
  ·have hy:=bz (ev:=a.eval) (w:=w) Tryd.prog (.inl ho)
   rw[hF.get (d:=0) rfl]at hy
   exact bK hy
  refine Wk.op hF 14 (.move (.tmp 4)) (.int .i64 c) (by decide) (by kernel_rfl) (by simp) (λo ho w _=> ?_) λa hF=> ?_
  ·have hy:=bz (ev:=a.eval) (w:=w) Tryd.prog (.inl ho)
   rw[hF.get (d:=4) rfl]at hy
   exact bK hy
  refine Wk.op hF 15 (.fieldAddr 82 (.tmp 2) 3) (.pointer (some ⟨b1,10,none⟩)) (by decide) (by kernel_rfl) (by simp) (λo ho w _=>bK (C6 ho (hF.get (d:=2) rfl))) λa hF=> ?_
  refine Wk.op hF 16 (.load 9 (.tmp 15)) (.string N.s.links) (by decide) (by kernel_rfl) (by simp) (λo ho w r=>pE (.inl hV.1) (ay bC ho (hF.get (d:=15) rfl) (by rw[am (hM.rely hV r).sig];rfl))) λa hF=> ?_
  refine Wk.op hF 17 (.move (.tmp 4)) (.int .i64 c) (by decide) (by kernel_rfl) (by simp) (λo ho w _=> ?_) λa hF=> ?_
  ·have hy:=bz (ev:=a.eval) (w:=w) Tryd.prog (.inl ho)
   rw[hF.get (d:=4) rfl]at hy
   exact bK hy
  refine Wk.op hF 18 (.binOp .mul 3 (.tmp 17) (.const (.int .i64 32)) 3) (.int .i64 (c*32:Nat)) (by decide) (by kernel_rfl) (by simp) (λo ho w _=> ?_) λa hF=> ?_
  ·have hy:=dA (ev:=a.eval) (w:=w) (m:=c) (n:=32) ho (hF.get (d:=17) rfl) rfl (by omega)
   exact bK (by rw[Int.natCast_mul];exact hy)
  refine Wk.op hF 19 (.move (.tmp 4)) (.int .i64 c) (by decide) (by kernel_rfl) (by simp) (λo ho w _=> ?_) λa hF=> ?_
  ·have hy:=bz (ev:=a.eval) (w:=w) Tryd.prog (.inl ho)
   rw[hF.get (d:=4) rfl]at hy
   exact bK hy
  refine Wk.op hF 20 (.binOp .add 3 (.tmp 19) (.const (.int .i64 1)) 3) (.int .i64 (c+1:Nat)) (by decide) (by kernel_rfl) (by simp) (λo ho w _=> ?_) λa hF=> ?_
  ·have hy:=lc (ev:=a.eval) (w:=w) (m:=c) (n:=1) ho (hF.get (d:=19) rfl) rfl (by omega)
   exact bK (by rw[Int.natCast_add];exact hy)
  refine Wk.op hF 21 (.binOp .mul 3 (.tmp 20) (.const (.int .i64 32)) 3) (.int .i64 ((c+1)*32:Nat)) (by decide) (by kernel_rfl) (by simp) (λo ho w _=> ?_) λa hF=> ?_
  ·have hy:=dA (ev:=a.eval) (w:=w) (m:=(c+1:Nat)) (n:=32) ho (hF.get (d:=20) rfl) rfl (by omega)
   exact bK (by rw[Int.natCast_mul];exact hy)
  refine Wk.op hF 22 (.slice 9 (.tmp 16) (some (.tmp 18)) (some (.tmp 21)) none) (.string (N.s.links.extract (c*32) ((c+1)*32))) (by decide) (by kernel_rfl) (by simp)
   (λo ho w _=>bK (cN ho (hF.get (d:=16) rfl) (hF.get (d:=18) rfl) (hF.get (d:=21) rfl) (by omega) (by have:=D.links;omega))) λa hF=> ?_
  cases ho:(ae Tryd.f104 3)[10]? with
  |none=>exact absurd ho (by simp;decide)
  |some o=>
   obtain⟨e1,e2,e3⟩:=aJ (d:=some 23) (p:= .call {callee:= .value (.tmp 13),args:=#[.tmp 14, .tmp 22],argTypes:=#[3,9]}) ho (by kernel_rfl)
   have a1:=hF.get (d:=14) rfl
   have a2:=hF.get (d:=22) rfl
   refine Wk.yields (args:=#[.int .i64 c, .string (N.s.links.extract (c*32) ((c+1)*32))]) ho (e3 _) (by rw[e2];simp) hV.2.2 hM.loop rfl (λw=>mH e2 (hF.get (d:=13) rfl) (by simp[a1,a2]) w) ?_
   refine Fh D hR hT hV hne ⟨hc,hlt⟩ hS hM λw hS1 hM1=> ?_
   rw[Frame.finish_atR,ho,Option.bind_some,e1]
   have hF:=hF.put (d:=23) (by decide) (.bool true)
   revert hF
   generalize a.put (some 23) (.bool true)=a
   intro hF
   refine Wk.op hF 24 (.unOp .not 4 (.tmp 23)) (.bool false) (by decide) (by kernel_rfl) (by simp) (λo ho w _=>bK (lb ho (hF.get (d:=23) rfl))) λa hF=> ?_
   refine Wk.plain rfl (Wk.cond false (hF.get (d:=24) rfl) ?_)
   refine Wk.plain rfl (Wk.plain rfl (Wk.region (L:=[0,1,2]) rfl ?_))
   refine Wk.op hF 11 (.move (.tmp 4)) (.int .i64 c) (by decide) (by kernel_rfl) (by simp) (λo ho w _=> ?_) λa hF=> ?_
   ·have hy:=bz (ev:=a.eval) (w:=w) Tryd.prog (.inl ho)
    rw[hF.get (d:=4) rfl]at hy
    exact bK hy
   refine Wk.op hF 12 (.binOp .add 3 (.tmp 11) (.const (.int .i64 8)) 3) (.int .i64 (c+8:Nat)) (by decide) (by kernel_rfl) (by simp) (λo ho w _=> ?_) λa hF=> ?_
   ·have hy:=lc (ev:=a.eval) (w:=w) (m:=c) (n:=8) ho (hF.get (d:=11) rfl) rfl (by omega)
    exact bK (by rw[Int.natCast_add];exact hy)
   refine Wk.op hF 4 (.assign (.tmp 12)) (.int .i64 (c+8:Nat)) (by decide) (by kernel_rfl) (by simp) (λo ho w _=> ?_) λa hF=> ?_
   ·have hy:=bz (ev:=a.eval) (w:=w) Tryd.prog (.inr ho)
    rw[hF.get (d:=12) rfl]at hy
    exact bK hy
   refine Wk.plain rfl (Wk.plain rfl (again hlt a w ⟨hF.defers,hF.size,λd v hd=> ?_⟩ (hS1.mono λd hd hd'=> ?_) hM1))
   ·have h3:d=0\/d=2\/d=4:=by
     by_cases h0:d=0
     ·exact .inl h0
     ·by_cases h2:d=2
      ·exact .inr (.inl h2)
      ·by_cases h4:d=4
       ·exact .inr (.inr h4)
       ·simp[List.lookup,show(d==0)=false from by simpa using h0,show(d==2)=false from by simpa using h2,show(d==4)=false from by simpa using h4]at hd
    rcases h3 with rfl|rfl|rfl
    ·exact hF.slot 0 v hd
    ·exact hF.slot 2 v hd
    ·exact hF.slot 4 v hd
   ·have:=hd.1
    omega
 ·have e:decide ((c:Int)<n)=false:=decide_eq_false (by omega)
  rw[e]
  refine Wk.plain rfl (Wk.ends rfl (.inl rfl) (Wk.leave (.tuple #[]) rfl hF.defers Tryd.func104 (λw=>⟨results_none rfl _ _ w,events_results_none rfl _ _⟩) ?_))
  intro w r
  exact hend w ((hS.rely hL r).mono λd hd _=>by have:=hd.2;omega) (hM.rely hV r) w (aO.refl _ _ _ _)
theorem FV(D:oO N n val PL)(hR:RO N.bs/\RO N.bg/\RO N.be/\(∀b,N.gr b->RO b)/\RO 0){T:Array Value}(hT:aM [(1, .pt N.bs),(3, .pt N.bg),(4, .pt N.be)] 23 [] ⟨T,[]⟩)(hV:V b1/\V ld/\V l)(hne:b1≠l/\ld≠l){cf:Frame}{cs:List Frame}
 (hend:∀w,pY (eJ Tryd.prog ty Wg C n val RO) i (ze N C n) V (λ_=>True) w->lO N b1 ld l T .ready w->Wk (eJ Tryd.prog ty Wg C n val RO) i V (cf.finish (.tuple #[])) cs w):
 ∀(fuel c:Nat) (a:Act) (w0:World),n- c<=fuel->c%8=i->c<=n+8->aM [(0, .func (.yield l) #[] #[]),(2, .pt b1),(4, .int .i64 c)] 25 [] a->pY (eJ Tryd.prog ty Wg C n val RO) i (ze N C n) V (· <c) w0->lO N b1 ld l T .ready w0->
  Wk (eJ Tryd.prog ty Wg C n val RO) i V ((base 104).atR a [.code (mR Tryd.f104), .inLoop (mR Tryd.f104), .inBlock 0]) (cf::cs) w0:=by
 intro fuel
 induction fuel with
 |zero=>exact λc a w0 hfu hc hcn hF hS hM=>we D hR hT hV hne hend c a w0 hc hcn hF hS hM λh=>by omega
 |succ fuel ih=>exact λc a w0 hfu hc hcn hF hS hM=>we D hR hT hV hne hend c a w0 hc hcn hF hS hM λh a w hF hS hM=>ih (c+8) a w (by omega) (by omega) (by omega) hF hS hM
end
end Go.Proofs.YtkmoglhgkcnalaaDoor
namespace Go.Proofs.YtkmoglhgkcnalaaDoor
open Go
abbrev EO:Go.Conc.Lib.WgLink:={add:=80,done:=82,wait:=85,relMerge:=91,disable:=92,enable:=93,inBubble:=94,associate:=95,fatal:=96,uOr:=97,uAdd:=98,raceRead:=99,uLoad:=100,uStore:=101,disassociate:=102,semrelease:=103,acquire:=107,isAssociated:=108,uCas:=109,raceWrite:=110,semacquire:=111,orU64:=112,addU64:=113,loadU64:=114,storeU64:=115,casU64:=117,tWgP:=132,tUP:=128,tAssoc:=134,tWg:=125,tAU:=123,tU64:=55,tUint:=72,tU32:=52,tPU32:=137,tPAU:=146,tPU64:=148,tNoCopy:=119,tANoCopy:=120,tAlign64:=121}
theorem oR:Go.Conc.Lib.WgLib Tryd.prog EO:=by
 constructor
 all_goals first|kernel_rfl|(intro w;kernel_rfl)
end Go.Proofs.YtkmoglhgkcnalaaDoor
namespace Go.Proofs.YtkmoglhgkcnalaaDoor
open Go Go.Conc Go.RowKit
open Go.ConcN (WgLive)
section
variable{N:dP}{Wg C n:Nat}{val:Nat->Value}{RO:Nat->Prop}{PL:Program}{i bi:Nat}
theorem GZ(D:oO N n val PL)(hR:RO N.bs/\RO N.bg/\RO N.be/\(∀b,N.gr b->RO b)/\RO 0)(hi:i<8){w:World}(hS:pY (eJ Tryd.prog 125 Wg C n val RO) i (ze N C n) (· =bi) (λ_=>False) w)(hbi:w.heap[bi]?=some (.cells #[.int .i64 i] 3)):
 aA (eJ Tryd.prog 125 Wg C n val RO) i ⟨(· =bi),born Tryd.prog {target:= .fn (.func 81) #[.pointer (some ⟨Wg,0,none⟩), .pointer (some ⟨N.bs,0,none⟩), .pointer (some ⟨bi,0,none⟩), .pointer (some ⟨N.bg,0,none⟩), .pointer (some ⟨N.be,0,none⟩)],args:=#[]},w⟩:=by
 have hL:=jK (ty:=125) (Wg:=Wg) (C:=C) (n:=n) (val:=val) hR
 refine Wk.born (X:=eJ Tryd.prog 125 Wg C n val RO) (i:=i) (V:=(· =bi)) (f:=81) (fn:=Tryd.f81) Tryd.func81 (by kernel_rfl) (by kernel_rfl) ?_
 rw[show(#[]:Array Value)++#[.pointer (some ⟨Wg,0,none⟩), .pointer (some ⟨N.bs,0,none⟩), .pointer (some ⟨bi,0,none⟩), .pointer (some ⟨N.bg,0,none⟩), .pointer (some ⟨N.be,0,none⟩)]=[.pointer (some ⟨Wg,0,none⟩), .pointer (some ⟨N.bs,0,none⟩), .pointer (some ⟨bi,0,none⟩), .pointer (some ⟨N.bg,0,none⟩), .pointer (some ⟨N.be,0,none⟩)].toArray from by simp,
  G3 (N:=23) _ Tryd.func81 Io rfl]
 have hF:=bm [.pointer (some ⟨Wg,0,none⟩), .pointer (some ⟨N.bs,0,none⟩), .pointer (some ⟨bi,0,none⟩), .pointer (some ⟨N.bg,0,none⟩), .pointer (some ⟨N.be,0,none⟩)] 23 (by simp)
 revert hF
 generalize (Act.mk (([.pointer (some ⟨Wg,0,none⟩), .pointer (some ⟨N.bs,0,none⟩), .pointer (some ⟨bi,0,none⟩), .pointer (some ⟨N.bg,0,none⟩), .pointer (some ⟨N.be,0,none⟩)]:List Value).toArray++Array.replicate (23-([.pointer (some ⟨Wg,0,none⟩), .pointer (some ⟨N.bs,0,none⟩), .pointer (some ⟨bi,0,none⟩), .pointer (some ⟨N.bg,0,none⟩), .pointer (some ⟨N.be,0,none⟩)]:List Value).toArray.size) undef) [])=a
 intro hF
 refine Wk.plain rfl (Wk.region (L:=[0]) rfl ?_)
 cases ho:(ae Tryd.f81 0)[0]? with
 |none=>exact absurd ho (by simp;decide)
 |some o=>
 obtain⟨e1,e2,e3⟩:=aJ (d:=none) (p:= .defer {callee:= .value (.func 82),args:=#[.tmp 0],argTypes:=#[125]}) ho (by kernel_rfl)
 refine Wk.defer ho (e3 _) (by simp[baseD]) rfl e2 ?_
 have hF1:aM (iH 0 [.pointer (some ⟨Wg,0,none⟩), .pointer (some ⟨N.bs,0,none⟩), .pointer (some ⟨bi,0,none⟩), .pointer (some ⟨N.bg,0,none⟩), .pointer (some ⟨N.be,0,none⟩)]) 23 [dcall EO.done #[.pointer (some ⟨Wg,0,none⟩)]] (Act.put ⟨a.tmps,dcall 82 (#[Operand.tmp 0].map a.eval)::a.defers⟩ o.dst undef):=by
  rw[e1,hF.defers,show(#[Operand.tmp 0]:Array Operand).map a.eval=#[.pointer (some ⟨Wg,0,none⟩)]from by simp[hF.get (d:=0) rfl]]
  exact⟨rfl,hF.size,hF.slot⟩
 revert hF1
 generalize Act.put ⟨a.tmps,dcall 82 (#[Operand.tmp 0].map a.eval)::a.defers⟩ o.dst undef=a
 clear hF e1 e2 e3 ho
 intro hF
 refine Wk.plain rfl (Wk.plain rfl (Wk.region (L:=[0,1,2]) rfl ?_))
 refine Wk.op hF 7 (.load 82 (.tmp 1)) (.agg N.s.cells) (by decide) (by kernel_rfl) (by simp) (λo ho w r=>DU (.inr hR.1) (jy ho (hF.get (d:=1) rfl) (hS.rely hL r).pap.sig)) λa hF=> ?_
 refine Wk.op hF 8 (.load 3 (.tmp 2)) (.int .i64 i) (by decide) (by kernel_rfl) (by simp) (λo ho w r=>pE (.inl rfl) (ay aQ ho (hF.get (d:=2) rfl) (by rw[am ((r.own.keep bi (.inl rfl)).trans hbi)];rfl))) λa hF=> ?_
 cases ho:(ae Tryd.f81 1)[2]? with
 |none=>exact absurd ho (by simp;decide)
 |some o=>
 obtain⟨e1,e2,e3⟩:=aJ (d:=some 9) (p:= .call {callee:= .value (.func 83),args:=#[.tmp 7, .tmp 8],argTypes:=#[82,3]}) ho (by kernel_rfl)
 have hr:=λw=>az (w:=w) e2 (show(#[Operand.tmp 7, .tmp 8]:Array Operand).map a.eval=[.agg N.s.cells, .int .i64 i].toArray from by simp[hF.get (d:=7) rfl,hF.get (d:=8) rfl]) (aE Tryd.func83 (by kernel_rfl) (by kernel_rfl) _)
 refine Wk.enter ho (e3 _) (by rw[e2];simp) (λw _=>⟨(hr w).1,λe he=>by rw[(hr w).2]at he;simp at he⟩) ?_
 rw[bW (N:=6) _ Tryd.func83 Im rfl]
 have hG:=bm [.agg N.s.cells, .int .i64 i] 6 (by simp)
 revert hG
 generalize (Act.mk ([.agg N.s.cells, .int .i64 i].toArray++Array.replicate (6-[.agg N.s.cells,Value.int .i64 i].toArray.size) undef) [])=g
 intro hG
 refine Wk.plain rfl (Wk.region (L:=[0,1,2]) rfl ?_)
 refine Wk.mk hG 2 (.box 82 (.tmp 0)) N.s.cells 82 (by decide) (by kernel_rfl) (by simp) (λo ho w=> ?_) λg w1 r1 hG=> ?_
 ·have:=lx (ev:=g.eval) (w:=w) Tryd.prog ho
  rw[hG.get (d:=0) rfl]at this
  exact this
 have hS1:=(hS.rely hL r1).own hL (lX (· =bi) RO w1 (.cells N.s.cells 82))
 refine Wk.mk hG 3 (.box 3 (.tmp 1)) #[.int .i64 i] 3 (by decide) (by kernel_rfl) (by simp) (λo ho w=> ?_) λg w2 r2 hG=> ?_
 ·have:=lx (ev:=g.eval) (w:=w) Tryd.prog ho
  rw[hG.get (d:=1) rfl]at this
  exact this
 have hS2:=(hS1.rely hL r2).own hL (lX (bp (· =bi) w1 (w1.alloc (.cells N.s.cells 82))) RO w2 (.cells #[.int .i64 i] 3))
 have hb1:w1.heap.size<w2.heap.size:=by have:=r2.own.size;rw[ak]at this;omega
 have hV1:bp (· =bi) w1 (w1.alloc (.cells N.s.cells 82)) w1.heap.size:= .inr ⟨Nat.le_refl _,by rw[ak];omega⟩
 have hsig:(w2.alloc (.cells #[.int .i64 i] 3)).heap[w1.heap.size]?=some (.cells N.s.cells 82):=by
  rw[bH _ _ hb1,r2.own.keep _ (.inl hV1),aC]
 have hV2:bp (bp (· =bi) w1 (w1.alloc (.cells N.s.cells 82))) w2 (w2.alloc (.cells #[.int .i64 i] 3)) w2.heap.size:= .inr ⟨Nat.le_refl _,by rw[ak];omega⟩
 have hV21:bp (bp (· =bi) w1 (w1.alloc (.cells N.s.cells 82))) w2 (w2.alloc (.cells #[.int .i64 i] 3)) w1.heap.size:= .inl hV1
 have hint:=aC w2 (.cells #[.int .i64 i] 3)
 revert hS2 hsig hV2 hV21 hint
 generalize bp (bp (· =bi) w1 (w1.alloc (.cells N.s.cells 82))) w2 (w2.alloc (.cells #[.int .i64 i] 3))=V
 generalize w2.alloc (.cells #[.int .i64 i] 3)=wz
 generalize hB1:w1.heap.size=b1 at hb1 hG⊢
 generalize hB2:w2.heap.size=b2 at hb1 hG⊢
 intro hS2 hsig hV2 hV21 hint
 clear hS1 r1 r2 hV1 hB1 hB2 hS hbi
 refine Wk.op hG 4 (.assign (.const .nilFunc)) .nilFunc (by decide) (by kernel_rfl) (by simp) (λo ho w _=>bK (bz (ev:=g.eval) (w:=w) Tryd.prog (.inr ho))) λg hG=> ?_
 refine Wk.plain rfl (Wk.plain rfl (Wk.region (L:=[0,1]) rfl ?_))
 refine Wk.op hG 5 (.makeFunc (.func 104) #[] #[.tmp 3, .tmp 2]) (.func (.func 104) #[] #[.pointer (some ⟨b2,0,none⟩), .pointer (some ⟨b1,0,none⟩)]) (by decide) (by kernel_rfl) (by simp) (λo ho w _=> ?_) λg hG=> ?_
 ·have hy:=j5 (ev:=g.eval) (w:=w) Tryd.prog ho
  rw[show(#[Operand.tmp 3, .tmp 2]:Array Operand).map g.eval=#[.pointer (some ⟨b2,0,none⟩), .pointer (some ⟨b1,0,none⟩)]from by simp[hG.get (d:=3) rfl,hG.get (d:=2) rfl]]at hy
  exact bK hy
 refine Wk.op hG 4 (.assign (.tmp 5)) (.func (.func 104) #[] #[.pointer (some ⟨b2,0,none⟩), .pointer (some ⟨b1,0,none⟩)]) (by decide) (by kernel_rfl) (by simp) (λo ho w _=> ?_) λg hG=> ?_
 ·have hy:=bz (ev:=g.eval) (w:=w) Tryd.prog (.inr ho)
  rw[hG.get (d:=5) rfl]at hy
  exact bK hy
 refine Wk.plain rfl (Wk.ends rfl (.inr ⟨_,rfl⟩) (Wk.leave (.func (.func 104) #[] #[.pointer (some ⟨b2,0,none⟩), .pointer (some ⟨b1,0,none⟩)]) rfl hG.defers Tryd.func83 (λw=>nB (t:=4) rfl (hG.slot 4 _ rfl) w) ?_))
 rw[Frame.finish_atR,ho,Option.bind_some,e1]
 have hF:=hF.put (d:=9) (by decide) (.func (.func 104) #[] #[.pointer (some ⟨b2,0,none⟩), .pointer (some ⟨b1,0,none⟩)])
 revert hF
 generalize a.put (some 9) (.func (.func 104) #[] #[.pointer (some ⟨b2,0,none⟩), .pointer (some ⟨b1,0,none⟩)])=a
 intro hF
 clear e1 e2 e3 ho hr hG
 refine Wk.plain rfl (Wk.plain rfl ?_)
 refine Wk.range (first:=#[]) rfl Tryd.func104 (by kernel_rfl) (by kernel_rfl) (hF.get (d:=9) rfl) λw3 r3=> ?_
 have hs3:=r3.own.size
 have l1:b1<w3.heap.size:=Nat.lt_of_lt_of_le (hS2.low.1 b1 (.inl hV21)) hs3
 have l2:b2<w3.heap.size:=Nat.lt_of_lt_of_le (hS2.low.1 b2 (.inl hV2)) hs3
 have hown:bB V RO w3 (cp w3 {state:= .ready,pending:=none,fn:=(baseD 81).fn,tmps:=a.tmps,params:=#[10,11],assign:=dO Tryd.f81,body:=roundOf Tryd.f81,defers:=w3.heap.size}) #[]:=
  ⟨λm hm _=>bv w3 _ hm,by rw[fw];omega,rfl,rfl,rfl,λe he=>by simp at he⟩
 have hS3:=(hS2.rely hL r3).own hL hown
 have eg:bp V w3 (cp w3 {state:= .ready,pending:=none,fn:=(baseD 81).fn,tmps:=a.tmps,params:=#[10,11],assign:=dO Tryd.f81,body:=roundOf Tryd.f81,defers:=w3.heap.size})=jj V w3:=by
  funext m
  apply propext
  unfold bp jj
  rw[fw]
  constructor
  ·rintro(h|h)
   ·exact .inl h
   ·exact .inr (by omega)
  ·rintro(h|h)
   ·exact .inl h
   ·exact .inr (by omega)
 rw[eg]at hS3
 have hM:lO N b1 w3.heap.size (w3.heap.size+1) a.tmps .ready (cp w3 {state:= .ready,pending:=none,fn:=(baseD 81).fn,tmps:=a.tmps,params:=#[10,11],assign:=dO Tryd.f81,body:=roundOf Tryd.f81,defers:=w3.heap.size}):=
  ⟨(bv w3 _ l1).trans ((r3.own.keep _ (.inl hV21)).trans hsig),fz w3 _,fy w3 _⟩
 have hint3:(cp w3 {state:= .ready,pending:=none,fn:=(baseD 81).fn,tmps:=a.tmps,params:=#[10,11],assign:=dO Tryd.f81,body:=roundOf Tryd.f81,defers:=w3.heap.size}).heap[b2]?=some (.cells #[.int .i64 i] 3):=
  (bv w3 _ l2).trans ((r3.own.keep _ (.inl hV2)).trans hint)
 rw[show(#[]:Array Value)++#[.func (.yield (w3.heap.size+1)) #[] #[]]++#[.pointer (some ⟨b2,0,none⟩), .pointer (some ⟨b1,0,none⟩)]=[.func (.yield (w3.heap.size+1)) #[] #[], .pointer (some ⟨b2,0,none⟩), .pointer (some ⟨b1,0,none⟩)].toArray from by simp,
  bW (N:=25) _ Tryd.func104 Gz rfl]
 have hH:=bm [.func (.yield (w3.heap.size+1)) #[] #[], .pointer (some ⟨b2,0,none⟩), .pointer (some ⟨b1,0,none⟩)] 25 (by simp)
 revert hH
 generalize (Act.mk ([.func (.yield (w3.heap.size+1)) #[] #[], .pointer (some ⟨b2,0,none⟩), .pointer (some ⟨b1,0,none⟩)].toArray++Array.replicate (25-[.func (.yield (w3.heap.size+1)) #[] #[], .pointer (some ⟨b2,0,none⟩),Value.pointer (some ⟨b1,0,none⟩)].toArray.size) undef) [])=g
 intro hH
 have hV3:jj V w3 b1/\jj V w3 w3.heap.size/\jj V w3 (w3.heap.size+1):=⟨.inl hV21, .inr (.inl rfl), .inr (.inr rfl)⟩
 have hne:b1≠w3.heap.size+1/\w3.heap.size≠w3.heap.size+1:=⟨by omega,by omega⟩
 refine Wk.plain rfl (Wk.region (L:=[0,1]) rfl ?_)
 refine Wk.op hH 5 (.load 3 (.tmp 1)) (.int .i64 i) (by decide) (by kernel_rfl) (by simp) (λo ho w r=>pE (.inl (.inl hV2)) (ay aQ ho (hH.get (d:=1) rfl) (by rw[am ((r.own.keep b2 (.inl (.inl hV2))).trans hint3)];rfl))) λg hH=> ?_
 refine Wk.op hH 4 (.assign (.tmp 5)) (.int .i64 i) (by decide) (by kernel_rfl) (by simp) (λo ho w _=> ?_) λg hH=> ?_
 ·have hy:=bz (ev:=g.eval) (w:=w) Tryd.prog (.inr ho)
  rw[hH.get (d:=5) rfl]at hy
  exact bK hy
 refine Wk.plain rfl (Wk.plain rfl (Wk.plain rfl ?_))
 have look3:∀{x y z:Value} (F:List (Nat×Value)),F.lookup 0=some x->F.lookup 2=some y->F.lookup 4=some z->∀d v,[(0,x),(2,y),(4,z)].lookup d=some v->F.lookup d=some v:=by
  intro x y z F h0 h2 h4 d v hd
  by_cases e0:d=0
  ·subst e0;rw[h0];exact hd
  by_cases e2:d=2
  ·subst e2;rw[h2];exact hd
  by_cases e4:d=4
  ·subst e4;rw[h4];exact hd
  simp[List.lookup,show(d==0)=false from by simpa using e0,show(d==2)=false from by simpa using e2,show(d==4)=false from by simpa using e4]at hd
 have look3':∀{x y z:Value} (F:List (Nat×Value)),F.lookup 1=some x->F.lookup 3=some y->F.lookup 4=some z->∀d v,[(1,x),(3,y),(4,z)].lookup d=some v->F.lookup d=some v:=by
  intro x y z F h0 h2 h4 d v hd
  by_cases e0:d=1
  ·subst e0;rw[h0];exact hd
  by_cases e2:d=3
  ·subst e2;rw[h2];exact hd
  by_cases e4:d=4
  ·subst e4;rw[h4];exact hd
  simp[List.lookup,show(d==1)=false from by simpa using e0,show(d==3)=false from by simpa using e2,show(d==4)=false from by simpa using e4]at hd
 refine FV (l:=w3.heap.size+1) (ld:=w3.heap.size) (b1:=b1) D hR (T:=a.tmps) ⟨rfl,hF.size,λd v hd=>hF.slot d v (look3' _ rfl rfl rfl d v hd)⟩ hV3 hne (λw hSe hMe=> ?_) n i g _ (by omega) (by omega) (by omega) (hH.sub (look3 _ rfl rfl rfl)) (hS3.mono λc hc hlt=> ?_) hM
 ·show Wk _ i (jj V w3) ((baseD 81).atR ⟨a.tmps,{target:= .collected w3.heap.size,args:=#[]}::a.defers⟩ (.endRangeFunc (w3.heap.size+1)::[.inBlock 0])) [rQ Tryd.prog] w
  refine Wk.rangeOver hV3.2.2 hMe.loop rfl rfl λw4 r4=> ?_
  have hS4:=(hSe.rely hL r4).own hL (fR (RO:=RO) (w:=w4) {state:= .exhausted,pending:=none,fn:=81,tmps:=a.tmps,params:=#[10,11],assign:=dO Tryd.f81,body:=roundOf Tryd.f81,defers:=w3.heap.size} hV3.2.2)
  rw[eB]at hS4
  have hM4:=(hMe.rely hV3 r4).turn (st':= .exhausted) hne
  refine Wk.plain rfl (Wk.ends rfl (.inl rfl) (Wk.take rfl hV3.2.1 hM4.list λw5 r5=> ?_))
  rw[hF.defers]
  have hown5:bB (jj V w3) RO w5 {w5 with heap:=w5.heap.setIfInBounds w3.heap.size (.deferred none)} #[]:=
   ⟨λm _ hm=>sN (show w3.heap.size≠m from λe=>hm (e▸hV3.2.1)),by simp,rfl,rfl,rfl,λe he=>by simp at he⟩
  have hS5:=(hS4.rely hL r5).own hL hown5
  obtain⟨v0,h0⟩:=hS5.pap.zero
  exact Wk.done (X:=eJ Tryd.prog 125 Wg C n val RO) oR rfl hR.2.2.2.2 Tryd.func81 rfl h0 hS5.live λc hc=>hS5.cells c hc trivial
 ·have:=hc.1
  have:=hc.2
  omega
end
end Go.Proofs.YtkmoglhgkcnalaaDoor
namespace Go.Proofs.YtkmoglhgkcnalaaDoor
open Go Go.Conc Go.RowKit
open Go.ConcN (WgLive)
open Go.ConcR (DC0)
def fY(f:Func):Code:= .seq (.region 4 (ae f 4) false) (.seq (.cond (.tmp 13) .skip (.exit 0)) (.seq (.block 1 (.seq (.region 5 (ae f 5) false) (.seq (.region 6 (ae f 6) false) (.region 7 (ae f 7) false)))) (.region 8 (ae f 8) false)))
def jg(f:Func):Code:= .seq (.region 9 (ae f 9) false) (.seq (.region 10 (ae f 10) false) .ret)
theorem Is:Tryd.f68.body=some (.seq (.region 0 (ae Tryd.f68 0) false) (.seq (.region 1 (ae Tryd.f68 1) false) (.seq (.region 2 (ae Tryd.f68 2) false)
 (.seq (.seq (.region 3 (ae Tryd.f68 3) false) (.block 0 (.loop (fY Tryd.f68)))) (jg Tryd.f68))))):=by kernel_rfl
theorem Ik.cond{X:ap}{Next:(Nat->Prop)->Goroutine->World->Prop}{m:Nat}{V:Nat->Prop}{b:Frame}{a:Act}{k:List Item}{cs:List Frame}{w0:World}{x:Operand}{A B:Code}(q:Bool)(hq:a.eval x= .bool q)(h:Ik X Next m V (b.atR a (.code (if q then A else B)::k)) cs w0):Ik X Next (m+1) V (b.atR a (.code (.cond x A B)::k)) cs w0:=by
 refine Ik.plain (t:= .code (if q then A else B)::k) ?_ h
 have e:(b.atR a (.code (.cond x A B)::k)).eval x= .bool q:=by rw[Frame.eval_atR];exact hq
 show(match (b.atR a (.code (.cond x A B)::k)).eval x with| .bool q=>some (Item.code (if q then A else B)::k)|_=>none)=_
 rw[e]
theorem Ik.seg{X:ap}{pY:(Nat->Prop)->Goroutine->World->Prop}{m:Nat}{V:Nat->Prop}{fr:Frame}{cs:List Frame}{w0:World}(h:∀w,aR X V w0 w->Goes X.P true (aR X V) DC0 (pY V) m (G fr cs) w):Ik X pY m V fr cs w0:=λw hw=>cB (h w hw)
theorem bD.up{X:ap}{Next:(Nat->Prop)->Goroutine->World->Prop}:∀{m:Nat} {V:Nat->Prop} {g:Goroutine} {w:World},bD X Next m V g w->bD X Next (m+1) V g w
 |0,_,_,_,h=> .inl h
 |_+1,_,_,_,h=>h.elim .inl λ⟨hs,h⟩=> .inr ⟨hs,λw₁ h₁=>let ⟨g',w',es,h1,h2,h3⟩:=h w₁ h₁;⟨g',w',es,h1,h2,bD.up h3⟩⟩
theorem bD.to{X:ap}{Next:(Nat->Prop)->Goroutine->World->Prop}{m:Nat}{V:Nat->Prop}{g:Goroutine}{w:World}(h:bD X Next m V g w):∀e,bD X Next (m+e) V g w
 |0=>h
 |e+1=>(bD.to h e).up
theorem Ik.to{X:ap}{Next:(Nat->Prop)->Goroutine->World->Prop}{m n:Nat}{V:Nat->Prop}{fr:Frame}{cs:List Frame}{w0:World}(hmn:m<=n)(h:Ik X Next m V fr cs w0):Ik X Next n V fr cs w0:=λw hw=>by
 have:=(h w hw).to (n- m)
 rwa [show m+(n- m)=n from by omega]at this
structure Sn (X:ap) (wE w:World):Prop where
 live:WgLive X.ty X.Wg w
 since:di X.RO wE w
theorem Sn.rely{X:ap}{V:Nat->Prop}{wE w w₁:World}(h:Sn X wE w)(r:aR X V w w₁):Sn X wE w₁:=⟨r.live h.live,h.since.trans (r.own.mono λ_ hb=> .inr hb)⟩
theorem Sn.meet{X:ap}{V:Nat->Prop}{wE w w₁:World}(h:Sn X wE w)(r:l8 X V w w₁):Sn X wE w₁:=⟨r.live,h.since.trans (r.since.mono λ_ hb=> .inr hb)⟩
structure xq (N:dP) (Wg C n:Nat) (RO:Nat->Prop) (wE:World):Prop where
 pap:ze N C n wE
 ro:RO N.bs/\RO N.bg/\RO N.be/\(∀b,N.gr b->RO b)/\RO 0
 low:(∀b,RO b->b<wE.heap.size)/\Wg<wE.heap.size/\C<wE.heap.size
 sep:¬RO C/\C≠Wg/\¬RO Wg
abbrev Vn:Nat->Prop:=λ_=>False
section
variable{N:dP}{Wg C n:Nat}{val:Nat->Value}{RO:Nat->Prop}{PL:Program}{wE:World}{c:Frame}{cs:List Frame}
def GL(N:dP)(Wg j:Nat):List (Nat×Value):=[(2, .pt N.bs),(3, .pt N.bg),(5, .pt N.be),(6, .pt Wg),(12, .int .i64 j)]
theorem ux{j:Nat}{F:List (Nat×Value)}(h2:F.lookup 2=some (.pointer (some ⟨N.bs,0,none⟩)))(h3:F.lookup 3=some (.pointer (some ⟨N.bg,0,none⟩)))(h5:F.lookup 5=some (.pointer (some ⟨N.be,0,none⟩)))(h6:F.lookup 6=some (.pointer (some ⟨Wg,0,none⟩)))(h12:F.lookup 12=some (.int .i64 j)):
 ∀d v,(GL N Wg j).lookup d=some v->F.lookup d=some v:=by
 intro d v hd
 by_cases e0:d=2
 ·subst e0;rw[h2];exact hd
 by_cases e1:d=3
 ·subst e1;rw[h3];exact hd
 by_cases e2:d=5
 ·subst e2;rw[h5];exact hd
 by_cases e3:d=6
 ·subst e3;rw[h6];exact hd
 by_cases e4:d=12
 ·subst e4;rw[h12];exact hd
 simp[GL,List.lookup,show(d==2)=false from by simpa using e0,show(d==3)=false from by simpa using e1,show(d==5)=false from by simpa using e2,show(d==6)=false from by simpa using e3,show(d==12)=false from by simpa using e4]at hd
def A6(X:ap)(wE:World)(c:Frame)(cs:List Frame)(_:Nat->Prop)(g:Goroutine)(w:World):Prop:=g=hU (c.finish (.slice (some ⟨X.C,0,none⟩) X.n X.n)) cs/\di X.RO wE w
def Jg(f:FuncId)(ops:Array Oper)(k:List Item)(X:ap)(N:dP)(wE:World)(cs:List Frame)(V:Nat->Prop)(g:Goroutine)(w:World):Prop:=
 ∃w00 a,aM (GL N X.Wg 8) 20 [] a/\Sn X wE w00/\A3 X EO w00 ((base f).at a (.inRegion ops [0]::k)) cs V g w
theorem qa.mono{X:ap}{Fin A A':(Nat->Prop)->Goroutine->World->Prop}(hA:∀V g w,A V g w->A' V g w){V:Nat->Prop}{g:Goroutine}{w:World}(h:qa X Fin A V g w):qa X Fin A' V g w:=by
 refine⟨h.1,λv hv hw=> ?_⟩
 obtain⟨g',h1,h2,h3⟩:=h.2 v hv hw
 refine⟨g',h1,h2,λh0=> ?_⟩
 obtain⟨k,hk⟩:=h3 h0
 refine⟨k,hk.mono λV g w h4=>⟨h4.1,λv' hv' hw'=>⟨(h4.2 v' hv' hw').1,λhne=> ?_⟩⟩⟩
 obtain⟨g2,h5,k2,hk2⟩:=(h4.2 v' hv' hw').2 hne
 exact⟨g2,h5,k2,hk2.mono hA⟩
end
theorem tl(V:Nat->Prop)(w:World)(a:Addr)(v:Value):bp V w (w.setCell a v)=V:=by
 funext b
 apply propext
 exact⟨λh=>h.elim id λh=>absurd h.2 (by simpa[World.setCell]using h.1), .inl⟩
theorem tm(w:World)(o:Obj):bp Vn w (w.alloc o)=(· =w.heap.size):=by
 funext b
 apply propext
 unfold bp
 rw[ak]
 exact⟨λh=>h.elim (λh=>h.elim) λh=>by omega,λh=> .inr (by omega)⟩
theorem Hf{P:Program}{ev:Operand->Value}{o:Oper}{x:Operand}{f:FuncId}{cap:Array Value}(hop:o.op= .go {callee:= .value x,args:=#[],argTypes:=#[]})(hx:ev x= .func (.func f) #[] cap)(w:World):
 (execOp ev o).run P w= .ok (.spawn {target:= .fn (.func f) cap,args:=#[]}) w/\(execOp ev o).events P w #[]=#[]:=by
 constructor<;>simp[execOp,hop,resolve,Deferred.ofValue,hx]
section
variable{N:dP}{Wg C n:Nat}{val:Nat->Value}{RO:Nat->Prop}{PL:Program}{wE:World}{c:Frame}{cs:List Frame}
theorem Lt(h0:xq N Wg C n RO wE){w:World}(h:di RO wE w):ze N C n w:=jK (ty:=0) (Wg:=Wg) (val:=λ_=>undef) h0.ro wE w h.keep h.size h0.pap
theorem vm(h0:xq N Wg C n RO wE){V:Nat->Prop}{w00:World}{a:Act}(hF:aM (GL N Wg 8) 20 [] a)(hSn:Sn (eJ Tryd.prog 125 Wg C n val RO) wE w00)(w:World)(hM:l8 (eJ Tryd.prog 125 Wg C n val RO) V w00 w):
 bD (eJ Tryd.prog 125 Wg C n val RO) (A6 (eJ Tryd.prog 125 Wg C n val RO) wE c cs) 12 V (G ((base 68).at (a.put (((ae Tryd.f68 9)[0]?).bind (·.dst)) (.tuple #[])) (.inRegion (ae Tryd.f68 9) []::[.code (.seq (.region 10 (ae Tryd.f68 10) false) .ret)])) (c::cs)) w:=by
 have hS:=hSn.meet hM
 have hF:=hF.put (d:=18) (by decide) (.tuple #[])
 rw[show((ae Tryd.f68 9)[0]?).bind (·.dst)=some 18 from by kernel_rfl]
 revert hF
 generalize a.put (some 18) (.tuple #[])=a
 intro hF
 refine Ik.now (fr:=(base 68).atR a (.inRegion (ae Tryd.f68 9) []::[.code (.seq (.region 10 (ae Tryd.f68 10) false) .ret)])) (cs:=c::cs) ?_
 refine Ik.plain rfl (Ik.plain rfl (Ik.region (L:=[0,1]) rfl ?_))
 refine Ik.op hF 19 (.load 70 (.tmp 5)) (.slice (some ⟨C,0,none⟩) n n) (by decide) (by kernel_rfl) (by simp) (λo ho w r=>pE (.inr h0.ro.2.2.1) (ay pn ho (hF.get (d:=5) rfl) (by rw[am (Lt h0 (hS.rely r).since).ends];rfl))) λa hF=> ?_
 refine Ik.op hF 4 (.assign (.tmp 19)) (.slice (some ⟨C,0,none⟩) n n) (by decide) (by kernel_rfl) (by simp) (λo ho w _=> ?_) λa hF=> ?_
 ·have hy:=bz (ev:=a.eval) (w:=w) Tryd.prog (.inr ho)
  rw[hF.get (d:=19) rfl]at hy
  exact bK hy
 refine Ik.plain rfl (Ik.ends rfl (.inr ⟨_,rfl⟩) (Ik.leave (.slice (some ⟨C,0,none⟩) n n) rfl hF.defers Tryd.func68 (λw=>nB (t:=4) rfl (hF.slot 4 _ rfl) w) (Ik.stop λw1 r1=>⟨rfl,(hS.rely r1).since⟩)))
abbrev An(X:ap)(f:Func)(g:FuncId)(N:dP)(wE:World)(cs:List Frame):=Jg g (ae f 9) [.code (.seq (.region 10 (ae f 10) false) .ret)] X N wE cs
theorem BV(h0:xq N Wg C n RO wE)(V:Nat->Prop)(g:Goroutine)(w:World)(h:An (eJ Tryd.prog 125 Wg C n val RO) Tryd.f68 68 N wE (c::cs) V g w):
 ∃k,bD (eJ Tryd.prog 125 Wg C n val RO) (qa (eJ Tryd.prog 125 Wg C n val RO) (A6 (eJ Tryd.prog 125 Wg C n val RO) wE c cs) (An (eJ Tryd.prog 125 Wg C n val RO) Tryd.f68 68 N wE (c::cs))) k V g w:=by
 obtain⟨w00,a,hF,hSn,hH⟩:=h
 have hw:=Jo (eJ Tryd.prog 125 Wg C n val RO) oR (Fin:=A6 (eJ Tryd.prog 125 Wg C n val RO) wE c cs) (V:=V) (w00:=w00) (mT:=12) (vm h0 hF hSn) g w hH
 exact⟨30,(cB hw).mono λV g w=>qa.mono λV g w h=>⟨w00,a,hF,hSn,h⟩⟩
theorem GB(X:ap)(f:Func)(g0:FuncId)(wE:World)(V:Nat->Prop)(g:Goroutine)(w:World)(h:An X f g0 N wE cs V g w):g.status= .running:=by
 obtain⟨w00,a,_,_,T,rfl,_⟩:=h
 rfl
end
def JZ(X:ap)(Anch:(Nat->Prop)->Goroutine->World->Prop):Nat->(Nat->Prop)->Goroutine->World->Prop
 |0=>EJ X Anch
 |r+1=>xw X (8-(r+1)) (ju X Anch 8 r)
theorem Jt{X:ap}{Anch:(Nat->Prop)->Goroutine->World->Prop}{r k:Nat}{V:Nat->Prop}{g:Goroutine}{w:World}(h:bD X (JZ X Anch r) k V g w):ju X Anch 8 r V g w:=by
 cases r with
 |zero=>exact⟨k,h⟩
 |succ r=>exact⟨k,h⟩
section
variable{N:dP}{Wg C n:Nat}{val:Nat->Value}{RO:Nat->Prop}{PL:Program}{wE:World}{c:Frame}{cs:List Frame}
theorem JR(h0:xq N Wg C n RO wE){a:Act}{w0:World}(hF:aM (GL N Wg 8) 20 [] a)(hSn:Sn (eJ Tryd.prog 125 Wg C n val RO) wE w0):
 Ik (eJ Tryd.prog 125 Wg C n val RO) (EJ (eJ Tryd.prog 125 Wg C n val RO) (An (eJ Tryd.prog 125 Wg C n val RO) Tryd.f68 68 N wE (c::cs))) 300 Vn ((base 68).atR a [.code (fY Tryd.f68), .inLoop (fY Tryd.f68), .inBlock 0, .code (jg Tryd.f68)]) (c::cs) w0:=by
 refine Ik.plain rfl (Ik.region (L:=[0]) rfl ?_)
 refine Ik.op hF 13 (.binOp .lss 3 (.tmp 12) (.const (.int .i64 8)) 3) (.bool false) (by decide) (by kernel_rfl) (by simp) (λo ho w _=>bK (cQ (m:=8) (n:=8) ho (hF.get (d:=12) rfl) rfl)) λa hF=> ?_
 refine Ik.plain rfl (Ik.plain rfl (Ik.cond false (hF.get (d:=13) rfl) ?_))
 refine Ik.plain rfl (Ik.plain rfl (Ik.region (L:=[0]) rfl ?_))
 cases ho:(ae Tryd.f68 9)[0]? with
 |none=>exact absurd ho (by simp;decide)
 |some o=>
 obtain⟨e1,e2,e3⟩:=aJ (d:=some 18) (p:= .call {callee:= .value (.func 85),args:=#[.tmp 6],argTypes:=#[125]}) ho (by kernel_rfl)
 have hr:=λw=>az (w:=w) e2 (show(#[Operand.tmp 6]:Array Operand).map a.eval=#[.pointer (some ⟨Wg,0,none⟩)]from by simp[hF.get (d:=6) rfl]) (aE (P:=Tryd.prog) oR.f_wait (by kernel_rfl) (by kernel_rfl) _)
 refine Ik.enter ho (e3 _) (by rw[e2];simp) hr ?_
 refine Ik.to (m:=3) (by decide) λw r=> ?_
 have hM:l8 (eJ Tryd.prog 125 Wg C n val RO) Vn w0 w:=⟨r.live hSn.live,r.own,λh=>h.elim (λh=>h.elim) h0.sep.2.2⟩
 have hg:=xB (eJ Tryd.prog 125 Wg C n val RO) oR (V:=Vn) (c:=(base 68).atR a (.inRegion (ae Tryd.f68 9) [0]::[.code (.seq (.region 10 (ae Tryd.f68 10) false) .ret)])) (cs:=c::cs) w hM
 have he:Frame.enter Tryd.prog 85 #[.pointer (some ⟨Wg,0,none⟩)] .normal=(base EO.wait).at ⟨#[.pointer (some ⟨Wg,0,none⟩)]++Array.replicate 83 undef,[]⟩ [.code (Go.ConcR.Gen.body_wait EO)]:=bW (N:=84) (c:=Go.ConcR.Gen.body_wait EO) [.pointer (some ⟨Wg,0,none⟩)] oR.f_wait (by kernel_rfl) (by kernel_rfl)
 rw[he]
 refine(cB hg).mono λV g w h=>⟨h.1, ?_⟩
 obtain⟨g',h1,k,h2⟩:=h.2
 exact⟨g',h1,k,h2.mono λV g w h3=>⟨w0,a,hF.sub (ux rfl rfl rfl rfl rfl),hSn,h3⟩⟩
theorem JQ(D:oO N n val PL)(h0:xq N Wg C n RO wE){j:Nat}(hj:j<8){Next:(Nat->Prop)->Goroutine->World->Prop}{a:Act}{w0:World}(hF:aM (GL N Wg j) 20 [] a)(hSn:Sn (eJ Tryd.prog 125 Wg C n val RO) wE w0)
 (hnext:∀a w,aM (GL N Wg j) 20 [] a->Sn (eJ Tryd.prog 125 Wg C n val RO) wE w->Next Vn (hU ((base 68).atR a (.inRegion (ae Tryd.f68 7) []::[.inBlock 1, .code (.region 8 (ae Tryd.f68 8) false), .inLoop (fY Tryd.f68), .inBlock 0, .code (jg Tryd.f68)])) cs) w):
 Ik (eJ Tryd.prog 125 Wg C n val RO) (xw (eJ Tryd.prog 125 Wg C n val RO) j Next) 300 Vn ((base 68).atR a [.code (fY Tryd.f68), .inLoop (fY Tryd.f68), .inBlock 0, .code (jg Tryd.f68)]) cs w0:=by
 refine Ik.plain rfl (Ik.region (L:=[0]) rfl ?_)
 refine Ik.op hF 13 (.binOp .lss 3 (.tmp 12) (.const (.int .i64 8)) 3) (.bool true) (by decide) (by kernel_rfl) (by simp) (λo ho w _=> ?_) λa hF=> ?_
 ·have hy:=cQ (ev:=a.eval) (w:=w) (m:=j) (n:=8) ho (hF.get (d:=12) rfl) rfl
  rw[decide_eq_true (show(j:Int)<8 from by omega)]at hy
  exact bK hy
 refine Ik.plain rfl (Ik.plain rfl (Ik.cond true (hF.get (d:=13) rfl) ?_))
 refine Ik.plain rfl (Ik.plain rfl (Ik.plain rfl (Ik.plain rfl (Ik.region (L:=[0,1,2]) rfl ?_))))
 refine Ik.op hF 14 (.move (.tmp 12)) (.int .i64 j) (by decide) (by kernel_rfl) (by simp) (λo ho w _=> ?_) λa hF=> ?_
 ·have hy:=bz (ev:=a.eval) (w:=w) Tryd.prog (.inl ho)
  rw[hF.get (d:=12) rfl]at hy
  exact bK hy
 refine Ik.mk hF 7 (.alloc 3) (λw=> .pointer (some ⟨w.heap.size,0,none⟩)) (λ_=> .cells #[.int .i64 0] 3) (by decide) (by kernel_rfl) (by simp) (λo ho w _=>⟨(gZ ho).1,λe he=>by rw[(gZ ho).2]at he;simp at he⟩) λa w1 r1 hF=> ?_
 have hS1:=hSn.rely r1
 rw[tm]
 have hat:=aC w1 (.cells #[.int .i64 0] 3)
 have hsz:=ak w1 (.cells #[.int .i64 0] 3)
 have hSa:Sn (eJ Tryd.prog 125 Wg C n val RO) wE (w1.alloc (.cells #[.int .i64 0] 3)):=by
  have hsE:=hS1.since.size
  have hlw:=h0.low.2.1
  refine⟨?_,⟨λb hb=>(bH _ _ (Nat.lt_of_lt_of_le (h0.low.1 b hb) hsE)).trans (hS1.since.keep b hb),by rw[hsz];have:=hS1.since.size;omega,hS1.since.os,hS1.since.output,hS1.since.tape⟩⟩
  obtain⟨st,sm,hl⟩:=hS1.live
  exact⟨st,sm,(bH _ _ (show Wg<w1.heap.size from Nat.lt_of_lt_of_le hlw hsE)).trans hl⟩
 have hbE:wE.heap.size<=w1.heap.size:=hS1.since.size
 revert hat hSa
 generalize w1.alloc (.cells #[.int .i64 0] 3)=w2 at hsz⊢
 generalize w1.heap.size=bi at hbE hF hsz⊢
 intro hat hSa
 clear hS1 r1
 cases ho:(ae Tryd.f68 5)[2]? with
 |none=>exact absurd ho (by simp;decide)
 |some o=>
 obtain⟨e1,e2,e3⟩:=aJ (d:=none) (p:= .store 3 (.tmp 7) (.tmp 14)) ho (by kernel_rfl)
 refine Ik.makes ho (e3 _) (by rw[e2];simp) λw3 r3=> ?_
 have hat3:w3.heap[bi]?=some (.cells #[.int .i64 0] 3):=(r3.own.keep bi (.inl rfl)).trans hat
 have hst:=eX (w:=w3) (b:=bi) (k:=0) (v:= .int .i64 j) (v0:= .int .i64 0) rfl rfl (FM.1 w3) e2 (hF.get (d:=7) rfl) (hF.get (d:=14) rfl) (by rw[am hat3];rfl) (by unfold World.frozen?;rw[show w3.heap[(⟨bi,0,none⟩:Addr).block]?=_ from hat3];simp)
 refine⟨_,hst.1, ?_, ?_⟩
 ·rw[hst.2]
  exact zt (V:=(· =bi)) (a:=⟨bi,0,none⟩) rfl _
 rw[tl,e1]
 have hS3:=hSa.rely r3
 have hbi:bi<w3.heap.size:=(gA hat3).1
 have hbR:∀b,RO b->b≠bi:=λb hb e=>by have:=h0.low.1 b hb;omega
 have hS4:Sn (eJ Tryd.prog 125 Wg C n val RO) wE (w3.setCell ⟨bi,0,none⟩ (.int .i64 j)):=by
  have hlw:=h0.low.2.1
  refine⟨?_,⟨λb hb=>(bV w3 _ (hbR b hb)).trans (hS3.since.keep b hb),by simpa[World.setCell]using hS3.since.size,hS3.since.os,hS3.since.output,hS3.since.tape⟩⟩
  obtain⟨st,sm,hl⟩:=hS3.live
  exact⟨st,sm,(bV w3 _ (show Wg≠bi from by omega)).trans hl⟩
 have hat4:=kg (v:= .int .i64 j) hat3
 have hF:aM ((7, .pt bi)::(14, .int .i64 j)::(13, .bool true)::GL N Wg j) 20 [] (a.put none undef):=hF
 revert hat4 hS4 hF
 generalize w3.setCell ⟨bi,0,none⟩ (.int .i64 j)=w4
 generalize a.put none undef=a
 intro hS4 hat4 hF
 clear hS3 r3 hat3 hst hSa hat e1 e2 e3 ho hsz
 refine Ik.plain rfl (Ik.plain rfl (Ik.region (L:=[0]) rfl ?_))
 cases ho:(ae Tryd.f68 6)[0]? with
 |none=>exact absurd ho (by simp;decide)
 |some o=>
 obtain⟨e1,e2,e3⟩:=aJ (d:=some 15) (p:= .call {callee:= .value (.func 80),args:=#[.tmp 6, .const (.int .i64 1)],argTypes:=#[125,3]}) ho (by kernel_rfl)
 have hr:=λw=>az (w:=w) e2 (show(#[Operand.tmp 6, .const (.int .i64 1)]:Array Operand).map a.eval=#[.pointer (some ⟨Wg,0,none⟩), .int .i64 1]from by simp[hF.get (d:=6) rfl];rfl) (aE (P:=Tryd.prog) oR.f_add (by kernel_rfl) (by kernel_rfl) _)
 refine Ik.enter ho (e3 _) (by rw[e2];simp) hr ?_
 have he:Frame.enter Tryd.prog 80 #[.pointer (some ⟨Wg,0,none⟩), .int .i64 1] .normal=(base EO.add).at ⟨#[.pointer (some ⟨Wg,0,none⟩), .int .i64 1]++Array.replicate 115 undef,[]⟩ [.code (Go.ConcR.Gen.body_add EO)]:=bW (N:=117) (c:=Go.ConcR.Gen.body_add EO) [.pointer (some ⟨Wg,0,none⟩), .int .i64 1] oR.f_add (by kernel_rfl) (by kernel_rfl)
 rw[he]
 refine Ik.to (m:=200) (by decide) (Ik.seg λw5 r5=> ?_)
 have hM5:l8 (eJ Tryd.prog 125 Wg C n val RO) (· =bi) w4 w5:=⟨r5.live hS4.live,r5.own,λh=>h.elim (λh=>by have:=h0.low.2.1;have h:Wg=bi:=h;omega) h0.sep.2.2⟩
 refine GI (eJ Tryd.prog 125 Wg C n val RO) oR (mT:=4) (w00:=w4) (λw6 hM6=> ?_) w5 hM5
 have hF:=hF.put (d:=15) (by decide) (.tuple #[])
 rw[ho,Option.bind_some,e1]
 revert hF
 generalize a.put (some 15) (.tuple #[])=a
 intro hF
 refine Ik.now (fr:=(base 68).atR a (.inRegion (ae Tryd.f68 6) []::_)) ?_
 refine Ik.plain rfl (Ik.region (L:=[0,1]) rfl ?_)
 refine Ik.op hF 16 (.makeFunc (.func 81) #[] #[.tmp 6, .tmp 2, .tmp 7, .tmp 3, .tmp 5]) (.func (.func 81) #[] #[.pointer (some ⟨Wg,0,none⟩), .pointer (some ⟨N.bs,0,none⟩), .pointer (some ⟨bi,0,none⟩), .pointer (some ⟨N.bg,0,none⟩), .pointer (some ⟨N.be,0,none⟩)]) (by decide) (by kernel_rfl) (by simp) (λo ho w _=> ?_) λa hF=> ?_
 ·have hy:=j5 (ev:=a.eval) (w:=w) Tryd.prog ho
  rw[show(#[Operand.tmp 6, .tmp 2, .tmp 7, .tmp 3, .tmp 5]:Array Operand).map a.eval=#[.pointer (some ⟨Wg,0,none⟩), .pointer (some ⟨N.bs,0,none⟩), .pointer (some ⟨bi,0,none⟩), .pointer (some ⟨N.bg,0,none⟩), .pointer (some ⟨N.be,0,none⟩)]from by simp[hF.get (d:=6) rfl,hF.get (d:=2) rfl,hF.get (d:=7) rfl,hF.get (d:=3) rfl,hF.get (d:=5) rfl]]at hy
  exact bK hy
 refine Ik.stop λw7 r7=> ?_
 have hM7:=Lm hM6 r7
 have hS7:=hS4.meet hM7
 clear e1 e2 e3 ho hr
 cases ho:(ae Tryd.f68 7)[1]? with
 |none=>exact absurd ho (by simp;decide)
 |some o=>
 obtain⟨e1,e2,e3⟩:=aJ (d:=none) (p:= .go {callee:= .value (.tmp 16),args:=#[],argTypes:=#[]}) ho (by kernel_rfl)
 have hgo:=Hf (P:=Tryd.prog) e2 (hF.get (d:=16) rfl) w7
 have hsp:=stepG_spawn (P:=Tryd.prog) (main:=true) (b:=base 68) (a:=a) (k:=[.inBlock 1, .code (.region 8 (ae Tryd.f68 8) false), .inLoop (fY Tryd.f68), .inBlock 0, .code (jg Tryd.f68)]) (cs:=cs) (rest:=[]) ho (e3 _) (by simp[base]) hgo.1 rfl
 unfold listed at hsp
 rw[hgo.2,seen_none,e1]at hsp
 refine⟨rfl,_,_,(· =bi),hsp,λb hb=>hb,λhlist hlow=> ?_, ?_⟩
 ·have hsz7:=hS7.since.size
  refine GZ D h0.ro hj ⟨Lt h0 hS7.since,hS7.live,hlist,λ_ _ h=>h.elim,⟨λb hb=>hb.elim (hlow b) λhb=>Nat.lt_of_lt_of_le (h0.low.1 b hb) hsz7,Nat.lt_of_lt_of_le h0.low.2.1 hsz7,Nat.lt_of_lt_of_le h0.low.2.2 hsz7⟩,⟨λb hb=> ?_,h0.sep.1,h0.sep.2.1⟩⟩ ((hM7.since.keep bi (.inl rfl)).trans hat4)
  have hb:b=bi:=hb
  subst hb
  exact⟨λhr=>hbR b hr rfl,λe=>by have:=h0.low.2.2;have e:b=C:=e;omega,λe=>by have:=h0.low.2.1;have e:b=Wg:=e;omega⟩
 ·have eV:(λb=>b=bi/\¬b=bi)=Vn:=by
   funext b
   apply propext
   exact⟨λh=>h.2 h.1,λh=>h.elim⟩
  show Next (λb=>b=bi/\¬b=bi) _ w7
  rw[eV]
  exact hnext (a.put none undef) w7 (hF.sub (ux rfl rfl rfl rfl rfl)) hS7
end
section
variable{w:World}{ev:Operand->Value}{o:Oper}{x y:Operand}
theorem y9{n:Nat}(hn0:0<n)(hn:n<=65536)(hop:o.op= .makeSlice 70 x y)(hx:ev x= .int .i64 n)(hy:ev y= .int .i64 n):
 (execOp ev o).run Tryd.prog w= .ok (.value (.slice (some ⟨w.heap.size,0,none⟩) n n)) (w.alloc (.cells (Array.replicate n (.string ⟨#[]⟩)) 9))/\(execOp ev o).events Tryd.prog w #[]=#[]:=by
 have hu:Tryd.prog.underlying 70=some (.slice 9):=by kernel_rfl
 have wl:IntKind.i64.wrap (n:Int)=n:=by rw[IntKind.wrap_i64];omega
 have hb:Tryd.t9.bytes=16:=by kernel_rfl
 have n2:¬(281474976710656<16*(n:Int)):=by omega
 have hroom':n*16<=roomBytes:=by unfold roomBytes;omega
 have h0:¬n=0:=by omega
 constructor
 ·simp[execOp,hop,hx,hy,Instr.makeSlice,run_underlying hu,wl,n2,askRoom,newRow,hb,h0,go_sem]
  refine congrArg (λz=>Result.ok (Next.value (Value.slice (some ⟨w.heap.size,0,none⟩) n n)) (w.alloc (Obj.cells z 9))) (Array.ext (by simp) λi h1 h2=> ?_)
  simp[Nat.mod_one]
 ·simp[execOp,hop,hx,hy,Instr.makeSlice,run_underlying hu,wl,n2,askRoom,hroom',newRow,hb,go_sem]
theorem Dh(hop:o.op= .alloc 125):Mk Tryd.prog ev o w #[.int .u64 0, .int .u32 0] 125:=by
 have e:execOp ev o=(do pure (.value (←Instr.alloc 125 true (.tuple #[])))):=by simp only[execOp,hop]
 unfold Mk
 rw[e]
 constructor<;>kernel_rfl
end
section
variable{N:dP}{Wg C n:Nat}{val:Nat->Value}{RO:Nat->Prop}{PL:Program}{wE:World}{c:Frame}{cs:List Frame}
theorem GO(D:oO N n val PL)(h0:xq N Wg C n RO wE):∀r,r<=8->∀(a:Act) (w0:World),aM (GL N Wg (8- r)) 20 [] a->Sn (eJ Tryd.prog 125 Wg C n val RO) wE w0->
 Ik (eJ Tryd.prog 125 Wg C n val RO) (JZ (eJ Tryd.prog 125 Wg C n val RO) (An (eJ Tryd.prog 125 Wg C n val RO) Tryd.f68 68 N wE (c::cs)) r) 300 Vn ((base 68).atR a [.code (fY Tryd.f68), .inLoop (fY Tryd.f68), .inBlock 0, .code (jg Tryd.f68)]) (c::cs) w0
 |0,_,a,w0,hF,hSn=>JR h0 hF hSn
 |r+1,hr,a,w0,hF,hSn=>by
  refine JQ D h0 (j:=8-(r+1)) (by omega) hF hSn λa w hF hS=> ?_
  refine Jt (k:=307) (Ik.now ?_)
  refine Ik.plain rfl (Ik.plain rfl (Ik.region (L:=[0,1]) rfl ?_))
  refine Ik.op hF 17 (.binOp .add 3 (.tmp 12) (.const (.int .i64 1)) 3) (.int .i64 (8- r:Nat)) (by decide) (by kernel_rfl) (by simp) (λo ho w _=> ?_) λa hF=> ?_
  ·have hy:=lc (ev:=a.eval) (w:=w) (m:=(8-(r+1):Nat)) (n:=1) ho (hF.get (d:=12) rfl) rfl (by omega)
   rw[show(((8-(r+1):Nat):Int)+1)=((8- r:Nat):Int)from by omega]at hy
   exact bK hy
  refine Ik.op hF 12 (.move (.tmp 17)) (.int .i64 (8- r:Nat)) (by decide) (by kernel_rfl) (by simp) (λo ho w _=> ?_) λa hF=> ?_
  ·have hy:=bz (ev:=a.eval) (w:=w) Tryd.prog (.inl ho)
   rw[hF.get (d:=17) rfl]at hy
   exact bK hy
  exact Ik.plain rfl (Ik.plain rfl (GO D h0 r (by omega) a w (hF.sub (ux rfl rfl rfl rfl rfl)) hS))
theorem F7(D:oO N n val PL)(h0:xq N Wg C n RO wE){a:Act}(hF:aM [(6, .pt Wg),(2, .pt N.bs),(3, .pt N.bg),(5, .pt N.be)] 20 [] a)(hl:WgLive 125 Wg wE):
 ju (eJ Tryd.prog 125 Wg C n val RO) (An (eJ Tryd.prog 125 Wg C n val RO) Tryd.f68 68 N wE (c::cs)) 8 8 Vn
  (hU ((base 68).atR a (.inRegion (ae Tryd.f68 2) []::[.code (.seq (.seq (.region 3 (ae Tryd.f68 3) false) (.block 0 (.loop (fY Tryd.f68)))) (jg Tryd.f68))])) (c::cs)) wE:=by
 refine Jt (k:=308) (Ik.now ?_)
 refine Ik.plain rfl (Ik.plain rfl (Ik.plain rfl (Ik.region (L:=[0]) rfl ?_)))
 refine Ik.op hF 12 (.move (.const (.int .i64 0))) (.int .i64 0) (by decide) (by kernel_rfl) (by simp) (λo ho w _=>bK (bz (ev:=a.eval) (w:=w) Tryd.prog (.inl ho))) λa hF=> ?_
 exact Ik.plain rfl (Ik.plain rfl (Ik.plain rfl (GO D h0 8 (Nat.le_refl _) a wE (hF.sub (ux rfl rfl rfl rfl rfl)) ⟨hl,di.refl _ _⟩)))
end
theorem lA(V:Nat->Prop)(w:World)(o:Obj):bp V w (w.alloc o)=λb=>V b\/b=w.heap.size:=by
 funext b
 apply propext
 unfold bp
 rw[ak]
 exact⟨λh=>h.imp id λh=>by omega,λh=>h.imp id λh=>by omega⟩
theorem di.alloc{R:Nat->Prop}{wK w:World}(h:di R wK w)(hl:∀b,R b->b<wK.heap.size)(o:Obj):di R wK (w.alloc o):=
 ⟨λb hb=>(bH _ _ (Nat.lt_of_lt_of_le (hl b hb) h.size)).trans (h.keep b hb),by rw[ak];have:=h.size;omega,h.os,h.output,h.tape⟩
theorem di.set{R:Nat->Prop}{wK w:World}(h:di R wK w){a:Addr}(ha:¬R a.block)(v:Value):di R wK (w.setCell a v):=
 ⟨λb hb=>(bV w v (λe=>ha (e▸hb))).trans (h.keep b hb),by simpa[World.setCell]using h.size,h.os,h.output,h.tape⟩
theorem di.rely{X:ap}{V:Nat->Prop}{wK w w₁:World}(h:di X.RO wK w)(r:aR X V w w₁):di X.RO wK w₁:=h.trans (r.own.mono λ_ hb=> .inr hb)
section
variable{s:cq}{ex:Array Value}{ga:Addr}{glen gcap n ty:Nat}{val:Nat->Value}{RO:Nat->Prop}{wK:World}{c:Frame}{cs:List Frame}
structure At2 (s:cq) (ex:Array Value) (ga:Addr) (glen gcap n:Nat) (RO:Nat->Prop) (wK:World) (f:Func) (g0:FuncId) (cs:List Frame) (V:Nat->Prop) (g:Goroutine) (w:World) (a:Act) (bs bg C be:Nat):Prop where
 here:g=hU ((base g0).atR a (.inRegion (ae f 2) [0]::[.code (.seq (.seq (.region 3 (ae f 3) false) (.block 0 (.loop (fY f)))) (jg f))])) cs
 has:aM [(2, .pt bs),(3, .pt bg),(5, .pt be)] 20 [] a
 sig:w.heap[bs]?=some (.cells (s.cells++ex) 82)
 gone:w.heap[bg]?=some (.cells #[.slice (some ga) glen gcap] 22)
 list:w.heap[C]?=some (.cells (Array.replicate n (.string ⟨#[]⟩)) 9)
 ends:w.heap[be]?=some (.cells #[.slice (some ⟨C,0,none⟩) n n] 70)
 own:∀b,V b↔b=bs\/b=bg\/b=C\/b=be
 order:wK.heap.size<=bs/\bs<bg/\bg<C/\C<be/\be<w.heap.size
 kept:di RO wK w
theorem JI(hn0:0<n)(hn:n<=65536)(hcount:s.count=n)(hl:∀b,RO b->b<wK.heap.size){a:Act}(hF:aM [(0, .agg (s.cells++ex)),(1, .slice (some ga) glen gcap)] 20 [] a):
 Ik (eJ Tryd.prog ty 0 0 n val RO) (λV g w=>∃a bs bg C be,At2 s ex ga glen gcap n RO wK Tryd.f68 68 (c::cs) V g w a bs bg C be) 30 Vn
  ((base 68).atR a [.code (.seq (.region 0 (ae Tryd.f68 0) false) (.seq (.region 1 (ae Tryd.f68 1) false) (.seq (.region 2 (ae Tryd.f68 2) false)
    (.seq (.seq (.region 3 (ae Tryd.f68 3) false) (.block 0 (.loop (fY Tryd.f68)))) (jg Tryd.f68)))))]) (c::cs) wK:=by
 refine Ik.plain rfl (Ik.region (L:=[0,1,2]) rfl ?_)
 refine Ik.mk hF 2 (.box 82 (.tmp 0)) (λw=> .pointer (some ⟨w.heap.size,0,none⟩)) (λ_=> .cells (s.cells++ex) 82) (by decide) (by kernel_rfl) (by simp) (λo ho w _=> ?_) λa w1 r1 hF=> ?_
 ·have:=lx (ev:=a.eval) (w:=w) Tryd.prog ho
  rw[hF.get (d:=0) rfl]at this
  exact⟨this.1,λe he=>by rw[this.2]at he;simp at he⟩
 have k1:=(di.rely (di.refl RO wK) r1).alloc hl (.cells (s.cells++ex) 82)
 rw[tm]
 have s1:wK.heap.size<=w1.heap.size:=r1.own.size
 have f1:=aC w1 (.cells (s.cells++ex) 82)
 have z1:=ak w1 (.cells (s.cells++ex) 82)
 revert k1 f1 z1
 generalize w1.alloc (.cells (s.cells++ex) 82)=u1
 generalize w1.heap.size=bs at s1 hF⊢
 intro k1 f1 z1
 clear r1
 refine Ik.mk hF 3 (.box 22 (.tmp 1)) (λw=> .pointer (some ⟨w.heap.size,0,none⟩)) (λ_=> .cells #[.slice (some ga) glen gcap] 22) (by decide) (by kernel_rfl) (by simp) (λo ho w _=> ?_) λa w2 r2 hF=> ?_
 ·have:=lx (ev:=a.eval) (w:=w) Tryd.prog ho
  rw[hF.get (d:=1) rfl]at this
  exact⟨this.1,λe he=>by rw[this.2]at he;simp at he⟩
 have k2:=(di.rely k1 r2).alloc hl (.cells #[.slice (some ga) glen gcap] 22)
 rw[lA]
 have s2:bs<w2.heap.size:=by have:=r2.own.size;omega
 have f2:(w2.alloc (.cells #[.slice (some ga) glen gcap] 22)).heap[bs]?=some (.cells (s.cells++ex) 82):=(bH _ _ s2).trans ((r2.own.keep bs (.inl rfl)).trans f1)
 have g2:=aC w2 (.cells #[.slice (some ga) glen gcap] 22)
 have z2:=ak w2 (.cells #[.slice (some ga) glen gcap] 22)
 revert k2 f2 g2 z2
 generalize w2.alloc (.cells #[.slice (some ga) glen gcap] 22)=u2
 generalize w2.heap.size=bg at s2 hF⊢
 intro k2 f2 g2 z2
 clear r2 k1 f1 z1
 refine Ik.op hF 4 (.assign (.const (.slice none 0 0))) (.slice none 0 0) (by decide) (by kernel_rfl) (by simp) (λo ho w _=>bK (bz (ev:=a.eval) (w:=w) Tryd.prog (.inr ho))) λa hF=> ?_
 refine Ik.plain rfl (Ik.plain rfl (Ik.region (L:=[0,1,2,3,4,5]) rfl ?_))
 refine Ik.op hF 8 (.fieldAddr 82 (.tmp 2) 0) (.pointer (some ⟨bs,0,none⟩)) (by decide) (by kernel_rfl) (by simp) (λo ho w _=>bK (Lr ho (hF.get (d:=2) rfl))) λa hF=> ?_
 refine Ik.op hF 9 (.fieldAddr 78 (.tmp 8) 6) (.pointer (some ⟨bs,6,none⟩)) (by decide) (by kernel_rfl) (by simp) (λo ho w _=>bK (vd ho (hF.get (d:=8) rfl))) λa hF=> ?_
 refine Ik.op hF 10 (.load 3 (.tmp 9)) (.int .i64 n) (by decide) (by kernel_rfl) (by simp) (λo ho w r=>pE (.inl (.inl rfl)) (ay aQ ho (hF.get (d:=9) rfl) (by rw[am ((r.own.keep bs (.inl (.inl rfl))).trans f2),←hcount,Array.getElem?_append_left (show 6<s.cells.size by simp[cq.cells])];rfl))) λa hF=> ?_
 refine Ik.mk hF 11 (.makeSlice 70 (.tmp 10) (.tmp 10)) (λw=> .slice (some ⟨w.heap.size,0,none⟩) n n) (λ_=> .cells (Array.replicate n (.string ⟨#[]⟩)) 9) (by decide) (by kernel_rfl) (by simp) (λo ho w _=> ?_) λa w3 r3 hF=> ?_
 ·have:=y9 (ev:=a.eval) (w:=w) hn0 hn ho (hF.get (d:=10) rfl) (hF.get (d:=10) rfl)
  exact⟨this.1,λe he=>by rw[this.2]at he;simp at he⟩
 have k3:=(di.rely k2 r3).alloc hl (.cells (Array.replicate n (.string ⟨#[]⟩)) 9)
 rw[lA]
 have s3:bg<w3.heap.size:=by have:=r3.own.size;omega
 have f3:(w3.alloc (.cells (Array.replicate n (.string ⟨#[]⟩)) 9)).heap[bs]?=some (.cells (s.cells++ex) 82):=(bH _ _ (by omega)).trans ((r3.own.keep bs (.inl (.inl rfl))).trans f2)
 have g3:(w3.alloc (.cells (Array.replicate n (.string ⟨#[]⟩)) 9)).heap[bg]?=some (.cells #[.slice (some ga) glen gcap] 22):=(bH _ _ s3).trans ((r3.own.keep bg (.inl (.inr rfl))).trans g2)
 have l3:=aC w3 (.cells (Array.replicate n (.string ⟨#[]⟩)) 9)
 have z3:=ak w3 (.cells (Array.replicate n (.string ⟨#[]⟩)) 9)
 revert k3 f3 g3 l3 z3
 generalize w3.alloc (.cells (Array.replicate n (.string ⟨#[]⟩)) 9)=u3
 generalize w3.heap.size=C at s3 hF⊢
 intro k3 f3 g3 l3 z3
 clear r3 k2 f2 g2 z2
 refine Ik.mk hF 5 (.alloc 70) (λw=> .pointer (some ⟨w.heap.size,0,none⟩)) (λ_=> .cells #[.slice none 0 0] 70) (by decide) (by kernel_rfl) (by simp) (λo ho w _=>⟨(jO ho).1,λe he=>by rw[(jO ho).2]at he;simp at he⟩) λa w4 r4 hF=> ?_
 have k4:=(di.rely k3 r4).alloc hl (.cells #[.slice none 0 0] 70)
 rw[lA]
 have s4:C<w4.heap.size:=by have:=r4.own.size;omega
 have f4:(w4.alloc (.cells #[.slice none 0 0] 70)).heap[bs]?=some (.cells (s.cells++ex) 82):=(bH _ _ (by omega)).trans ((r4.own.keep bs (.inl (.inl (.inl rfl)))).trans f3)
 have g4:(w4.alloc (.cells #[.slice none 0 0] 70)).heap[bg]?=some (.cells #[.slice (some ga) glen gcap] 22):=(bH _ _ (by omega)).trans ((r4.own.keep bg (.inl (.inl (.inr rfl)))).trans g3)
 have l4:(w4.alloc (.cells #[.slice none 0 0] 70)).heap[C]?=some (.cells (Array.replicate n (.string ⟨#[]⟩)) 9):=(bH _ _ s4).trans ((r4.own.keep C (.inl (.inr rfl))).trans l3)
 have e4:=aC w4 (.cells #[.slice none 0 0] 70)
 have z4:=ak w4 (.cells #[.slice none 0 0] 70)
 revert k4 f4 g4 l4 e4 z4
 generalize w4.alloc (.cells #[.slice none 0 0] 70)=u4
 generalize w4.heap.size=be at s4 hF⊢
 intro k4 f4 g4 l4 e4 z4
 clear r4 k3 f3 g3 l3 z3
 cases ho:(ae Tryd.f68 1)[5]? with
 |none=>exact absurd ho (by simp;decide)
 |some o=>
 obtain⟨e1,e2,e3⟩:=aJ (d:=none) (p:= .store 70 (.tmp 5) (.tmp 11)) ho (by kernel_rfl)
 refine Ik.makes ho (e3 _) (by rw[e2];simp) λw5 r5=> ?_
 have e5:w5.heap[be]?=some (.cells #[.slice none 0 0] 70):=(r5.own.keep be (.inl (.inr rfl))).trans e4
 have hst:=eX (w:=w5) (b:=be) (k:=0) (v:= .slice (some ⟨C,0,none⟩) n n) (v0:= .slice none 0 0) rfl rfl (by kernel_rfl) e2 (hF.get (d:=5) rfl) (hF.get (d:=11) rfl) (by rw[am e5];rfl) (by unfold World.frozen?;rw[show w5.heap[(⟨be,0,none⟩:Addr).block]?=_ from e5];simp)
 refine⟨_,hst.1, ?_, ?_⟩
 ·rw[hst.2]
  exact zt (a:=⟨be,0,none⟩) (.inr rfl) _
 rw[tl,e1]
 have z5:be<w5.heap.size:=(gA e5).1
 have hRb:¬RO be:=λh=>by have:=hl be h;omega
 have k5:=(di.rely k4 r5).set (a:=⟨be,0,none⟩) hRb (.slice (some ⟨C,0,none⟩) n n)
 have f5:=(bV w5 (a:=⟨be,0,none⟩) (b:=bs) (.slice (some ⟨C,0,none⟩) n n) (show bs≠be from by omega)).trans ((r5.own.keep bs (.inl (.inl (.inl (.inl rfl))))).trans f4)
 have g5:=(bV w5 (a:=⟨be,0,none⟩) (b:=bg) (.slice (some ⟨C,0,none⟩) n n) (show bg≠be from by omega)).trans ((r5.own.keep bg (.inl (.inl (.inl (.inr rfl))))).trans g4)
 have l5:=(bV w5 (a:=⟨be,0,none⟩) (b:=C) (.slice (some ⟨C,0,none⟩) n n) (show C≠be from by omega)).trans ((r5.own.keep C (.inl (.inl (.inr rfl)))).trans l4)
 have h5:=kg (v:= .slice (some ⟨C,0,none⟩) n n) e5
 have z6:be<(w5.setCell ⟨be,0,none⟩ (.slice (some ⟨C,0,none⟩) n n)).heap.size:=by simpa[World.setCell]using z5
 refine Ik.plain rfl (Ik.plain rfl (Ik.region (L:=[0]) rfl (Ik.stop λw6 r6=>⟨a.put none undef,bs,bg,C,be, ?_⟩)))
 exact
  {here:=rfl
   has:=hF.sub λd v hd=>by
    by_cases q2:d=2
    ·subst q2;exact hd
    by_cases q3:d=3
    ·subst q3;exact hd
    by_cases q5:d=5
    ·subst q5;exact hd
    simp[List.lookup,show(d==2)=false from by simpa using q2,show(d==3)=false from by simpa using q3,show(d==5)=false from by simpa using q5]at hd
   sig:=(r6.own.keep bs (.inl (.inl (.inl (.inl rfl))))).trans f5
   gone:=(r6.own.keep bg (.inl (.inl (.inl (.inr rfl))))).trans g5
   list:=(r6.own.keep C (.inl (.inl (.inr rfl)))).trans l5
   ends:=(r6.own.keep be (.inl (.inr rfl))).trans h5
   own:=λb=>⟨λh=>by rcases h with((h|h)|h)|h<;>simp[h],λh=>by rcases h with h|h|h|h<;>simp[h]⟩
   order:=⟨s1,s2,s3,s4,Nat.lt_of_lt_of_le z6 r6.own.size⟩
   kept:=di.rely k5 r6}
end
end Go.Proofs.YtkmoglhgkcnalaaDoor
namespace Go.Proofs.YtkmoglhgkcnalaaDoor
open Go Go.Conc Go.RowKit
open Go.ConcN (WgLive sumTo upd CT WD CTag AllQuit)
open Go.ConcR (DC0 WgAt)
theorem oO.re{N:dP}{n:Nat}{val:Nat->Value}{PL:Program}(D:oO N n val PL)(bs bg be:Nat):oO {N with bs:=bs,bg:=bg,be:=be} n val PL:=
 ⟨D.env,D.same,D.here,D.calm,D.low,D.tree,D.plain,D.glen,D.count,D.small,D.links⟩
section
variable{N:dP}{n:Nat}{val:Nat->Value}{PL:Program}{wK:World}{c:Frame}{cs:List Frame}{S:Nat->Prop}{Post:Value->World->Prop}
def KW(n:Nat)(val:Nat->Value)(S:Nat->Prop)(wK:World)(P:Program)(c:Frame)(cs:List Frame)(gs:Array Goroutine)(w:World)(t:Trace)(q:Nat->Nat)(Wg C:Nat):Prop:=
 gs[0]?=some (hU (c.finish (.slice (some ⟨C,0,none⟩) n n)) cs)/\di (λb=>b<wK.heap.size/\¬S b) wK w/\w.heap[C]?=some (.cells (Array.ofFn λi:Fin n=>val i) 9)/\wK.heap.size<=C/\wK.heap.size<=Wg/\Wg<w.heap.size/\Wg≠C/\
  Past (eh λb=>S b\/b=Wg) w.heap.size t/\Quiet (eh λb=>S b\/b=Wg) t/\(∀op∈t,op.g<gs.size)/\Leavers P t gs q
theorem Fv(D:oO N n val PL)(hn0:0<n)(hga:∀b,N.gr b->b<wK.heap.size/\¬S b)(hz:0<wK.heap.size/\¬S 0)(hdig:Jb N n wK)(htab:ib N.wL wK)(hG:N.G<=wK.heap.size)(hzero:∃v0,wK.cell? ⟨0,0,none⟩=some v0)
 {a:Act} (hF:aM [(0, .agg (N.s.cells++N.ex)),(1, .slice (some N.ga) N.glen N.gcap)] 20 [] a) {gs:Array Goroutine} {sl:Option (Nat×Nat)} {t:Trace} {q:Nat->Nat} {code:Code} (hcode:Tryd.f68.body=some code)
 (hB:nc Tryd.prog S Vn (λb=>b<wK.heap.size/\¬S b) gs wK t q (hU ((base 68).atR a [.code code]) (c::cs)))
 (hfin:∀gs w sl t q Wg C,KW n val S wK Tryd.prog c cs gs w t q Wg C->cZ Tryd.prog Post (crowd gs w sl) t):cZ Tryd.prog Post (crowd gs wK sl) t:=by
 rw[Is]at hcode
 cases hcode
 have hpre:=JI (ty:=125) (val:=val) (c:=c) (cs:=cs) (RO:=λb=>b<wK.heap.size/\¬S b) hn0 D.small D.count (λb hb=>hb.1) hF
 refine Bc (X:=eJ Tryd.prog 125 0 0 n val λb=>b<wK.heap.size/\¬S b) (λV g w ⟨a,bs,bg,C,be,h⟩=>by rw[h.here]) ?_ 30 Vn gs wK sl t q _ hB hpre.now
 intro V gs w sl t q a hB hA
 obtain⟨act,bs,bg,C,be,h2⟩:=hA w (aR.refl _ _ _)
 have hae:=h2.here
 subst hae
 obtain⟨o1,o2,o3,o4,o5⟩:=h2.order
 have hw':=ak w (.cells #[.int .u64 0, .int .u32 0] 125)
 have hwat:=aC w (.cells #[.int .u64 0, .int .u32 0] 125)
 have hkp:=h2.kept.alloc (λb hb=>hb.1) (.cells #[.int .u64 0, .int .u32 0] 125)
 have hszK:=h2.kept.size
 have keep4:∀b,b<w.heap.size->(w.alloc (.cells #[.int .u64 0, .int .u32 0] 125)).heap[b]?=w.heap[b]?:=λb hb=>bH _ _ hb
 have h0:xq {N with bs:=bs,bg:=bg,be:=be} w.heap.size C n (λb=>(b<wK.heap.size/\¬S b)\/b=bs\/b=bg\/b=be) (w.alloc (.cells #[.int .u64 0, .int .u32 0] 125)):=
  {pap:=
    {sig:=(keep4 bs (by omega)).trans h2.sig
     gone:=(keep4 bg (by omega)).trans h2.gone
     ends:=(keep4 be (by omega)).trans h2.ends
     digs:=λw2 h2=>hdig w2 λb hb=>(h2 b hb).trans (hkp.keep b (hga b hb))
     tab:=by
      obtain⟨c,e,f,q1,q2,q3⟩:=htab
      exact⟨c,e,f,q1,q2,(hkp.keep 0 hz).trans q3⟩
     size:=Nat.le_trans hG hkp.size
     zero:=by
      obtain⟨v0,h0⟩:=hzero
      refine⟨v0, ?_⟩
      rw[←h0]
      unfold World.cell?
      rw[hkp.keep 0 hz]}
   ro:=⟨.inr (.inl rfl), .inr (.inr (.inl rfl)), .inr (.inr (.inr rfl)),λb hb=> .inl (hga b hb), .inl hz⟩
   low:=⟨λb hb=>by rw[hw'];rcases hb with hb|hb|hb|hb<;>omega,by rw[hw'];omega,by rw[hw'];omega⟩
   sep:=⟨λhb=>by rcases hb with hb|hb|hb|hb<;>omega,by omega,λhb=>by rcases hb with hb|hb|hb|hb<;>omega⟩}
 have hwg:WgAt 125 w.heap.size (w.alloc (.cells #[.int .u64 0, .int .u32 0] 125)) 0 0:=hwat
 cases ho:(ae Tryd.f68 2)[0]? with
 |none=>exact absurd ho (by simp;decide)
 |some o=>
 obtain⟨e1,e2,e3⟩:=aJ (d:=some 6) (p:= .alloc 125) ho (by kernel_rfl)
 have hsp:=F7 (val:=val) (c:=c) (cs:=cs) (D.re bs bg be) h0 (a:=act.put (some 6) (.pointer (some ⟨w.heap.size,0,none⟩))) ((h2.has.put (d:=6) (by decide) _)) ⟨0,0,hwg⟩
 refine xT (X:=eJ Tryd.prog 125 w.heap.size C n val λb=>(b<wK.heap.size/\¬S b)\/b=bs\/b=bg\/b=be) (S:=S) (N:=8)
  (Fin:=A6 (eJ Tryd.prog 125 w.heap.size C n val λb=>(b<wK.heap.size/\¬S b)\/b=bs\/b=bg\/b=be) (w.alloc (.cells #[.int .u64 0, .int .u32 0] 125)) c cs)
  (Anch:=An (eJ Tryd.prog 125 w.heap.size C n val λb=>(b<wK.heap.size/\¬S b)\/b=bs\/b=bg\/b=be) Tryd.f68 68 {N with bs:=bs,bg:=bg,be:=be} (w.alloc (.cells #[.int .u64 0, .int .u32 0] 125)) (c::cs))
  (V:=V) (V0:=Vn) (w':=w.alloc (.cells #[.int .u64 0, .int .u32 0] 125)) (λV g w h=>by rw[h.1]) (λV g w h=>GB _ _ _ _ _ _ _ h) (λV g w h=>BV h0 V g w h) (by decide) (by decide) ?_ ⟨hB.at0,hB.leave,hB.past,hB.quiet,hB.who,hB.low,hB.own,λb hb=>hb.elim⟩ rfl rfl ?_ (by rw[hw'];omega) ?_ hwg (.inl hz) ?_ hsp
 ·intro m gs w2 sl t D2 Nd V0 q f0 a hSt hFin
  obtain⟨hq,_,_⟩:=hSt.mode.fin_inv trivial
  obtain⟨he,hk⟩:=hFin w2 (aR.refl _ _ _)
  subst he
  have hcell:∀k,k<n->w2.cell? ⟨C,k,none⟩=some (val k):=λk hk=>hSt.crew.has (k%8) (by omega) (by have:=hq (k%8) (by omega);omega) k ⟨rfl,hk⟩
  obtain⟨cells,hl1,hl2⟩:=hSt.crew.list
  have hcells:cells=Array.ofFn λi:Fin n=>val i:=by
   apply Array.ext
   ·rw[Array.size_ofFn];exact hl2
   ·intro k h1 h3
    have hk:k<n:=by rw[Array.size_ofFn]at h3;exact h3
    have:=hcell k hk
    rw[am hl1,Array.getElem?_eq_getElem h1]at this
    rw[Option.some.inj this]
    simp
  refine hfin gs w2 sl t (leaving m D2 q) w.heap.size C ⟨hSt.at0, ?_, ?_,by omega,hszK, ?_,by omega,hSt.past,hSt.crew.ct.quiet,λop hop=> ?_,hSt.leavers⟩
  ·exact hkp.trans (hk.mono λb hb=> .inl hb)
  ·rw[←hcells];exact hl1
  ·exact hSt.crew.lies.wgl.1
  ·obtain⟨k,hk1,hk2⟩:=Array.getElem_of_mem hop
   have:=hSt.crew.ct.gs k op (by rw[Array.getElem?_eq_getElem hk1,hk2])
   rw[hSt.crew.size]
   omega
 ·intro d
  have hr:=Dh (w:=w.at d) (ev:=act.eval) e2
  have hst:=stepG_value (P:=Tryd.prog) (main:=true) (b:=base 68) (a:=act) (k:=[.code (.seq (.seq (.region 3 (ae Tryd.f68 3) false) (.block 0 (.loop (fY Tryd.f68)))) (jg Tryd.f68))]) (cs:=c::cs) (rest:=[]) ho (e3 _) (by simp[base]) hr.1
  unfold listed at hst
  rw[hr.2,seen_none,e1]at hst
  exact hst
 ·refine⟨λi i' k h1 h3=>h1.1.symm.trans h3.1,by show w.heap.size≠C;omega,⟨by rw[hw'];show w.heap.size<_;omega,by rw[hw'];show C<_;omega⟩,λb hb=>⟨h0.low.1 b hb,λe=>h0.sep.2.2 (by have e:b=w.heap.size:=e;rw[←e];exact hb),λe=>h0.sep.1 (by have e:b=C:=e;rw[←e];exact hb)⟩,λb hb=> ?_,λb hb=>hb.elim,λi hi=>absurd hi (Nat.not_lt_zero i),λi i' hi=>absurd hi (Nat.not_lt_zero i)⟩
  have hlow:=hB.low b hb
  have hnew:∀x,x=bs\/x=bg\/x=C\/x=be->¬S x:=λx hx=>(hB.own x ((h2.own x).2 hx)).2
  refine⟨by rw[hw'];omega,λhr=> ?_,λe=> ?_⟩
  ·rcases hr with hr|hr|hr|hr
   ·exact hr.2 hb
   ·exact hnew b (.inl hr) hb
   ·exact hnew b (.inr (.inl hr)) hb
   ·exact hnew b (.inr (.inr (.inr hr))) hb
  ·exact hnew b (.inr (.inr (.inl e))) hb
 ·exact⟨_,(keep4 C (by omega)).trans h2.list,by simp⟩
end
end Go.Proofs.YtkmoglhgkcnalaaDoor
namespace Go.Proofs.YtkmoglhgkcnalaaDoor
open Go Go.Conc Go.RowKit
theorem wF{PL:Program}{g:Goroutine}{w w1:World}{f:FuncId}{args:Array Value}{csL:List Frame}{es:Array Event}(hg:fa g)(ok:fJ g.frame)(he:gG PL g.frame w f args w1)(h:stepG PL true g w= .go (ba PL f args csL) w1 es):∃c cs,csL=c::cs:=by
 obtain⟨fr,cs,st,dy,off⟩:=g
 obtain⟨h1,h2,h3⟩:=hg
 simp only at h1 h2 h3 ok he
 subst h1 h3
 obtain⟨hm,he⟩:=he
 have hL:stepG PL true {frame:=fr,callers:=cs,status:= .running,dying:=none,offers:=off} w=stepG.exec PL true true fr cs none w:=by
  unfold stepG
  simp only[hm]
 rw[hL]at h
 rcases he with⟨ops,n,rest,k,o,ht,ho,hw,hop,hcalm,hrun⟩|⟨x,ps,a,b,k,l,mark,w0,ht,hloop,hrun⟩
 ·obtain⟨es1,e1⟩:=mY cs ok hrun
  rw[io ht ho hw hop,e1]at h
  have e2:ba PL f args (fr::cs)=ba PL f args csL:=by injection h
  exact⟨fr,cs,(congrArg Goroutine.callers e2).symm⟩
 ·cases hlt:(Instr.enterLoop fr.fn fr.tmps ps a b fr.roundOf).runT PL w #[]with
  |mk r esl=>
   have:=Sem.runT_fst PL (Instr.enterLoop fr.fn fr.tmps ps a b fr.roundOf) w #[]
   rw[hlt,hloop]at this
   have hr1:r= .ok (l,mark) w0:=this
   rw[hr1]at hlt
   rw[eu ht hlt]at h
   cases hr:(bM (aS fr k l mark) x l).runT PL w0 #[]with
   |mk r2 es2=>
    have:=Sem.runT_fst PL (bM (aS fr k l mark) x l) w0 #[]
    rw[hr,hrun]at this
    have hr2:r2= .ok (.enter f args) w1:=this
    rw[hr2]at hr
    have hc:dE (aS fr k l mark):=λd w r s k e=>by cases e
    rw[cH (cs:=cs) hc hr rfl]at h
    have e2:ba PL f args (aS fr k l mark::cs)=ba PL f args csL:=by
     simp only[GStep.after]at h
     injection h
    exact⟨aS fr k l mark,cs,(congrArg Goroutine.callers e2).symm⟩
theorem rk{PL PM:Program}{G T:Nat}{D:Nat->Prop}{ρ:Nat->Nat}{wL wM:World}{base:List Frame}(hW:ci G T D ρ wL wM)(hG:dN<G){f:FuncId}(hF:∃fn fn',PL.funcs[f]?=some fn/\PM.funcs[f]?=some fn'/\fn.ntmps=fn'.ntmps/\fn.body=fn'.body/\∃c,fn.body=some c/\eM (f==aV) c=true){args args':Array Value}{csL csM:List Frame}
 (ha:∀ρ2,aw G D ρ ρ2->args'=args.map (aa ρ2)) (hcs:∀ρ2,aw G D ρ ρ2->csM=csL.map (aT ρ2)++base) (oks:∀c∈csL,fJ c/\bE c):eL G D ρ base (ba PL f args csL) (ba PM f args' csM):=by
 obtain⟨fn,fn',q1,q2,q3,q4,c,q5,q6⟩:=hF
 have htab:∀v∈args,jQ v=false:=λv hv=>hW.noTab hG λρ2 h2=>rc ((ha ρ2 h2).symm.trans (ha ρ hW.self)) hv
 refine⟨λρ2 h2=> ?_,hcs, ?_,oks,rfl,rfl,rfl,rfl⟩
 ·show Frame.enter PM f args' .normal=aT ρ2 (Frame.enter PL f args .normal)
  rw[ha ρ2 h2]
  exact Lq ⟨fn,fn',q1,q2,q3,q4⟩ args htab
 ·refine⟨?_,rfl, .inl rfl,rfl,λ_=>rfl⟩
  simp only[ba,Frame.enter,q1,Option.bind_some,q5,Option.getD_some,List.all_cons,List.all_nil,Bool.and_true]
  exact q6
section
variable{a:Addr}{w w':World}{u:Value}
theorem yo(h:(Instr.loadAt 3 (.pointer (some a))).run Tryd.prog w= .ok u w'):w'=w:=by
 have h1:(isAgg 3).run Tryd.prog w= .ok false w:=by kernel_rfl
 simp only[Instr.loadAt,Instr.sureAddr,loadVar,pure_bind,Sem.run_bind,h1,Result.andThen_ok]at h
 simp only[Bool.false_eq_true,↓reduceIte]at h
 unfold load at h
 rw[Sem.run]at h
 split at h
 ·cases h
  rfl
 ·split at h
  ·cases h
   rfl
  ·cases h
theorem wh:∀e∈(Instr.loadAt 3 (.pointer (some a))).events Tryd.prog w #[],∃x:Addr,e=⟨.cell x,false,false⟩:=by
 have hs:(Instr.loadAt 3 (.pointer (some a))).runT Tryd.prog w #[]=(load a:Sem Value).runT Tryd.prog w #[]:=by
  obtain⟨d,hd,hd1,hd2⟩:∃d,Tryd.prog.underlying 3=some d/\(∀fs,d≠ .struct fs)/\∀n e,d≠ .array n e:=⟨.int .i64,by kernel_rfl,by simp,by simp⟩
  unfold Instr.loadAt loadVar isAgg underlying Instr.sureAddr
  simp[hd,go_sem]
 intro e he
 have hev:(Instr.loadAt 3 (.pointer (some a))).events Tryd.prog w #[]=((load a:Sem Value).runT Tryd.prog w #[]).2:=congrArg Prod.snd hs
 rw[hev]at he
 have he2:=he
 unfold load at he2
 rw[Sem.runT]at he2
 split at he2
 ·have h2:e=⟨.cell a,false,Mode.plain==Mode.atomic⟩:=by simpa[Sem.runT]using he2
  exact⟨a,h2⟩
 ·split at he2
  ·simp[Sem.runT]at he2
   obtain⟨x,_,rfl⟩:=he2
   exact⟨x,rfl⟩
  ·simp at he2
end
theorem yH{D:Nat->Prop}{ρ:Nat->Nat}{w1 wM:World}{T:Nat}(hW:ci 2 T D ρ w1 wM){ga:Addr}(hga:∀ρ2,aw 2 D ρ ρ2->au ρ2 ga=au ρ ga){s:cq}{ex:Array Value}{glen gcap n:Nat}{dig:Nat->Int}
 (hd:∀i,i<n->∃wc,Below w1.heap.size w1 wc/\(Instr.loadAt 3 (.pointer (some (ga.add i)))).run (ac true Tryd.prog) wc= .ok (.int .i64 (dig i)) wc):
 Jb {s:=s,ex:=ex,bs:=0,bg:=0,be:=0,ga:=au ρ ga,glen:=glen,gcap:=gcap,dig:=dig,gr:=λr=>r<2\/∃b,D b/\ρ b=r,wL:=w1,G:=2} n wM:=by
 intro w' hw' i hi
 obtain⟨wc,hb,hr⟩:=hd i hi
 have h1M:1<wM.heap.size:=by have:=hW.far;omega
 have h1:1<w'.heap.size:=by
  have e:=hw' 1 (.inl (by decide))
  rw[Array.getElem?_eq_getElem h1M]at e
  exact bY e
 have hW2:ci 2 wc.drawn D ρ wc w':=by
  refine⟨hW.inj,λb hbD=> ?_,λj hj=>by omega,hW.glob,⟨Nat.le_refl 2,Nat.le_trans hW.far.2.1 hb.size,h1⟩,hW.out⟩
  obtain⟨o,q1,q2,q3⟩:=hW.obj b hbD
  refine⟨o,(hb.block b (hW.ltL hbD)).trans q1,q2,λρ' hA=> ?_⟩
  rw[hw' (ρ b) (.inr ⟨b,hbD,rfl⟩)]
  exact q3 ρ' hA
 have hadd:∀ρ2,aw 2 D ρ ρ2->aa ρ2 (.pointer (some (ga.add i)))= .pointer (some ((au ρ ga).add i)):=λρ2 h2=>by
  have e1:au ρ2 (ga.add i)=(au ρ2 ga).add i:=by
   unfold au Addr.add
   split<;>rfl
  rw[aa,Option.map_some,e1,hga ρ2 h2]
 obtain⟨D2,ρ2,r',w2,es',e1,e2,e3,e4⟩:=dS uG.load uG.store (λρ' v=>aa ρ' v) _ (Instr.loadAt 3 (.pointer (some ((au ρ ga).add i)))) D ρ wc w' hW2 (λρ2 h2=>by
  have:=fj (ρ:=ρ2) uG.same 3 (.pointer (some (ga.add i)))
  rw[hadd ρ2 h2]at this
  exact this) #[] _ wc hr rfl (Nat.le_refl _)
 cases e2 with
 | @ok _ u _ _ hu=>
   have hu':u= .int .i64 (dig i):=(hu ρ2 e3.rel.self).trans (by simp[aa])
   subst hu'
   rw[Sem.runT_eq]at e1
   have hrun:=(Prod.mk.inj e1).1
   have hev:=(Prod.mk.inj e1).2
   have hsame:=yo hrun
   subst hsame
   refine⟨hrun,λe he=> ?_⟩
   obtain⟨x,hx⟩:=wh e he
   refine⟨x,hx, ?_⟩
   rw[hev]at he
   have hin:=e4 e (by simpa using he)
   rw[hx]at hin
   obtain⟨_,b,hb2,hb3⟩:=hin
   rcases e3.new b hb2 with h|⟨_,h⟩
   ·exact .inr ⟨b,h,by rw[←hb3,(e3.ext b h).2]⟩
   ·have:=e3.rel.ltM hb2
    omega
theorem AK(ρ:Nat->Nat)(s:cq)(ex:List Value):aa ρ (.agg (s.cells++ex.toArray))= .agg (s.cells++(ex.map (aa ρ)).toArray):=by
 rw[aa]
 congr 1
 simp[cq.cells,aa]
theorem CW(ρ:Nat->Nat)(KS:List Int)(s:cq)(dig:Nat->Int)(n:Nat):dp ρ (.cells (Array.ofFn λi:Fin n=>L1.uf KS s dig i.val) 9)= .cells (Array.ofFn λi:Fin n=>L1.uf KS s dig i.val) 9:=by
 show Obj.cells (Array.map (aa ρ) (Array.ofFn λi:Fin n=>L1.uf KS s dig i.val)) 9 _=_
 congr 1
 apply Array.ext
 ·simp
 ·intro i h1 h2
  simp[L1.uf,aa]
theorem F8{args:Array Value}{N:Nat}{v0 v1:Value}(h0:args[0]?=some v0)(h1:args[1]?=some v1):aM [(0,v0),(1,v1)] N [] ⟨args++Array.replicate (N- args.size) undef,[]⟩:=by
 refine⟨rfl,by simp;omega,λd v hd=> ?_⟩
 have key:∀d v,args[d]?=some v->(args++Array.replicate (N- args.size) undef)[d]?=some v:=λd v h=>by
  rw[Array.getElem?_append_left (gA h).1]
  exact h
 by_cases e0:d=0
 ·subst e0
  have:some v0=some v:=hd
  rw[←this]
  exact key 0 v0 h0
 by_cases e1:d=1
 ·subst e1
  have:some v1=some v:=hd
  rw[←this]
  exact key 1 v1 h1
 simp[List.lookup,show(d==0)=false from by simpa using e0,show(d==1)=false from by simpa using e1]at hd
end Go.Proofs.YtkmoglhgkcnalaaDoor
