/- A part of what the last text of the claim imports: texts laid together, without remarks and blanks, by a program. -/
import Derived.Test.YtkmoglhgkcnalaaGreatDoorRows
import Derived.ProofKit
import Derived.ChangeArms
import Derived.ChangeSame
import Derived.OpenShut
import Derived.SliceStrings
import Derived.Deep.Grids
import Derived.Test.YtkmoglhgkcnalaaGreatDoorBwn4
set_option maxHeartbeats 16000000
set_option maxRecDepth 100000
set_option linter.all false
open Go.Proofs.Tryz
open Go
variable{B N b b2 b3 bh bu fb fq Rq gb hq i j kb lb ln m n pb qk qw r tb tq wb:Nat}{F fx:List (Nat×Value)}{Goal:Goroutine->World->Prop}{K k':List Item}{KS ms ns:List Int}{L Xn kp seed sig:ByteArray}{P:Program}{R:Value->World->Prop}{X:Nat->Prop}{a:Act}{ad:Addr}{args cur:Array Value}{c qi rs sl:Int}{cs:List Frame}{d:Tmp}{df ds:List Deferred}{ev:Operand->Value}{f:FuncId}{fl lv v:Value}{fn:Func}{fr:Frame}{gd:Option (Nat×Bool)}{ls vs xs:List Value}{ops:Array Oper}{p:Op}{rest:List Nat}{t' ty:TypeId}{w w' Rb w0 w1:World}{x:Operand}
namespace Go.Proofs.YtkmoglhgkcnalaaGreatDoor.L1
open Go Go.Conc Go.RowKit Go.Proofs.YtkmoglhgkcnalaaGreatDoor
theorem D8(KS:List Int)(QL:KS.length=64)(QX:ip KS)(cv:Array Value)(key msg sig:ByteArray)(hm:msg.size<=281474976706560)(hk:key.size<=1125899906842624)(hs:sig.size<=1125899906842624):∃c,pC KS key msg sig c/\∀w:World,iX KS cv w->Cl kX 15 #[.agg cv,.string key,.string msg,.string sig] w λe w'=>e=.returned (.int .i64 c)/\Bw w w':=by
 obtain⟨c,hc⟩:=qn KS key msg sig;exact⟨c,hc,λw h1=>(uZ QL QX key msg sig hm hk hs w h1).mono λe w' ⟨d,e1,e2,e3⟩=>⟨by rw[e1,tC e2 hc],e3⟩⟩
theorem Jr:f19.body=some (.seq (rG f19 0) (.seq (rG f19 1) (.seq (.seq (rG f19 2) (.cond (.tmp 17) (.seq (rG f19 3) .ret) .skip)) (.seq (.seq (rG f19 4) (.cond (.tmp 23) (.seq (rG f19 5) .ret) .skip)) (.seq (rD f19 6) (.seq (.seq (rG f19 7) (.cond (.tmp 31) (.seq (rG f19 8) .ret) .skip)) (.seq (rD f19 9) (.seq (.seq (rG f19 10) (.cond (.tmp 50) (.seq (rG f19 11) .ret) .skip)) (.seq (rG f19 12) .ret))))))))):=by kernel_rfl
theorem za(KS:List Int)(QL:KS.length=64)(QX:ip KS)(cv:Array Value)(s:ByteArray)(st le:Int)(vu vh:Value)(us:List Bool)(hs:List ByteArray)(w:World)(hU:cz w vu (us.map .bool))(hH:cz w vh (hs.map .string))(UM:us.length<4611686018427387904)(QY:s.size<=281474976000000)(hC:iX KS cv w):
 Cl kX 19 #[.agg cv,.string s,.agg (ei st le vu vh)] w λe w'=>∃n c,e=.returned (.tuple #[.int .i64 n,.int .i64 c])/\kT KS s le us hs n c/\Bw w w':=by
 refine cG (t:=6) (u:=7) func19 rfl λcs=>?_;refine bm (N:=54) func19 Jr λa hF=>?_;refine cW hF λw0 a b0 c3 z0 hF=>?_;refine cW hF λw1 a b1 c5 z1 hF=>?_;have c3:=(b1.block _ o_).trans c3;have b1:Bw w w1:=ab b0 b0.size b1;rw[z0]at hF c5
 iterate 3 refine a9 hF λa hF=>?_
 refine bH hF func41 ((vA s w1 QY)) λw2 b2 a hF=>?_;have B2:Bw w w2:=ab b1 b1.size b2;have z2:=b2.size;have c3:=(b2.block _ o_).trans c3;have c5:=(b2.block _ o_).trans c5
 iterate 3 refine a9 hF λa hF=>?_
 refine bl hF (λo ho=>pP ho) λw3 a b3 c6 _ hF=>?_;have c3:=(b3.block _ o_).trans c3;have c5:=(b3.block _ o_).trans c5;have hlen:=Ao s.data.toList;have Um:=Am s.data.toList;refine aM hF (λo ho=>aJ (cells:=(io s.data.toList).1.toArray) ho (hF.g 8) (hF.g 14) c6 (by rw[jf,List.size_toArray,hlen]) (by rw[List.size_toArray,List.size_toArray,hlen];rfl) (by rw[Array.all_eq_true'];intro v hv;exact Um v (by simpa using hv))) λa hF=>?_;have d6:=setRow_heap w3 w2.heap.size _ (io s.data.toList).1.toArray _ _ c6;have B4:Bw w2 (w3.setRow w2.heap.size (io s.data.toList).1.toArray):=b3.trans (aU _ _ _ (Nat.le_refl _));have d3:=(B4.block _ (by omega:w.heap.size<w2.heap.size)).trans ((b3.block _ o_).symm.trans c3);have d5:=(B4.block _ (by omega:w.heap.size+1<w2.heap.size)).trans ((b3.block _ o_).symm.trans c5);revert d6 B4 d3 d5;generalize w3.setRow w2.heap.size (io s.data.toList).1.toArray=w4;intro d6 B4 d3 d5;have B4:Bw w w4:=ab B2 B2.size B4;refine a9 hF λa hF=>?_;clear b0 b1 b2 b3 c3 c5 c6
 iterate 2 refine a9 hF λa hF=>?_
 refine Rn.plain rfl (Rn.cond _ (hF.g 17) ?_);by_cases h1:(io s.data.toList).2=0
 .rw[show((io s.data.toList).2 !=0)=false from by simpa using h1];obtain⟨v,en,sg,at_,l,k,hh,g1,g2,g3,g4,g5⟩:=yC s h1;rw[hh]at d6;have e3:((at_+l:Nat):Int)=(at_:Int)+l:=Int.natCast_add _ _;have Wj:(⟨k.toArray⟩:ByteArray).size<=56:=by show k.toArray.size<=_;rw[List.size_toArray];omega
  iterate 5 refine a9 hF λa hF=>?_
  refine Rn.plain rfl (Rn.cond _ (hF.g 23) ?_);by_cases h2:v<le
  .rw[decide_eq_true h2]
   iterate 2 refine a9 hF λa hF=>?_
   exact dW hF ⟨0,7,rfl,.inr ⟨v,en,sg,at_,l,k,hh,.inl ⟨h2,rfl,rfl⟩⟩,B4⟩
  rw[decide_eq_false h2];have hF:ay [(8,.pk w2.heap.size 0),(5,.pk (w.heap.size+1) 0),(3,.pk w.heap.size 0),(1,.string s)] 54 [] a:=hF.only ⟨rfl,rfl,rfl,rfl,trivial⟩;have l6:=(Array.getElem?_eq_some_iff.1 d6).1;have l5:=(Array.getElem?_eq_some_iff.1 d5).1;have l3:=(Array.getElem?_eq_some_iff.1 d3).1;have hX:iD KS [⟨k.toArray⟩]=⟨(de KS (⟨k.toArray⟩:ByteArray).data.toList).toArray⟩:=by simp[iD]
  refine Rn.plain rfl (Rn.plain rfl ?_);refine bY hF ?_
  iterate 4 refine Gx.q ?_
  refine Gx.k func12 (λw hb _=>hX▸j0 KS QL QX cv ⟨k.toArray⟩ w (hC.mono (ab B4 B4.size hb)) o_) ?_;refine Gx.k func42 (λw hb _=>tB _ st le vu vh us hs w (hU.below (ab B4 B4.size hb)) (hH.below (ab B4 B4.size hb)) UM) ?_;refine Gx.q ?_;refine Gx.e λa w5 hF b5 _=>?_;have B5:Bw w w5:=ab B4 B4.size b5;have d6:=(b5.block _ l6).trans d6;have d3:=(b5.block _ l3).trans d3;have l6:=(Array.getElem?_eq_some_iff.1 d6).1;have l3:=(Array.getElem?_eq_some_iff.1 d3).1
  iterate 2 refine a9 hF λa hF=>?_
  refine Rn.plain rfl (Rn.cond _ (hF.g 31) ?_);cases hv:dn us hs (iD KS [⟨k.toArray⟩])with
  |false=>
   iterate 2 refine a9 hF λa hF=>?_
   exact dW hF ⟨0,8,rfl,.inr ⟨v,en,sg,at_,l,k,hh,.inr (.inl ⟨by omega,hv,rfl,rfl⟩)⟩,B5⟩
  |true=>
   obtain⟨c,hc,Ro⟩:=D8 KS QL QX cv ⟨k.toArray⟩ (s.extract 0 sg) (s.extract at_ (at_+l)) (by rw[ByteArray.size_extract];omega) o_ (by rw[ByteArray.size_extract];omega);refine Rn.plain rfl (Rn.plain rfl ?_);refine bY hF ?_
   iterate 14 refine Gx.q ?_
   refine Gx.q ?_ (y:=λo a w ho z=>aI ho gx gx o_);refine Gx.q ?_;refine Gx.k func15 (λw hb _=>Ro w (hC.mono (ab B5 B5.size hb))) ?_;refine Gx.q ?_;refine Gx.e λa w6 hF b6 _=>?_;have B6:Bw w w6:=ab B5 B5.size b6;have d6:=(b6.block _ l6).trans d6
   iterate 2 refine a9 hF λa hF=>?_
   refine Rn.plain rfl (Rn.cond _ (hF.g 50) ?_);by_cases h3:c=0
   .rw[show(c !=0)=false from by simpa using h3]
    iterate 4 refine a9 hF λa hF=>?_
    exact dW hF ⟨en,0,rfl,.inr ⟨v,en,sg,at_,l,k,hh,.inr (.inr ⟨by omega,hv,c,hc,.inr ⟨h3,rfl,rfl⟩⟩)⟩,B6⟩
   .rw[show(c !=0)=true from by simpa using h3]
    iterate 3 refine a9 hF λa hF=>?_
    exact dW hF ⟨0,c,rfl,.inr ⟨v,en,sg,at_,l,k,hh,.inr (.inr ⟨by omega,hv,c,hc,.inl ⟨h3,rfl,rfl⟩⟩)⟩,B6⟩
 .rw[show((io s.data.toList).2 !=0)=true from by simpa using h1]
  iterate 3 refine a9 hF λa hF=>?_
  exact dW hF ⟨0,_,rfl,.inl ⟨h1,rfl,rfl⟩,B4⟩

def lj(c0 c1 fl wd kp:Value)(up:Bool)(sl:Int):Array Value:=#[c0,c1,fl,wd,kp,.bool up,.int .i64 sl]
section
variable{o:Oper}{y z:Operand}{u:TypeId}
theorem Hv(QH:o.op=.fieldAddr 107 x 0)(hx:ev x=.pk b 0):(execOp ev o).run prog w=.ok (.value (.pk b 0)) w:=by
 have e:execOp ev o=(do pure (.value (←Instr.fieldAt 107 (.pk b 0) 0))):=by simp only[execOp,QH,hx]
 have h2:(do pure (.value (←Instr.fieldAt 107 (.pk b 0) 0)):Sem Next).run prog w=.ok (.value (.pk b 0)) w:=by kernel_rfl
 rw[e,h2]
theorem Hu(QH:o.op=.fieldAddr 107 x 1)(hx:ev x=.pk b 0):(execOp ev o).run prog w=.ok (.value (.pk b 2)) w:=by
 have e:execOp ev o=(do pure (.value (←Instr.fieldAt 107 (.pk b 0) 1))):=by simp only[execOp,QH,hx]
 have h2:(do pure (.value (←Instr.fieldAt 107 (.pk b 0) 1)):Sem Next).run prog w=.ok (.value (.pk b 2)) w:=by kernel_rfl
 rw[e,h2]
theorem Ht(QH:o.op=.fieldAddr 107 x 2)(hx:ev x=.pk b 0):(execOp ev o).run prog w=.ok (.value (.pk b 3)) w:=by
 have e:execOp ev o=(do pure (.value (←Instr.fieldAt 107 (.pk b 0) 2))):=by simp only[execOp,QH,hx]
 have h2:(do pure (.value (←Instr.fieldAt 107 (.pk b 0) 2)):Sem Next).run prog w=.ok (.value (.pk b 3)) w:=by kernel_rfl
 rw[e,h2]
theorem Hs(QH:o.op=.fieldAddr 107 x 3)(hx:ev x=.pk b 0):(execOp ev o).run prog w=.ok (.value (.pk b 4)) w:=by
 have e:execOp ev o=(do pure (.value (←Instr.fieldAt 107 (.pk b 0) 3))):=by simp only[execOp,QH,hx]
 have h2:(do pure (.value (←Instr.fieldAt 107 (.pk b 0) 3)):Sem Next).run prog w=.ok (.value (.pk b 4)) w:=by kernel_rfl
 rw[e,h2]
theorem Hr(QH:o.op=.fieldAddr 107 x 4)(hx:ev x=.pk b 0):(execOp ev o).run prog w=.ok (.value (.pk b 5)) w:=by
 have e:execOp ev o=(do pure (.value (←Instr.fieldAt 107 (.pk b 0) 4))):=by simp only[execOp,QH,hx]
 have h2:(do pure (.value (←Instr.fieldAt 107 (.pk b 0) 4)):Sem Next).run prog w=.ok (.value (.pk b 5)) w:=by kernel_rfl
 rw[e,h2]
theorem Hq(QH:o.op=.fieldAddr 107 x 5)(hx:ev x=.pk b 0):(execOp ev o).run prog w=.ok (.value (.pk b 6)) w:=by
 have e:execOp ev o=(do pure (.value (←Instr.fieldAt 107 (.pk b 0) 5))):=by simp only[execOp,QH,hx]
 have h2:(do pure (.value (←Instr.fieldAt 107 (.pk b 0) 5)):Sem Next).run prog w=.ok (.value (.pk b 6)) w:=by kernel_rfl
 rw[e,h2]
theorem ub:xj prog 24:=λw=>⟨by kernel_rfl,by kernel_rfl⟩
end
theorem og{p:Prop}(h:p:=by
 first
 |exact oc
 |exact Hv ho gx
 |exact Hu ho gx
 |exact Ht ho gx
 |exact Hs ho gx
 |exact Hr ho gx
 |exact Hq ho gx
 |exact(an (by first|exact ub|exact nR|exact iQ) ho gx ((ak (by assumption) _).trans rfl)).1
 |exact i0 ho gx):p:=h
section
variable{C:iJ}{b:Frame}{k:List Item}
theorem bP(hF:ay F N ds a)(next:∀a',ay ((d,v)::F) N ds a'->Rn C Goal (b.atR a' (.inRegion ops rest::k')) cs w)(h0:eI 6 (b.atR a k)=.inRegion ops (m::rest)::k':=by rfl)
 (h:(ops[m]?).map (λo=>(o.dst,o.op,o.guard))=some (some d,p,gd):=by rfl) (hw:gV ops F gd=some true:=by rfl) (hy:∀o:Oper,o.op=p->(execOp a.eval o).run C.P w=.ok (.value v) w:=by intro o ho;exact og) (hd:d<N:=by decide) (QT:nd p=true:=by rfl) (ok:kE C.P a.eval p:=by exact nG):Rn C Goal (b.atR a k) cs w:=Rn.gr (Rn.qq hF next h hw hy hd QT ok) h0
end
section
variable{C:iJ}{W:World}{Q:Act->WP}{M:List (Nat×WP)}
theorem tx(next:Gx C ops W N n df Q (m+1) ((d,v)::F) M)(h:Is ops m d p gd:=by rfl)(hw:gV ops F gd=some true:=by rfl)(RQ:rU ops (kD ops n m) gd=true:=by kernel_rfl)(y:∀(o:Oper) (a:Act) (w:World),o.op=p->At ops W n m F M a w->(execOp a.eval o).run C.P w=.ok (.value v) w:=by intro o a w ho z;have hC:=z.b;exact og)(ok:∀(a:Act) (w:World),At ops W n m F M a w->kE C.P a.eval p:=by intro a w z;exact nG):Gx C ops W N n df Q m F M:=Gx.q next h hw RQ y ok
end
theorem IH(L:ByteArray)(k:Nat):L.extract (k*8192) (k*8192+8192)=⟨(bO L.data.toList (min (k*8192) L.size) (min (k*8192+8192) L.size)).toArray⟩:=by
 have hLl:L.data.toList.length=L.size:=by rw[Array.length_toList];rfl
 rw[dM]
 congr 2
 unfold bO;by_cases h1:L.size<=k*8192
 .rw[Nat.min_eq_right h1,List.drop_eq_nil_of_le (by rw[List.length_take];omega),List.drop_eq_nil_of_le (by rw[List.length_take];omega)]
 .rw[Nat.min_eq_left (by omega:k*8192<=L.size)];by_cases h2:L.size<=k*8192+8192
  .rw[Nat.min_eq_right h2,List.take_of_length_le o_,List.take_of_length_le o_]
  .rw[Nat.min_eq_left o_]
theorem Mp:f102.body=some (.seq (rG f102 0) (.seq (rG f102 1) (.seq (rG f102 2) (.seq (.seq (rG f102 3) (.cond (.tmp 17) (rG f102 4) .skip)) (.seq (.seq (rG f102 5) (.cond (.tmp 29) (rG f102 6) .skip)) (.seq (rG f102 7) .ret)))))):=by kernel_rfl
section
variable{rb:Nat}{c0 c1 wd kp:Value}{up:Bool}
theorem Bj(k:Nat)(hk:k<2)(hc:w.heap[rb]?=some (.cells (lj c0 c1 fl wd kp up sl) 107))(hf:kS w fl L):Cl kX 102 #[.pk rb 0,.int .i64 k] w λe w'=>e=.returned (.string (L.extract (k*8192) (k*8192+8192)))/\w'=w:=by
 obtain⟨h62,fb,cap,cells,fr,rfl,Sa,Y7,_,RS⟩:=hf;refine av (N:=43) func102 Mp λcs a hF=>?_;have hLl:L.data.toList.length=L.size:=by rw[Array.length_toList];rfl
 rw[IH]
 iterate 2 refine bP hF λa hF=>?_
 refine af hF (λo ho=>iy (m:=8192) ho rfl (hF.g 7) o_) λa hF=>?_;rw[Nat.mul_comm 8192 k]at hF
 iterate 2 refine bP hF λa hF=>?_
 refine af hF (λo ho=>aI (n:=8192) ho (hF.g 9) rfl o_) λa hF=>?_
 iterate 8 refine bP hF λa hF=>?_
 refine Rn.plain rfl (Rn.cond _ (hF.g 17) ?_);have last:∀{m n:Nat} {a:Act},m<=n->n<=L.size->ay [(0,.pk rb 0),(5,.int .i64 m),(6,.int .i64 n)] 43 [] a->Rn kX (λg w'=>∃(a:Act) (I:List Item) (v:Value),g=cQ {(base 102).atR a I with mode:=.returning} cs/\a.defers=[]/\a.tmps[4]?=some v/\(Ending.returned v=.returned (.string ⟨(bO L.data.toList m n).toArray⟩)/\w'=w)) ((base 102).atR a [.code (.seq (rG f102 7) .ret)]) cs w:=λ{m n a} hmn hn hF=>by
  iterate 6 refine bP hF λa hF=>?_
  have hl:(bO L.data.toList m n).length=n- m:=eP _ _ _ o_;by_cases hmn:m=n
  .subst hmn;have e0:bO L.data.toList m m=[]:=List.eq_nil_of_length_eq_zero o_;refine af hF (λo ho=>zX (cap:=cap) ho (hF.g 38) (hF.g 39) (hF.g 40) o_) λa hF=>?_;refine af hF (λo ho=>mA ho (hF.g 41) λj hj=>by simp at hj) λa hF=>?_;rw[e0];refine bP hF λa hF=>?_;exact aL hF ⟨rfl,rfl⟩
  .refine af hF (λo ho=>zV ho (hF.g 38) (hF.g 39) (hF.g 40) o_ o_) λa hF=>?_;rw[←hl]at hF;refine af hF (λo ho=>mA ho (hF.g 41) λj hj=>?_) λa hF=>?_
   .have e:(bO L.data.toList m n)[j]=L.data.toList[m+j]' o_:=(by simp[bO]);rw[e,show w.cell? ⟨fb,m+j,none⟩=cells[m+j]? from by simp[World.cell?,Y7]];exact RS _ o_
   refine bP hF λa hF=>?_;exact aL hF ⟨rfl,rfl⟩
 have mid:∀{m:Nat} {a:Act},m=min (k*8192) L.size->ay [(0,.pk rb 0),(5,.int .i64 m),(6,.int .i64 ((k*8192+8192:Nat):Int))] 43 [] a->Rn kX (λg w'=>∃(a:Act) (I:List Item) (v:Value),g=cQ {(base 102).atR a I with mode:=.returning} cs/\a.defers=[]/\a.tmps[4]?=some v/\(Ending.returned v=.returned (.string ⟨(bO L.data.toList m (min (k*8192+8192) L.size)).toArray⟩)/\w'=w)) ((base 102).atR a [.code (.seq (.seq (rG f102 5) (.cond (.tmp 29) (rG f102 6) .skip)) (.seq (rG f102 7) .ret))]) cs w:=λ{m a} em hF=>by
  iterate 7 refine bP hF λa hF=>?_
  refine Rn.plain rfl (Rn.cond _ (hF.g 29) ?_);by_cases h1:L.size<k*8192+8192
  .rw[decide_eq_true o_]
   iterate 6 refine bP hF λa hF=>?_
   rw[Nat.min_eq_right o_];exact Rn.plain rfl (last o_ (Nat.le_refl _) (hF.only ⟨rfl,rfl,rfl,trivial⟩))
  .rw[decide_eq_false o_,Nat.min_eq_left o_];exact Rn.plain rfl (last o_ o_ (hF.only ⟨rfl,rfl,rfl,trivial⟩))
 by_cases h1:L.size<k*8192
 .rw[decide_eq_true o_]
  iterate 6 refine bP hF λa hF=>?_
  rw[Nat.min_eq_right (by omega:L.size<=k*8192)];exact Rn.plain rfl (mid o_ (hF.only ⟨rfl,rfl,rfl,trivial⟩))
 .rw[decide_eq_false o_,Nat.min_eq_left (by omega:k*8192<=L.size)];exact Rn.plain rfl (mid o_ (hF.only ⟨rfl,rfl,rfl,trivial⟩))
end

theorem si{C:iJ}{R:Ending->World->Prop}{t u:Tmp}{d:TypeDesc}(hf:C.P.funcs[f]?=some fn)(Ru:fn.results=#[.tmp u,.cell t ty])(hu:C.P.underlying ty=some d)(hd:d.isRow=true)(hi:(C.P.info? ty).map (·.size)=some n)
 (h:∀cs,Rn C (λg w'=>∃(a:Act) (k:List Item) (bk:Nat) (cells:Array Value) (tt:TypeId) (v:Value),g=cQ {(base f).atR a k with mode:=.returning} cs/\a.defers=[]/\a.tmps[t]?=some (.pk bk 0)/\w'.heap[bk]?=some (.cells cells tt)/\cells.size=n/\a.tmps[u]?=some v/\R (.returned (.tuple #[v,.agg cells])) w') (Frame.enter C.P f args .normal) cs w):Cl C f args w R:=by
 refine eQ hf λcs L hG=>h cs L λfr cs' w' ⟨a,k,bk,cells,tt,v,e,h2,h3,h4,h5,h6,h7⟩=>hG _ _ _ ⟨a,k,.tuple #[v,.agg cells],e,h2,?_,h7⟩;have hp:a.tmps[t]?.getD undef=.pk bk 0:=by rw[h3];rfl
 have hv:a.tmps[u]?.getD undef=v:=by rw[h6];rfl
 have hr:w'.rangeAt bk 0 cells.toList:=λj x hx=>by
  rw[Nat.zero_add];have:w'.cell? ⟨bk,j,none⟩=cells[j]?:=by simp[World.cell?,h4]
  rw[this,←hx,Array.getElem?_toList]
 have hl:=run_loadVar_mid (P:=C.P) w' bk 0 ty cells.toList d hr hu hd (by rw[hi];simp[h5]);show(results fn a.tmps).run C.P w'=_;simp[results,Ru,hp,hv,asAddr,hl]
structure Wh (w0:World) (ob zb:Nat) (st le:Int) (us:List Bool) (hs:List ByteArray) (vu vh nv:Value) (ns:List Int) (w:World):Prop where
 old:Bw w0 w
 no:w0.heap.size<=ob
 out:w.heap[ob]?=some (.cells (a_ 0 false 0 0 0) 100)
 fus:w.heap[zb]?=some (.cells (ei st le vu vh) 45)
 ou:w.ownsRow w0.heap.size 4 1 vu us.length (us.map Value.bool)
 oh:w.ownsRow w0.heap.size 9 1 vh hs.length (hs.map Value.string)
 nt:w.ownsRow w0.heap.size 3 1 nv ns.length (aH ns)
theorem mK{base Xv:Nat}{e:TypeId}(h:w.ownsRow base e 1 v n xs)(hb:Xv<=base):w.ownsRow Xv e 1 v n xs:=⟨h.1,h.2.imp id λ⟨g,cap,cur,e1,e2,e3⟩=>⟨g,cap,cur,e1,Nat.le_trans hb e2,e3⟩⟩
theorem lr{base:Nat}{e e':TypeId}{v':Value}{ys:List Value}(h:w.ownsRow base e 1 v n xs)(h':w.ownsRow base e' 1 v' m ys)(he:e≠e')(hg:w.grownBy w' v'.ownBlock):w'.ownsRow base e 1 v n xs:=fE h λc ob hc ho=>(hg.block c (ar ho) (by
 rcases h.2 with⟨rfl,_⟩|⟨g,cap,cur,rfl,_,e2,_⟩
 .cases hc
 .cases hc;exact eL h' e2 he)).trans ho
section
variable{ob zb:Nat}{st le:Int}{us:List Bool}{hs:List ByteArray}{vu vh nv:Value}
theorem Wh.below(h:Wh w0 ob zb st le us hs vu vh nv ns w)(hb:Bw w w'):Wh w0 ob zb st le us hs vu vh nv ns w':=⟨ab h.old h.old.size hb,h.no,bk hb h.out,bk hb h.fus,b_ h.ou hb,b_ h.oh hb,b_ h.nt hb⟩
theorem Wh.app{k g:Nat}{x:Int}(h:Wh w0 ob zb st le us hs vu vh nv ns w)(hl:ns.length<100)(hg:w.heap[g]?=some (.cells #[.int .i64 x] 3))(hx:ev (.tmp k)=nv)(hy:ev (.tmp j)=.sk g 1 1)(o:Oper)(QH:o.op=.call {callee:=.builtin .append,args:=#[.tmp k,.tmp j],argTypes:=#[24,24]}):
 ∀e':Nat,∃v' w',(execOp ev o).run prog {w with drawn:=e'}= .ok (.value v') w'/\Wh w0 ob zb st le us hs vu vh v' (ns++[x]) w':=λe'=>by
 obtain⟨v',w',h1,h2,h3,h4⟩:=kP (ev:=ev) (t:=24) (z:=.int .i64 0) (bytes:=8) (m:=1) (q:=1) (ad:=⟨g,0,none⟩) (news:=[.int .i64 x]) k_ k_ rfl h.nt (λj u hu=>by
  rcases j with _|j
  .cases hu;rw[Addr.add_mid,ak hg];rfl
  .simp at hu) (by simp[Value.oneCell']) rfl hx hy (by unfold maxLen;omega) o_ h.old.size o QH e'
 refine⟨v',w',h1,h.old.trans h3,h.no,(h4.block ob (ar h.out) (eL h.nt h.out d_)).trans h.out,(h4.block zb (ar h.fus) (eL h.nt h.fus d_)).trans h.fus,lr h.ou h.nt d_ h4,lr h.oh h.nt d_ h4,?_⟩;rw[List.length_append,show aH (ns++[x])=aH ns++[.int .i64 x]from List.map_append ..];exact h2
end
section
variable{o:Oper}{c0 c1 wd kp:Value}{up:Bool}
theorem BA(QH:o.op=.load 26 x)(hx:ev x=.pk b 0)(h:w.heap[b]?=some (.cells (lj c0 c1 fl wd kp up sl) 107)):(execOp ev o).run prog w=.ok (.value (.agg #[c0,c1])) w:=by
 have h1:(isAgg 26).run prog w=.ok true w:=by kernel_rfl
 have hc:=ak h;simp[execOp,QH,hx,Instr.loadAt,loadVar,h1,loadCells,loadCellsFrom,Addr.add,hc,lj,go_sem]
end
theorem Hm{o:Oper}{y:Operand}{u:TypeId}{m n:Int}(QH:o.op=.binOp .gtr 36 x y u)(hx:ev x=.int .i64 m)(hy:ev y=.int .i64 n):(execOp ev o).run prog w=.ok (.value (.bool (decide (m>n)))) w:=by
 simp[execOp,QH,hx,hy,go_sem]
theorem Fy(KS:List Int)(QL:KS.length=64)(QX:ip KS)(cv:Array Value)(s:ByteArray)(st le:Int)(vu vh:Value)(us:List Bool)(hs:List ByteArray)(UM:us.length<4611686018427387904)(QY:s.size<=281474976000000){n:Int}(h:kT KS s le us hs n c)(w:World)(hU:cz w vu (us.map .bool))(hH:cz w vh (hs.map .string))(hC:iX KS cv w):
 Cl kX 19 #[.agg cv,.string s,.agg (ei st le vu vh)] w λe w'=>e=.returned (.tuple #[.int .i64 n,.int .i64 c])/\Bw w w':=
 (za KS QL QX cv s st le vu vh us hs w hU hH UM QY hC).mono λe w' ⟨n',c',e1,e2,e3⟩=>⟨by obtain⟨rfl,rfl⟩:=i7 e2 h;exact e1,e3⟩
def yl(f:Func):Code:=.seq (.seq (rG f 9) (.cond (.tmp 39) .skip (.exit 0))) (.seq (.block 1 (.seq (rD f 11) (.seq (rG f 12) (.seq (.seq (rG f 13) (.cond (.tmp 63) (.seq (rG f 14) .ret) .skip)) (.seq (rG f 15) (.cond (.tmp 72) (rG f 16) .skip)))))) (rG f 10))
def EA(f:Func):Code:=.seq (rG f 17) .ret
theorem Mj:f77.body=some (.seq (rG f77 0) (.seq (rG f77 1) (.seq (rG f77 2) (.seq (.seq (rG f77 3) (.cond (.tmp 21) (.seq (rG f77 4) .ret) .skip)) (.seq (.seq (rG f77 5) (.cond (.tmp 33) (.seq (rG f77 6) .ret) .skip)) (.seq (rG f77 7) (.seq (.seq (rG f77 8) (.block 0 (.loop (yl f77)))) (EA f77)))))))):=by kernel_rfl
section
variable{rb ob zb:Nat}{c0 c1 wd kp:Value}{up:Bool}{st le:Int}{us:List Bool}{hs:List ByteArray}{vu vh:Value}
theorem DL(QL:KS.length=64)(QX:ip KS)(hu:us.length=4)(hc:w0.heap[rb]?=some (.cells (lj c0 c1 fl wd kp up sl) 107))(hC:iX KS #[c0,c1] w0)(hf:kS w0 fl L){k:Nat}(hk:k<2){gr n:Int}{nv:Value}(hl:ns.length<50)(hP:kT KS (L.extract (k*8192) (k*8192+8192)) le us hs n c)(hS:Wh w0 ob zb st le us hs vu vh nv ns w)
 (hF:ay [(0,.pk rb 0),(3,.pk ob 0),(4,nv),(5,.pk zb 0),(7,.int .i64 gr),(8,.int .i64 k)] 79 [] a)
 (nj:c=0->∀a' w' Wx I,Wh w0 ob zb st le us hs vu vh Wx (ns++[16+16*(k:Int)]++[9]) w'->ay [(2,Wx),(3,.pk ob 0)] 79 [] a'->Rn kX Goal ((base 77).atR a' (.code .ret::I)) cs (put w' ob (a_ 0 true k n 0) 100))
 (nn:c≠0->∀a' w' Wx,Wh w0 ob zb st le us hs vu vh Wx (ns++[16+16*(k:Int)+c]) w'->ay [(0,.pk rb 0),(3,.pk ob 0),(4,Wx),(5,.pk zb 0),(7,.int .i64 (max gr c)),(8,.int .i64 ((k+1:Nat):Int))] 79 [] a'->Rn kX Goal ((base 77).atR a' [.code (yl f77),.inLoop (yl f77),.inBlock 0,.code (EA f77)]) cs w'):
 Rn kX Goal ((base 77).atR a [.code (yl f77),.inLoop (yl f77),.inBlock 0,.code (EA f77)]) cs w:=by
 have Ye:=o0 hP;have cw:∀{w'},Bw w w'->w'.heap[rb]?=some (.cells (lj c0 c1 fl wd kp up sl) 107):=λhb=>bk hb (bk hS.old hc);have fw:∀{w'},Bw w w'->kS w' fl L:=λhb=>(hf.keep (ai (X:=λ_=>False) hS.old) λ_ _ _ _ e=>e).keep (ai (X:=λ_=>False) hb) λ_ _ _ _ e=>e
 iterate 2 refine bP hF λa hF=>?_
 refine Rn.plain rfl (Rn.cond _ (hF.g 39) ?_);rw[decide_eq_true o_];have hF:ay [(0,.pk rb 0),(3,.pk ob 0),(4,nv),(5,.pk zb 0),(7,.int .i64 gr),(8,.int .i64 k)] 79 [] a:=hF.only ⟨rfl,rfl,rfl,rfl,rfl,rfl,trivial⟩
 iterate 4 refine Rn.plain rfl ?_
 refine bY hF ?_
 iterate 3 refine tx ?_
 refine Gx.q ?_ (y:=λo a w ho z=>BA ho gx (cw z.b))
 iterate 2 refine tx ?_
 refine Gx.k func102 (λw' hb _=>(Bj k hk (cw hb) (fw hb)).mono λe Rb ⟨h1,h2⟩=>⟨h1,h2▸Below.refl _ _⟩) ?_;refine Gx.q ?_ (y:=λo a w ho z=>ku ho gx (bk z.b hS.fus));refine Gx.k func19 (λw' hb _=>Fy KS QL QX #[c0,c1] _ st le vu vh us hs o_ (by rw[ByteArray.size_extract];omega) hP w' (nQ (b_ hS.ou hb)) (nQ (b_ hS.oh hb)) ((hC.mono hS.old).mono hb)) ?_
 iterate 5 refine tx ?_
 refine Gx.e λa w1 hF b1 _=>?_;have S1:=hS.below b1
 iterate 2 refine bP hF λa hF=>?_
 refine af hF (λo ho=>iy (m:=16) ho rfl (hF.g 55) o_) λa hF=>?_;refine af hF (λo ho=>aI (m:=16) ho rfl (hF.g 56) o_) λa hF=>?_
 iterate 2 refine bP hF λa hF=>?_
 rw[show((16+16*k:Nat):Int)+c=16+16*(k:Int)+c by omega]at hF;refine bl hF (λo ho=>kw ho (hF.g 59)) λw2 a b2 c2 z2 hF=>?_;have S2:=S1.below b2;refine dF hF (λo QH=>S2.app o_ c2 (hF.g 54) (hF.g 60) o QH) λv3 w3 S3 a hF=>?_
 iterate 3 refine bP hF λa hF=>?_
 refine Rn.plain rfl (Rn.cond _ (hF.g 63) ?_);by_cases h0:c=0
 .subst h0;rw[show 16+16*(k:Int)+0=16+16*(k:Int) by omega]at S3;refine bP hF λa hF=>?_;refine bl hF (λo ho=>kw (m:=9) ho rfl) λw4 a b4 c4 z4 hF=>?_;have S4:=S3.below b4;refine dF hF (λo QH=>S4.app (by simp;omega) c4 (hF.g 64) (hF.g 65) o QH) λv5 w5 S5 a hF=>?_
  iterate 2 refine bP hF λa hF=>?_
  refine af hF (λo ho=>zR ho rfl (hF.g 67) (hF.g 68)) λa hF=>?_;refine bP hF λa hF=>?_;refine aM hF (λo ho=>dp ho (hF.g 3) (hF.g 69) S5.out rfl) λa hF=>?_;exact Rn.plain rfl (nj rfl _ _ _ _ S5 (hF.only ⟨rfl,rfl,trivial⟩))
 .rw[show(c==0)=false from by simpa using h0]
  iterate 2 refine bP hF λa hF=>?_
  refine af hF (λo ho=>Hm ho (hF.g 70) (hF.g 71)) λa hF=>?_;refine Rn.plain rfl (Rn.cond _ (hF.g 72) ?_);have last:∀{g':Int} {a:Act},g'=max gr c->ay [(0,.pk rb 0),(3,.pk ob 0),(4,v3),(5,.pk zb 0),(7,.int .i64 g'),(8,.int .i64 k)] 79 [] a->Rn kX Goal ((base 77).atR a [.inBlock 1,.code (rG f77 10),.inLoop (yl f77),.inBlock 0,.code (EA f77)]) cs w3:=λ{g' a} eg hF=>by
   subst eg;refine bP hF λa hF=>?_;refine af hF (λo ho=>aI (n:=1) ho (hF.g 40) rfl o_) λa hF=>?_;refine bP hF λa hF=>?_;exact Rn.plain rfl (Rn.plain rfl (nn h0 _ _ _ S3 (hF.only ⟨rfl,rfl,rfl,rfl,rfl,rfl,trivial⟩)))
  by_cases hg:c>gr
  .rw[decide_eq_true hg]
   iterate 2 refine bP hF λa hF=>?_
   exact Rn.plain rfl (last o_ (hF.only ⟨rfl,rfl,rfl,rfl,rfl,rfl,trivial⟩))
  .rw[decide_eq_false hg];exact Rn.plain rfl (last o_ (hF.only ⟨rfl,rfl,rfl,rfl,rfl,rfl,trivial⟩))
end

def Q9(KS W:List Int)(L:ByteArray)(w:World)(v:Value)(w':World):Prop:=∃nv ns j s n c,v=.tuple #[nv,.agg (a_ 0 j s n c)]/\eo KS W L ns j s n c/\w'.ownsRow w.heap.size 3 1 nv ns.length (aH ns)/\Bw w w'
section
variable{rb:Nat}{c0 c1 kp:Value}{up:Bool}{W:List Int}
theorem xo(QL:KS.length=64)(QX:ip KS)(hc:w.heap[rb]?=some (.cells (lj c0 c1 fl (.sk wb 85 qw) kp up sl) 107))(hC:iX KS #[c0,c1] w)(hf:kS w fl L)(hW:dP W)(hr:w.rangeAt wb 0 (W.map (Value.int .i64))):
 Cl kX 77 #[.pk rb 0] w λe w'=>∃v,e=.returned v/\Q9 KS W L w v w':=by
 refine si (t:=3) (u:=2) (ty:=100) (n:=5) func77 rfl (by exact underlying100) rfl iz λcs=>?_;refine bm (N:=79) func77 Mj λa hF=>?_;refine bP hF λa hF=>?_;refine bl hF (λo ho=>gy ho) λw1 a b1 o1 z1 hF=>?_;refine bl hF (λo ho=>kw (m:=1) ho rfl) λw2 a b2 n2 z2 hF=>?_;have B2:Bw w w2:=ab b1 b1.size b2;have Rh:=bk B2 hc
 iterate 5 refine bP hF λa hF=>?_
 refine bf hF func101 (BF (cap:=qw) hW λj v hv=>aR B2 (hr j v hv)) λv w3 hv a hF=>?_;obtain⟨st,le,cr,pu,lu,qu,ph,lh,qh,us,hs,rfl,hP,b3,hz⟩:=hv
 iterate 3 refine bP hF λa hF=>?_
 refine bl hF (λo ho=>sU ho) λw4 a b4 c4 z4 hF=>?_;refine aM hF (λo ho=>lJ ho (hF.g 5) (hF.g 18) c4 rfl) λa hF=>?_;have B3:Bw w w3:=ab B2 B2.size b3;have B4:Bw w w4:=ab B3 B3.size b4;have o3:=bk b4 (bk b3 (bk b2 o1));have n3:=bk b4 (bk b3 n2);have n5:w.heap.size<=w3.heap.size:=B3.size;have Um:w4.ownsRow w.heap.size 3 1 (.sk w1.heap.size 1 1) 1 (aH [1]):=⟨rfl,.inr ⟨w1.heap.size,1,_,rfl,b1.size,n3,Nat.le_refl _,by unfold maxLen;omega,rfl,rfl⟩⟩;have out5:=(bz (cs:=ei st le (.slice pu lu qu) (.slice ph lh qh)) (t:=45) (bD o3 c4 d_)).trans o3;have S5:Wh w w.heap.size w3.heap.size st le us hs (.slice pu lu qu) (.slice ph lh qh) (.sk w1.heap.size 1 1) [1] (put w4 w3.heap.size (ei st le (.slice pu lu qu) (.slice ph lh qh)) 45):=⟨B4.trans (cg n5),Nat.le_refl _,out5,aW c4,eB (mK (b_ hz.1 b4) B2.size) c4 d_,eB (mK (b_ hz.2 b4) B2.size) c4 d_,eB Um c4 d_⟩;revert S5;generalize put w4 w3.heap.size (ei st le (.slice pu lu qu) (.slice ph lh qh)) 45=w5;intro S5
 iterate 2 refine bP hF λa hF=>?_
 refine bP hF λa hF=>?_;refine Rn.plain rfl (Rn.cond _ (hF.g 21) ?_);have fin:∀{ns:List Int} {j:Bool} {s n c:Int} {us:List Bool} {hs:List ByteArray} {vu vh nv:Value} {zb:Nat} {st le:Int} {w':World} {a:Act} {I:List Item},eo KS W L ns j s n c->Wh w w.heap.size zb st le us hs vu vh nv ns w'->ay [(2,nv),(3,.pk w.heap.size 0)] 79 [] a->Rn kX (λg w'=>∃(a:Act) (k:List Item) (bk:Nat) (cells:Array Value) (tt:TypeId) (v:Value),g=cQ {(base 77).atR a k with mode:=.returning} cs/\a.defers=[]/\a.tmps[3]?=some (.pk bk 0)/\w'.heap[bk]?=some (.cells cells tt)/\cells.size=5/\a.tmps[2]?=some v/\∃v',Ending.returned (.tuple #[v,.agg cells])=.returned v'/\Q9 KS W L w v' w') ((base 77).atR a (.code .ret::I)) cs (put w' w.heap.size (a_ 0 j s n c) 100):=λ{ns j s n c us hs vu vh nv zb st le w' a I} hq hS hF=>
  Rn.ends rfl (.inr ⟨_,rfl⟩) (Rn.now ⟨_,_,w.heap.size,_,_,_,rfl,hF.defers,hF.slot 3 _ rfl,aW hS.out,rfl,hF.slot 2 _ rfl,_,rfl,nv,ns,j,s,n,c,rfl,hq,eB hS.nt hS.out d_,hS.old.trans (cg (Nat.le_refl _))⟩)
 by_cases h0:cr=0
 .subst h0;have l4:us.length=4:=by
   rcases hP with⟨_,_,_,_,rfl,_⟩|⟨_,e⟩
   .simp[xt]
   .cases e
  have c5:=S5.fus
  iterate 3 refine bP hF λa hF=>?_
  refine bP hF λa hF=>?_;have go:(st=255\/st=3855)->∀{a:Act},ay [(0,.pk rb 0),(3,.pk w.heap.size 0),(4,.sk w1.heap.size 1 1),(5,.pk w3.heap.size 0)] 79 [] a->Rn kX (λg w'=>∃(a:Act) (k:List Item) (bk:Nat) (cells:Array Value) (tt:TypeId) (v:Value),g=cQ {(base 77).atR a k with mode:=.returning} cs/\a.defers=[]/\a.tmps[3]?=some (.pk bk 0)/\w'.heap[bk]?=some (.cells cells tt)/\cells.size=5/\a.tmps[2]?=some v/\∃v',Ending.returned (.tuple #[v,.agg cells])=.returned v'/\Q9 KS W L w v' w') ((base 77).atR a [.code (.seq (rG f77 7) (.seq (.seq (rG f77 8) (.block 0 (.loop (yl f77)))) (EA f77)))]) cs w5:=λQZ a hF=>by
   iterate 2 refine bP hF λa hF=>?_
   refine Rn.plain rfl (Rn.plain rfl (Rn.plain rfl ?_));obtain⟨n0,c0',Wp⟩:=kM KS (L.extract 0 8192) le us hs;obtain⟨n1,Yq,WW⟩:=kM KS (L.extract 8192 16384) le us hs;have d0:=o0 Wp;have d1:=o0 WW;refine DL (k:=0) QL QX l4 hc hC hf o_ d_ Wp S5 (hF.only ⟨rfl,rfl,rfl,rfl,rfl,rfl,trivial⟩) (λe a w' Wx I hS hF=>fin (j:=true) (s:=0) (n:=n0) (c:=0) ⟨st,le,0,us,hs,hP,.inr (.inr ⟨rfl,QZ,n0,c0',Wp,.inl ⟨e,rfl,rfl,rfl,rfl,rfl⟩⟩)⟩ hS hF) λe0 a w' Wx hS hF=>?_;refine DL (k:=1) QL QX l4 hc hC hf o_ s_ WW hS hF (λe a w' Wx I hS hF=>fin (j:=true) (s:=1) (n:=n1) (c:=0) ⟨st,le,0,us,hs,hP,.inr (.inr ⟨rfl,QZ,n0,c0',Wp,.inr ⟨e0,n1,Yq,WW,.inl ⟨e,by simp,rfl,rfl,rfl,rfl⟩⟩⟩)⟩ hS hF) λe1 a w' Wx hS hF=>?_
   iterate 2 refine bP hF λa hF=>?_
   refine Rn.plain rfl (Rn.cond _ (hF.g 39) ?_);rw[decide_eq_false o_];refine bP hF λa hF=>?_;refine bl hF (λo ho=>kw (m:=4) ho rfl) λw6 a b6 c6 z6 hF=>?_;have S6:=hS.below b6;refine dF hF (λo QH=>S6.app s_ c6 (hF.g 74) (hF.g 75) o QH) λv7 w7 S7 a hF=>?_;refine bP hF λa hF=>?_;refine af hF (λo ho=>pM ho (hF.g 77)) λa hF=>?_;refine bP hF λa hF=>?_;refine aM hF (λo ho=>dp ho (hF.g 3) (hF.g 78) S7.out rfl) λa hF=>?_;rw[show max (max 0 c0') Yq=max c0' Yq by omega];exact Rn.plain rfl (fin ⟨st,le,0,us,hs,hP,.inr (.inr ⟨rfl,QZ,n0,c0',Wp,.inr ⟨e0,n1,Yq,WW,.inr ⟨e1,by simp,rfl,rfl,rfl,rfl⟩⟩⟩)⟩ S7 (hF.only ⟨rfl,rfl,trivial⟩))
  by_cases e1:st=255
  .rw[show(st !=255)=false from by simpa using e1]at hF
   iterate 3 refine Rn.us hF λa hF=>?_
   refine af hF (λo ho=>fM ho (hF.g 29) rfl) λa hF=>?_;refine Rn.plain rfl (Rn.cond _ (hF.g 33) ?_);exact Rn.plain rfl (go (.inl e1) (hF.only ⟨rfl,rfl,rfl,rfl,trivial⟩))
  .rw[show(st !=255)=true from by simpa using e1]at hF
   iterate 3 refine bP hF λa hF=>?_
   refine af hF (λo ho=>fp ho (hF.g 29) (hF.g 32)) λa hF=>?_;refine Rn.plain rfl (Rn.cond _ (hF.g 33) ?_);by_cases e2:st=3855
   .rw[show(st !=3855)=false from by simpa using e2];exact Rn.plain rfl (go (.inr e2) (hF.only ⟨rfl,rfl,rfl,rfl,trivial⟩))
   .rw[show(st !=3855)=true from by simpa using e2];refine bP hF λa hF=>?_;refine bl hF (λo ho=>kw (m:=3) ho rfl) λw6 a b6 c6 z6 hF=>?_;have S6:=S5.below b6;refine dF hF (λo QH=>S6.app d_ c6 (hF.g 34) (hF.g 35) o QH) λv7 w7 S7 a hF=>?_;refine af hF (λo ho=>pM (c:=2) ho rfl) λa hF=>?_;refine bP hF λa hF=>?_;refine aM hF (λo ho=>dp ho (hF.g 3) (hF.g 37) S7.out rfl) λa hF=>?_;exact Rn.plain rfl (fin ⟨st,le,0,us,hs,hP,.inr (.inl ⟨rfl,e1,e2,rfl,rfl,rfl,rfl,rfl⟩)⟩ S7 (hF.only ⟨rfl,rfl,trivial⟩))
 .rw[show(cr !=0)=true from by simpa using h0];refine bP hF λa hF=>?_;refine bl hF (λo ho=>kw (m:=2) ho rfl) λw6 a b6 c6 z6 hF=>?_;have S6:=S5.below b6;refine dF hF (λo QH=>S6.app d_ c6 (hF.g 22) (hF.g 23) o QH) λv7 w7 S7 a hF=>?_;refine af hF (λo ho=>pM (c:=1) ho rfl) λa hF=>?_;refine bP hF λa hF=>?_;refine aM hF (λo ho=>dp ho (hF.g 3) (hF.g 25) S7.out rfl) λa hF=>?_;exact Rn.plain rfl (fin ⟨st,le,cr,us,hs,hP,.inl ⟨h0,rfl,rfl,rfl,rfl,rfl⟩⟩ S7 (hF.only ⟨rfl,rfl,trivial⟩))
end

theorem xz{k:Nat}{cs:Array Value}{t:TypeId}{fr:Nat×Nat}(v:Value)(h:w.heap[b]?=some (.cells cs t fr)):(w.setCell ⟨b,k,none⟩ v).heap[b]?=some (.cells (cs.setIfInBounds k v) t fr):=by
 unfold World.setCell;rw[Array.getElem?_modify,if_pos rfl,h];rfl
theorem qz(b k:Nat)(v:Value):Ex (· =b) w (w.setCell ⟨b,k,none⟩ v):=⟨rfl,rfl,rfl,by simp[World.setCell],λc _ hc=>by
 unfold World.setCell;rw[Array.getElem?_modify,if_neg λe=>hc e.symm]⟩
def tv(w:World)(kb cap:Nat)(K:List Int):Prop:=Pn K/\16<=cap/\∃cells fr,w.heap[kb]?=some (.cells cells 5 fr)/\16<=fr.1/\∀j (h:j<K.length),cells[j]?=some (Value.int .u8 K[j])
def Po(w:World)(v:Value)(ns:List Int):Prop:=∃p cap,v=.slice p ns.length cap/\∀(i:Nat) x,ns[i]?=some x->∃g cur,p=some ⟨g,0,none⟩/\w.heap[g]?=some (.cells cur 3)/\cur[i]?=some (Value.int .i64 x)
section
variable{cap:Nat}{K:List Int}
theorem tv.keep(h:tv w kb cap K)(hx:Ex X w w')(hn:¬X kb):tv w' kb cap K:=let ⟨h1,h2,c,f,h3,h4⟩:=h;⟨h1,h2,c,f,hx.at hn h3,h4⟩
theorem I3{base:Nat}(h:w.ownsRow base 3 1 v n (aH ns)):Po w v ns:=by
 have hl:ns.length=n:=by have:=h.1;simp[aH]at this;omega
 rcases h.2 with⟨rfl,rfl⟩|⟨g,cap,cur,rfl,_,h2,_,_,_,h3⟩
 .refine⟨none,0,by rw[hl],λi x hx=>?_⟩;have:=(List.getElem?_eq_some_iff.1 hx).1;omega
 .refine⟨some ⟨g,0,none⟩,cap,by rw[hl],λi x hx=>⟨g,cur,rfl,h2,?_⟩⟩;have hi:=(List.getElem?_eq_some_iff.1 hx).1;have hu:(aH ns)[i]?=some (.int .i64 x):=by simp[aH,hx]
  rw[←h3,List.getElem?_take,if_pos o_]at hu;simpa using hu
theorem tv.set(h:tv w kb cap K)(i:Nat)(hi:i<16){x:Int}(hx:0<=x/\x<256):tv (w.setCell ⟨kb,i,none⟩ (.int .u8 x)) kb cap (K.set i x):=by
 obtain⟨⟨h0,h1⟩,h2,cells,fr,h3,h4,h5⟩:=h;refine⟨⟨by simpa using h0,λj hj=>?_⟩,h2,_,fr,xz _ h3,h4,λj hj=>?_⟩
 .rw[List.getElem_set];split
  .exact hx
  .exact h1 j (by simpa using hj)
 .have SV:j<K.length:=by simpa using hj
  have hz:i<cells.size:=by
   have:=h5 i o_;exact(Array.getElem?_eq_some_iff.1 this).1
  rw[Array.getElem?_setIfInBounds,List.getElem_set];by_cases e:i=j
  .rw[if_pos e,if_pos o_,if_pos e]
  .rw[if_neg e,if_neg e];exact h5 j SV
variable{o:Oper}{y:Operand}
theorem xG{g len cap:Nat}(QH:o.op=.indexAddr 83 x y)(hx:ev x=.sk g len cap)(hy:ev y=.int .i64 n)(hn:n<len):(execOp ev o).run prog w=.ok (.value (.pk g n)) w:=by
 have:=(bJ (w:=w) (t:=83) (e:=5) k_ (λw=>by kernel_rfl) QH hx hy hn).1
 rwa [Addr.add_mid,Nat.zero_add]at this
theorem HR(hm:m<256)(QH:o.op=.convert 5 3 x)(hx:ev x=.int .u8 m):(execOp ev o).run prog w=.ok (.value (.int .i64 m)) w:=by
 have h1:prog.underlying 5=some (.int .u8):=by kernel_rfl
 have h2:prog.underlying 3=some (.int .i64):=by kernel_rfl
 have e:IntKind.i64.wrap (m:Int)=m:=by rw[IntKind.wrap_i64];omega
 simp[execOp,QH,hx,go_sem,h1,h2,e]
theorem JO(h:tv w kb cap K)(hi:i<16){n:Int}(QH:o.op=.store 5 x y)(hx:ev x=.pk kb i)(hy:ev y=.int .u8 n):(execOp ev o).run prog w=.ok .skip (w.setCell ⟨kb,i,none⟩ (.int .u8 n)):=by
 obtain⟨⟨h0,_⟩,_,cells,fr,h3,h4,h5⟩:=h;exact(dr (v:=.int .u8 n) rfl rfl k_ QH hx hy (show w.cell? ⟨kb,i,none⟩=_ from by simp only[World.cell?,h3];exact h5 i o_) (by simp only[World.frozen?,h3];rw[Bool.and_eq_false_iff];left;simp;omega)).1
theorem AC(h:tv w kb cap K)(hi:i<K.length):w.cell? ⟨kb,i,none⟩=some (.int .u8 K[i]):=by
 obtain⟨_,_,cells,fr,h3,_,h5⟩:=h;simp only[World.cell?,h3];exact h5 i hi
end
def LF(f:Func):Code:=.seq (.seq (rG f 1) (.cond (.tmp 9) .skip (.exit 0))) (.seq (.block 1 (.seq (rG f 3) (.seq (rD f 4) (rG f 5)))) (rG f 2))
theorem Mv:f78.body=some (.seq (rG f78 0) (.block 0 (.loop (LF f78)))):=by kernel_rfl
section
variable{rb:Nat}{c0 c1 wd:Value}{up:Bool}{K0:List Int}
theorem ya(hc:w0.heap[rb]?=some (.cells (lj c0 c1 fl wd (.sk kb 16 qk) up sl) 107))(h8:∃cs fr,w0.heap[kb]?=some (.cells cs 5 fr))(hL:Po w0 lv ns)(hn:ns.length<1000)(nt:∀a w,tv w kb qk (nts K0 ns)->Ex (· =kb) w0 w->ay [] 40 [] a->Rn kX Goal ((base 78).atR a []) cs w):
 ∀(m i:Nat) (w:World) (a:Act),ns.length- i=m->i<=ns.length->tv w kb qk (nts K0 (ns.take i))->Ex (· =kb) w0 w->ay [(0,.pk rb 0),(1,lv),(4,.int .i64 i)] 40 [] a->Rn kX Goal ((base 78).atR a [.code (LF f78),.inLoop (LF f78),.inBlock 0]) cs w:=by
 obtain⟨p,cap,rfl,QR⟩:=id hL;obtain⟨kc,kf,hk8⟩:=h8;have nrb:¬rb=kb:=λe=>by
  rw[e,hk8]at hc;injection hc with hc;injection hc with _ hc;cases hc
 intro m;induction m with
 |zero=>
  intro i w a hm hi hK hx hF
  iterate 3 refine bP hF λa hF=>?_
  refine bP hF λa hF=>?_;refine Rn.plain rfl (Rn.cond _ (hF.get (d:=9) rfl) ?_);rw[decide_eq_false o_];rw[List.take_of_length_le o_]at hK;exact Rn.plain rfl (nt _ _ hK hx (hF.only trivial))
 |succ m ih=>
  intro i w a hm hi hK hx hF;have R5:i<ns.length:=by omega
  obtain⟨g,cur,rfl,hg,hgi⟩:=QR i ns[i] (List.getElem?_eq_getElem R5);have ng:g≠kb:=λe=>by
   rw[e,hk8]at hg;injection hg with hg;injection hg with _ hg;cases hg
  have UP:=hx.at ng hg;have TT:=hx.at nrb hc
  iterate 3 refine bP hF λa hF=>?_
  refine bP hF λa hF=>?_;refine Rn.plain rfl (Rn.cond _ (hF.get (d:=9) rfl) ?_);rw[decide_eq_true o_];rw[show nts K0 (ns.take i)=nts K0 (ns.take i)from rfl]at hK;have eK:nts K0 (ns.take (i+1))=x_ (nts K0 (ns.take i)) ns[i]:=by
   rw[List.take_add_one,List.getElem?_eq_getElem R5,Option.toList_some];unfold nts;rw[List.foldl_append];rfl
  generalize nts K0 (ns.take i)=K at hK eK;have Y2:=hK.1.1;obtain⟨c,Wl,RS⟩:∃c:Nat,K[0]=(c:Int)/\c<256:=⟨(K[0]).toNat,by have:=hK.1.2 0 o_;omega,by have:=hK.1.2 0 o_;omega⟩;have hgd:K.getD 0 0=(c:Int):=by rw[List.getD_eq_getElem?_getD,List.getElem?_eq_getElem (by omega:0<K.length),Wl];rfl
  have ck:=AC hK (i:=0) o_;rw[Wl]at ck
  iterate 4 refine bP hF λa hF=>?_
  refine af hF (λo ho=>xG (n:=0) ho (hF.get (d:=15) rfl) rfl o_) λa hF=>?_;refine af hF (λo ho=>(an ua ho (hF.get (d:=16) rfl) ck).1) λa hF=>?_;refine af hF (λo ho=>HR RS ho (hF.get (d:=17) rfl)) λa hF=>?_;refine bP hF λa hF=>?_;have hF:ay [(0,.pk rb 0),(1,.sk g ns.length cap),(4,.int .i64 i),(5,.int .i64 c)] 40 [] a:=hF.only ⟨rfl,rfl,rfl,rfl,trivial⟩;have QK:1+c%15<16:=by omega
  refine Rn.plain rfl (Rn.plain rfl ?_);refine gI 13 hF ?_
  iterate 3 refine tx ?_
  refine Gx.q ?_ (y:=λo a w ho z=>(an nR ho gx ((ak (bk z.b TT) 4).trans rfl)).1);refine tx ?_;refine Gx.q ?_ (y:=λo a w ho z=>pJ (n:=15) ho gx rfl o_);refine Gx.q ?_ (y:=λo a w ho z=>aI (m:=1) ho rfl gx o_)
  iterate 2 refine tx ?_
  refine Gx.q ?_ (y:=λo a w ho z=>(bS (t:=24) (off:=0) i k_ ho gx gx R5).trans (by rw[Nat.zero_add]));refine Gx.q ?_ (y:=λo a w ho z=>(an az ho gx ((ak (bk z.b UP) i).trans hgi)).1);refine Gx.q ?_ (y:=λo a w ho z=>mB ho gx);refine Gx.q ?_ (y:=λo a w ho z=>xG ho gx gx QK);refine Gx.e λa w1 hF b1 _ rest hgo=>?_;have Wq:=hK.keep (ai (X:=λ_=>False) b1) (λe=>e);refine aM hF (λo ho=>JO Wq QK ho (hF.get (d:=31) rfl) (hF.get (d:=30) rfl)) λa hF=>hgo _ _ ?_;have U8:=Wq.set (1+c%15) QK (x:=IntKind.u8.wrap ns[i]) (by rw[IntKind.wrap_u8];omega);have x1:=(hx.trans (ai (X:=(· =kb)) b1) λ_ _ e=>e).trans (qz kb (1+c%15) (.int .u8 (IntKind.u8.wrap ns[i]))) λ_ _ e=>e;revert U8 x1;generalize w1.setCell ⟨kb,1+c%15,none⟩ (.int .u8 (IntKind.u8.wrap ns[i]))=w2;intro U8 x2;have Rh:=x2.at nrb hc
  iterate 5 refine bP hF λa hF=>?_
  refine af hF (λo ho=>aI (n:=1) ho (hF.get (d:=36) rfl) rfl o_) λa hF=>?_;refine af hF (λo ho=>mB ho (hF.get (d:=37) rfl)) λa hF=>?_;refine af hF (λo ho=>xG (n:=0) ho (hF.get (d:=35) rfl) rfl o_) λa hF=>?_;refine aM hF (λo ho=>JO U8 o_ ho (hF.get (d:=39) rfl) (hF.get (d:=38) rfl)) λa hF=>?_;have W5:=U8.set 0 o_ (x:=IntKind.u8.wrap ((c+1:Nat):Int)) (by rw[IntKind.wrap_u8];omega);have x3:=x2.trans (qz kb 0 (.int .u8 (IntKind.u8.wrap ((c+1:Nat):Int)))) λ_ _ e=>e;rw[show(K.set (1+c%15) (IntKind.u8.wrap ns[i])).set 0 (IntKind.u8.wrap ((c+1:Nat):Int))=x_ K ns[i]from by unfold x_;rw[hgd,Int.toNat_natCast,Int.natCast_add];rfl,←eK]at W5;refine bP hF λa hF=>?_;refine af hF (λo ho=>aI (n:=1) ho (hF.get (d:=10) rfl) rfl o_) λa hF=>?_;refine bP hF λa hF=>?_;exact Rn.plain rfl (Rn.plain rfl (ih (i+1) _ _ o_ o_ W5 x3 (hF.only ⟨rfl,rfl,rfl,trivial⟩)))
theorem sR(hc:w.heap[rb]?=some (.cells (lj c0 c1 fl wd (.sk kb 16 qk) up sl) 107))(hK:tv w kb qk K0)(hL:Po w lv ns)(hn:ns.length<1000):
 Cl kX 78 #[.pk rb 0,lv] w λe w'=>e=.returned (.tuple #[])/\tv w' kb qk (nts K0 ns)/\Ex (· =kb) w w':=by
 refine fg func78 rfl λcs=>?_;refine bm (N:=40) func78 Mv λa hF=>?_;refine bP hF λa hF=>?_;refine Rn.plain rfl (Rn.plain rfl (Rn.plain rfl ?_));exact ya hc (let ⟨_,_,c,f,h,_⟩:=hK;⟨c,f,h⟩) hL hn (λa w' hK hx hF=>tn hF ⟨rfl,hK,hx⟩) ns.length 0 w _ o_ o_ hK Ex.refl (hF.only ⟨rfl,rfl,rfl,trivial⟩)
end

def fv(w:World)(v:Value)(m:Int):Prop:=∃p n cap,v=.slice p n cap/\∀i:Nat,i<n->∃b cur,p=some ⟨b,0,none⟩/\w.heap[b]?=some (.cells cur 3)/\cur[i]?=some (Value.int .i64 m)
def pD(w:World)(g n cap:Nat)(m:Int):Prop:=∃cur:Array Value,w.heap[g]?=some (.cells cur 3)/\n<=cap/\cap<=maxLen/\cur.size=cap/\∀i:Nat,i<n->cur[i]?=some (Value.int .i64 m)
section
variable{m:Int}{g cap:Nat}
theorem pD.own(h:pD w g n cap m):w.ownsRow 0 3 1 (.sk g n cap) n (List.replicate n (.int .i64 m)):=by
 obtain⟨cur,h1,h2,h3,h4,h5⟩:=h;refine⟨by simp,.inr ⟨g,cap,cur,rfl,Nat.zero_le _,h1,h2,h3,by omega,?_⟩⟩;apply List.ext_getElem?;intro i;rw[List.getElem?_take,List.getElem?_replicate];by_cases hi:i<n
 .rw[if_pos o_,if_pos hi,Array.getElem?_toList,h5 i hi]
 .rw[if_neg o_,if_neg hi]
theorem pD.is(h:pD w g n cap m):fv w (.sk g n cap) m:=let ⟨cur,h1,_,_,_,h5⟩:=h;⟨_,n,cap,rfl,λi hi=>⟨g,cur,rfl,h1,h5 i hi⟩⟩
theorem fv.grow{Ub:Array Value}(h:fv w v m)(hg:w.heap[g]?=some (.cells cur 3))(UP:w'.heap[g]?=some (.cells Ub 3))(hk:∀b o,b≠g->w.heap[b]?=some o->w'.heap[b]?=some o)(hs:∀i:Nat,cur[i]?=some (Value.int .i64 m)->Ub[i]?=some (Value.int .i64 m)):fv w' v m:=by
 obtain⟨p,n,cap,rfl,h⟩:=h;refine⟨p,n,cap,rfl,λi hi=>?_⟩;obtain⟨b,c,e1,e2,e3⟩:=h i hi;by_cases e:b=g
 .subst e;rw[hg]at e2;cases e2;exact⟨b,Ub,e1,UP,hs i e3⟩
 .exact⟨b,c,e1,hk b _ e e2,e3⟩
theorem fv.keep(h:fv w v m)(hk:∀b cur,v.ownBlock=some b->w.heap[b]?=some (.cells cur 3)->w'.heap[b]?=some (.cells cur 3)):fv w' v m:=by
 obtain⟨p,n,cap,rfl,h⟩:=h;refine⟨p,n,cap,rfl,λi hi=>?_⟩;obtain⟨b,c,rfl,e2,e3⟩:=h i hi;exact⟨b,c,rfl,hk b _ rfl e2,e3⟩
theorem FN{k q:Nat}(hF:pD w g n cap m)(VP:∀i:Nat,i<r->w.cell? (ad.add i)=some (.int .i64 m))(hn:n+r<=1000)(hx:ev (.tmp k)=.sk g n cap)(hy:ev (.tmp j)=.slice (some ad) r q)(o:Oper)(QH:o.op=.call {callee:=.builtin .append,args:=#[.tmp k,.tmp j],argTypes:=#[24,24]}):
 ∃v' w',(execOp ev o).run prog w=.ok (.value v') w'/\fv w' v' m/\(∃b,v'.ownBlock=some b/\(b=g\/w.heap.size<=b)/\b<w'.heap.size)/\(∃p c,v'= .slice p (n+r) c)/\pD w' g n cap m/\(∀u,fv w u m->fv w' u m)/\Ex (· =g) w w':=by
 have Ra:=hF.own;obtain⟨cur,h1,h2,h3,h4,h5⟩:=id hF;obtain⟨i,hi,Ss⟩:=Option.map_eq_some_iff.1 (show(prog.info? 3).map (λi=>(i.zero,i.size,i.bytes))=some (some (.int .i64 0),1,8) by kernel_rfl);simp only[Prod.mk.injEq]at Ss;have hu:prog.underlying 24=some (.slice 3):=by kernel_rfl
 have hnw:∀(j:Nat) u,(List.replicate r (Value.int .i64 m))[j]?=some u->w.cell? (ad.add j)=some u:=λj u hu=>by
  rw[List.getElem?_replicate]at hu;split at hu
  .cases hu;exact VP j ‹_›
  .cases hu
 have e:execOp ev o=(do pure (.value (←Builtin.append_ #[24,24] o.type #[.sk g n cap,.slice (some ad) r q]))):=by simp[execOp,QH,resolve,hx,hy,invoke,builtin]
 by_cases Ux:n+r<=cap
 .have Q_:=run_append_room (P:=prog) w 24 o.type 3 i hu hi g n cap cur h1 ad r q (List.replicate r (.int .i64 m)) (by simp[Ss.2.1]) hnw (by simp[Value.oneCell']) Ux (by simp[Ss.2.1];omega);rw[Ss.2.1,fL h1,Nat.mul_one,List.length_replicate]at Q_;have QY:(cur.toList.take n++List.replicate r (Value.int .i64 m)++cur.toList.drop (n+r)).toArray.size=cap:=by simp;omega
  have QR:∀i:Nat,(cur.toList.take n++List.replicate r (Value.int .i64 m)++cur.toList.drop (n+r)).toArray[i]?=if n<=i/\i<n+r then some (.int .i64 m)else cur[i]?:=λi=>by
   rw[List.getElem?_toArray,List.append_assoc,List.getElem?_append,List.length_take,Array.length_toList,Nat.min_eq_left o_];by_cases a1:i<n
   .rw[if_pos a1,if_neg o_,List.getElem?_take,if_pos a1,Array.getElem?_toList]
   .rw[if_neg a1,List.getElem?_append,List.length_replicate];by_cases a2:i- n<r
    .rw[if_pos a2,if_pos o_,List.getElem?_replicate,if_pos a2]
    .rw[if_neg a2,if_neg o_,List.getElem?_drop,Array.getElem?_toList]
     congr 1
     omega
  revert Q_ QY QR;generalize (cur.toList.take n++List.replicate r (Value.int .i64 m)++cur.toList.drop (n+r)).toArray=Ub;intro Q_ QY QR;have hp:=aW (cs:=Ub) (t:=3) h1;have up:∀i:Nat,cur[i]?=some (Value.int .i64 m)->Ub[i]?=some (Value.int .i64 m):=λi h=>by
   rw[QR];split
   .rfl
   .exact h
  have lt5:=ar h1;refine⟨_,_,by rw[e];exact jK Q_,⟨_,n+r,cap,rfl,λi hi=>⟨g,Ub,rfl,hp,?_⟩⟩,⟨g,rfl,.inl rfl,by rw[eJ];exact lt5⟩,⟨_,_,rfl⟩,⟨Ub,hp,h2,h3,QY,λi hi=>up i (h5 i hi)⟩,λu hu=>hu.grow h1 hp (λb o hb ho=>(bz hb).trans ho) up,bE _ _ _⟩;rw[QR];split
  .rfl
  .exact h5 i o_
 .have Q_:=run_append_grow (P:=prog) w 24 o.type 3 i (.int .i64 0) hu hi Ss.1 ⟨g,0,none⟩ n cap (List.replicate n (.int .i64 m)) (by simp[Ss.2.1]) (Ra.cells (g:=g) rfl) ad r q (List.replicate r (.int .i64 m)) (by simp[Ss.2.1]) hnw o_ o_ (growslice_fits o_ (by rw[Ss.2.2];omega));obtain⟨v',w',r1,r2,r3,_⟩:=run_append_own (P:=prog) w 0 24 o.type 3 i (.int .i64 0) 1 8 hu hi Ss.1 Ss.2.1 Ss.2.2 rfl o_ _ n _ Ra ad r q (List.replicate r (.int .i64 m)) s_ hnw (by simp[Value.oneCell']) (by unfold maxLen;omega) o_ (Nat.zero_le _);rw[Q_]at r1;injection r1 with r1 r1';have bel:Bw w w':=by
   rw[←r1'];exact(zj w).trans (aD w.drew _)
  subst r1;refine⟨_,w',by rw[e,←r1'];exact jK Q_,?_,⟨_,rfl,.inr (Nat.le_refl _),by rw[←r1',ao];exact Nat.lt_succ_self _⟩,⟨_,_,rfl⟩,⟨cur,bk bel h1,h2,h3,h4,h5⟩,λu hu=>hu.keep λb o _ ho=>(bel.block b (ar ho)).trans ho,ai bel⟩;have:=I3 (ns:=List.replicate (n+r) m) (by
   rw[List.replicate_append_replicate]at r2;have e3:aH (List.replicate (n+r) m)=List.replicate (n+r) (Value.int .i64 m):=(by simp[aH]);rw[e3];exact r2)
  obtain⟨p,c,e1,e2⟩:=this;rw[List.length_replicate]at e1;refine⟨p,n+r,c,e1,λi hi=>?_⟩;obtain⟨b,cu,q1,q2,q3⟩:=e2 i m (by rw[List.getElem?_replicate,if_pos hi]);exact⟨b,cu,q1,q2,q3⟩
theorem uJ{k q:Nat}(hF:pD w g n cap m)(VP:∀i:Nat,i<r->w.cell? (ad.add i)=some (.int .i64 m))(hn:n+r<=1000)(hx:ev (.tmp k)=.sk g n cap)(hy:ev (.tmp j)=.slice (some ad) r q)(o:Oper)(QH:o.op=.call {callee:=.builtin .append,args:=#[.tmp k,.tmp j],argTypes:=#[24,24]}):
 ∀e':Nat,∃v' w',(execOp ev o).run prog {w with drawn:=e'}= .ok (.value v') w'/\fv w' v' m/\(∃b,v'.ownBlock=some b/\(b=g\/w.heap.size<=b)/\b<w'.heap.size)/\(∃p c,v'= .slice p (n+r) c)/\pD w' g n cap m/\(∀u,fv w u m->fv w' u m)/\Ex (· =g) w w':=λe'=>
 let ⟨v',w',h1,h2,h3,h4,h5,h6,h7⟩:=FN (w:={w with drawn:=e'}) hF VP hn hx hy o QH
 ⟨v',w',h1,h2,h3,h4,h5,h6,⟨h7.os,h7.output,h7.tape,h7.size,h7.block⟩⟩
end

structure Ls (w:World) (Z:Nat->Prop) (lv mv:Value) (ls:List Value) (ms:List Int):Prop where
 ol:w.ownsRow 0 24 1 lv ls.length ls
 om:w.ownsRow 0 3 1 mv ms.length (aH ms)
 len:ls.length=ms.length
 all:∀(i:Nat) v m,ls[i]?=some v->ms[i]?=some m->fv w v m
 apart:∀v b,v∈ls->v.ownBlock=some b->mv.ownBlock≠some b/\¬Z b/\b<w.heap.size
 mw:∀b,mv.ownBlock=some b->¬Z b
 small:∀v,v∈ls->∃p n c,v=.slice p n c/\n<=1000
def r_(lb rb:Nat)(lv mv:Value):Array Value:=#[.pk lb 0,.pk rb 0,lv,mv]
theorem qW{base:Nat}{e:TypeId}(h:w.ownsRow base e 1 v n xs)(hb:v.ownBlock=some b):b<w.heap.size:=by
 rcases h.2 with⟨rfl,_⟩|⟨g,cap,cur,rfl,_,h2,_⟩
 .cases hb
 .cases hb;exact ar h2
section
variable{Z:Nat->Prop}{rb:Nat}{mv:Value}
theorem Ls.keep(h:Ls w Z lv mv ls ms)(hx:Ex X w w')(hi:∀b cs fr,w.heap[b]?=some (.cells cs 3 fr)->¬X b\/Z b)(hl:∀b cs fr,w.heap[b]?=some (.cells cs 24 fr)->¬X b):Ls w' Z lv mv ls ms:=by
 refine⟨fE h.ol λc o hc ho=>?_,fE h.om λc o hc ho=>?_,h.len,λi v m h1 h2=>(h.all i v m h1 h2).keep λb o hb ho=>?_,λv b h1 h2=>⟨(h.apart v b h1 h2).1,(h.apart v b h1 h2).2.1,Nat.lt_of_lt_of_le (h.apart v b h1 h2).2.2 hx.size⟩,h.mw,h.small⟩
 .rcases h.ol.2 with⟨e,_⟩|⟨g,cap,cur,e,_,e2,_⟩
  .rw[e]at hc;cases hc
  .rw[e]at hc;cases hc;exact hx.at (hl _ _ _ e2) ho
 .rcases h.om.2 with⟨e,_⟩|⟨g,cap,cur,e,_,e2,_⟩
  .rw[e]at hc;cases hc
  .have hm:=h.mw;rw[e]at hc hm;cases hc;exact hx.at ((hi _ _ _ e2).resolve_right (hm _ rfl)) ho
 .exact hx.at ((hi _ _ _ ho).resolve_right (h.apart v b (List.mem_of_getElem? h1) hb).2.1) ho
theorem Ls.below(h:Ls w Z lv mv ls ms)(hb:Bw w w'):Ls w' Z lv mv ls ms:=h.keep (ai (X:=λ_=>False) hb) (λ_ _ _ _=>.inl λe=>e) λ_ _ _ _ e=>e
end
section
variable{o:Oper}{y:Operand}
theorem HA(QH:o.op=.fieldAddr 60 x 0)(hx:ev x=.pk b 0):(execOp ev o).run prog w=.ok (.value (.pk b 0)) w:=by
 have e:execOp ev o=(do pure (.value (←Instr.fieldAt 60 (.pk b 0) 0))):=by simp only[execOp,QH,hx]
 have h2:(do pure (.value (←Instr.fieldAt 60 (.pk b 0) 0)):Sem Next).run prog w=.ok (.value (.pk b 0)) w:=by kernel_rfl
 rw[e,h2]
theorem Hz(QH:o.op=.fieldAddr 60 x 1)(hx:ev x=.pk b 0):(execOp ev o).run prog w=.ok (.value (.pk b 1)) w:=by
 have e:execOp ev o=(do pure (.value (←Instr.fieldAt 60 (.pk b 0) 1))):=by simp only[execOp,QH,hx]
 have h2:(do pure (.value (←Instr.fieldAt 60 (.pk b 0) 1)):Sem Next).run prog w=.ok (.value (.pk b 1)) w:=by kernel_rfl
 rw[e,h2]
theorem Hy(QH:o.op=.fieldAddr 60 x 2)(hx:ev x=.pk b 0):(execOp ev o).run prog w=.ok (.value (.pk b 2)) w:=by
 have e:execOp ev o=(do pure (.value (←Instr.fieldAt 60 (.pk b 0) 2))):=by simp only[execOp,QH,hx]
 have h2:(do pure (.value (←Instr.fieldAt 60 (.pk b 0) 2)):Sem Next).run prog w=.ok (.value (.pk b 2)) w:=by kernel_rfl
 rw[e,h2]
theorem Hw(QH:o.op=.fieldAddr 60 x 3)(hx:ev x=.pk b 0):(execOp ev o).run prog w=.ok (.value (.pk b 3)) w:=by
 have e:execOp ev o=(do pure (.value (←Instr.fieldAt 60 (.pk b 0) 3))):=by simp only[execOp,QH,hx]
 have h2:(do pure (.value (←Instr.fieldAt 60 (.pk b 0) 3)):Sem Next).run prog w=.ok (.value (.pk b 3)) w:=by kernel_rfl
 rw[e,h2]
theorem Eh:xj prog 58:=λw=>⟨by kernel_rfl,by kernel_rfl⟩
theorem I5:xj prog 56:=λw=>⟨by kernel_rfl,by kernel_rfl⟩
theorem I4:xj prog 57:=λw=>⟨by kernel_rfl,by kernel_rfl⟩
theorem HX{m:Int}(QH:o.op=.buildSlice 24 2 #[(0,x),(1,y)])(hx:ev x=.int .i64 m)(hy:ev y=.int .i64 m):(execOp ev o).run prog w=.ok (.value (.sk w.heap.size 2 2)) (w.alloc (.cells #[.int .i64 m,.int .i64 m] 3)):=by
 have e:execOp ev o=(do pure (.value (←Instr.buildSlice 24 2 #[(0,.int .i64 m),(1,.int .i64 m)]))):=by simp[execOp,QH,hx,hy]
 have h2:(do pure (.value (←Instr.buildSlice 24 2 #[(0,.int .i64 m),(1,.int .i64 m)])):Sem Next).run prog w=.ok (.value (.sk w.heap.size 2 2)) (w.alloc (.cells #[.int .i64 m,.int .i64 m] 3)):=by kernel_rfl
 rw[e,h2]
theorem HW{z:Operand}{m:Int}(QH:o.op=.buildSlice 24 3 #[(0,x),(1,y),(2,z)])(hx:ev x=.int .i64 m)(hy:ev y=.int .i64 m)(hz:ev z=.int .i64 m):(execOp ev o).run prog w=.ok (.value (.sk w.heap.size 3 3)) (w.alloc (.cells #[.int .i64 m,.int .i64 m,.int .i64 m] 3)):=by
 have e:execOp ev o=(do pure (.value (←Instr.buildSlice 24 3 #[(0,.int .i64 m),(1,.int .i64 m),(2,.int .i64 m)]))):=by simp[execOp,QH,hx,hy,hz]
 have h2:(do pure (.value (←Instr.buildSlice 24 3 #[(0,.int .i64 m),(1,.int .i64 m),(2,.int .i64 m)])):Sem Next).run prog w=.ok (.value (.sk w.heap.size 3 3)) (w.alloc (.cells #[.int .i64 m,.int .i64 m,.int .i64 m] 3)):=by kernel_rfl
 rw[e,h2]
theorem HV{z u:Operand}{m:Int}(QH:o.op=.buildSlice 24 4 #[(0,x),(1,y),(2,z),(3,u)])(hx:ev x=.int .i64 m)(hy:ev y=.int .i64 m)(hz:ev z=.int .i64 m)(hu:ev u=.int .i64 m):(execOp ev o).run prog w=.ok (.value (.sk w.heap.size 4 4)) (w.alloc (.cells #[.int .i64 m,.int .i64 m,.int .i64 m,.int .i64 m] 3)):=by
 have e:execOp ev o=(do pure (.value (←Instr.buildSlice 24 4 #[(0,.int .i64 m),(1,.int .i64 m),(2,.int .i64 m),(3,.int .i64 m)]))):=by simp[execOp,QH,hx,hy,hz,hu]
 have h2:(do pure (.value (←Instr.buildSlice 24 4 #[(0,.int .i64 m),(1,.int .i64 m),(2,.int .i64 m),(3,.int .i64 m)])):Sem Next).run prog w=.ok (.value (.sk w.heap.size 4 4)) (w.alloc (.cells #[.int .i64 m,.int .i64 m,.int .i64 m,.int .i64 m] 3)):=by kernel_rfl
 rw[e,h2]
theorem HU{z u:Operand}{p1 p2 p3 p4:Option Addr}{n1 n2 n3 n4 q1 q2 q3 q4:Nat}(QH:o.op=.buildSlice 58 4 #[(0,x),(1,y),(2,z),(3,u)])(hx:ev x=.slice p1 n1 q1)(hy:ev y=.slice p2 n2 q2)(hz:ev z=.slice p3 n3 q3)(hu:ev u=.slice p4 n4 q4):(execOp ev o).run prog w=.ok (.value (.sk w.heap.size 4 4)) (w.alloc (.cells #[.slice p1 n1 q1,.slice p2 n2 q2,.slice p3 n3 q3,.slice p4 n4 q4] 24)):=by
 have e:execOp ev o=(do pure (.value (←Instr.buildSlice 58 4 #[(0,.slice p1 n1 q1),(1,.slice p2 n2 q2),(2,.slice p3 n3 q3),(3,.slice p4 n4 q4)]))):=by simp[execOp,QH,hx,hy,hz,hu]
 have h2:(do pure (.value (←Instr.buildSlice 58 4 #[(0,.slice p1 n1 q1),(1,.slice p2 n2 q2),(2,.slice p3 n3 q3),(3,.slice p4 n4 q4)])):Sem Next).run prog w=.ok (.value (.sk w.heap.size 4 4)) (w.alloc (.cells #[.slice p1 n1 q1,.slice p2 n2 q2,.slice p3 n3 q3,.slice p4 n4 q4] 24)):=by kernel_rfl
 rw[e,h2]
end
theorem ol{p:Prop}(h:p:=by
 first
 |exact og
 |exact HA ho gx
 |exact Hz ho gx
 |exact Hy ho gx
 |exact Hw ho gx
 |exact(an (by first|exact Eh|exact I5|exact I4) ho gx ((ak (by assumption) _).trans rfl)).1
 |exact eY (ty:=58) (e:=24) k_ ho gx):p:=h
section
variable{C:iJ}{b:Frame}{k:List Item}
theorem aB(hF:ay F N ds a)(next:∀a',ay ((d,v)::F) N ds a'->Rn C Goal (b.atR a' (.inRegion ops rest::k')) cs w)(h0:eI 6 (b.atR a k)=.inRegion ops (m::rest)::k':=by rfl)
 (h:(ops[m]?).map (λo=>(o.dst,o.op,o.guard))=some (some d,p,gd):=by rfl) (hw:gV ops F gd=some true:=by rfl) (hy:∀o:Oper,o.op=p->(execOp a.eval o).run C.P w=.ok (.value v) w:=by intro o ho;exact ol) (hd:d<N:=by decide) (QT:nd p=true:=by rfl) (ok:kE C.P a.eval p:=by exact nG):Rn C Goal (b.atR a k) cs w:=Rn.gr (Rn.qq hF next h hw hy hd QT ok) h0
end
section
variable{C:iJ}{W:World}{Q:Act->WP}{M:List (Nat×WP)}
theorem gK(next:Gx C ops W N n df Q (m+1) ((d,v)::F) M)(h:Is ops m d p gd:=by rfl)(hw:gV ops F gd=some true:=by rfl)(RQ:rU ops (kD ops n m) gd=true:=by kernel_rfl)(y:∀(o:Oper) (a:Act) (w:World),o.op=p->At ops W n m F M a w->(execOp a.eval o).run C.P w=.ok (.value v) w:=by intro o a w ho z;have hC:=z.b;exact ol)(ok:∀(a:Act) (w:World),At ops W n m F M a w->kE C.P a.eval p:=by intro a w z;exact nG):Gx C ops W N n df Q m F M:=Gx.q next h hw RQ y ok
end

section
variable{Z:Nat->Prop}{rb g:Nat}{mv:Value}
theorem Ls.apartG(h:Ls w Z lv mv ls ms)(hx:Ex X w w')(hl:∀b,lv.ownBlock=some b->¬X b)(hm:∀b,mv.ownBlock=some b->¬X b)(UB:∀v b,v∈ls->v.ownBlock=some b->¬X b):Ls w' Z lv mv ls ms:=
 ⟨fE h.ol λc _ hc ho=>hx.at (hl c hc) ho,fE h.om λc _ hc ho=>hx.at (hm c hc) ho,h.len,λi v m h1 h2=>(h.all i v m h1 h2).keep λb _ hb ho=>hx.at (UB v b (List.mem_of_getElem? h1) hb) ho,λv b h1 h2=>⟨(h.apart v b h1 h2).1,(h.apart v b h1 h2).2.1,Nat.lt_of_lt_of_le (h.apart v b h1 h2).2.2 hx.size⟩,h.mw,h.small⟩
end
theorem FO{base q k bytes:Nat}{t e:TypeId}{z v':Value}{L news:List Value}(ht:prog.underlying t=some (.slice e))(hi:(prog.info? e).map (λi=>(i.zero,i.size,i.bytes))=some (some z,1,bytes))(Ra:w.ownsRow base e 1 v n L)(hg:∀j u,news[j]?=some u->w.cell? (ad.add j)=some u)(h1:∀u∈news,u.oneCell'=true)(hm:news.length=m)(hm0:0<m)(hx:ev (.tmp k)=v)(hy:ev (.tmp j)=.slice (some ad) m q)(hn:n+m<=maxLen)(Wm:(n+m)*bytes<=140737488355328){o:Oper}(QH:o.op=.call {callee:=.builtin .append,args:=#[.tmp k,.tmp j],argTypes:=#[t,t]})(Q_:(execOp ev o).run prog w=.ok (.value v') w'):∀b,v'.ownBlock=some b->v.ownBlock=some b\/b=w.heap.size:=by
 obtain⟨i,hi,Ss⟩:=Option.map_eq_some_iff.1 hi;simp only[Prod.mk.injEq]at Ss;have ex:execOp ev o=(do pure (.value (←Builtin.append_ #[t,t] o.type #[v,.slice (some ad) m q]))):=by simp[execOp,QH,resolve,hx,hy,invoke,builtin]
 rw[ex]at Q_;have fin:∀{v2:Value} {w2:World},(Builtin.append_ #[t,t] o.type #[v,.slice (some ad) m q]).run prog w=.ok v2 w2->v2=v':=λh=>by
  rw[jK h]at Q_;injection Q_ with h1 _;injection h1
 unfold maxLen at hn;rcases Ra.2 with⟨rfl,rfl⟩|⟨g,cap,cur,rfl,_,h2,h3,h4,h5,h6⟩
 .have:=fin (run_append_nil (P:=prog) w t o.type e i z ht hi Ss.1 ad m q news (by rw[Ss.2.1];omega) hg o_ o_ (by rw[Ss.2.2];simp only[Nat.zero_add]at Wm;omega));subst this;intro b hb;cases hb;exact .inr rfl
 .by_cases Ux:n+m<=cap
  .have:=fin (run_append_room (P:=prog) w t o.type e i ht hi g n cap cur h2 ad m q news (by rw[Ss.2.1];omega) hg h1 Ux (by rw[Ss.2.1];omega));subst this;intro b hb;exact .inl hb
  .have:=fin (run_append_grow (P:=prog) w t o.type e i z ht hi Ss.1 ⟨g,0,none⟩ n cap L (by rw[Ss.2.1];exact Ra.1) (Ra.cells (g:=g) rfl) ad m q news (by rw[Ss.2.1];omega) hg o_ o_ (growslice_fits o_ (by rw[Ss.2.2];exact Wm)));subst this;intro b hb;cases hb;exact .inr rfl
theorem He{o:Oper}{y:Operand}{u:TypeId}(hn:n<1000000000000)(QH:o.op=.binOp .sub 3 x y u)(hx:ev x=.int .i64 (-1000))(hy:ev y=.int .i64 n):(execOp ev o).run prog w=.ok (.value (.int .i64 (-1000-(n:Int)))) w:=by
 have e:IntKind.i64.wrap (-1000-(n:Int))= -1000-(n:Int):=by rw[IntKind.wrap_i64];omega
 simp[execOp,QH,hx,hy,go_sem,e]
def LB(f:Func):Code:=.seq (.seq (rG f 2) (.cond (.tmp 18) .skip (.exit 0))) (.seq (.block 1 (rG f 4)) (rG f 3))
def Lu(f:Func):Code:=.seq (rG f 5) (.seq (rG f 6) (.seq (rG f 7) (.seq (rG f 8) (rG f 9))))
theorem Mo:f62.body=some (.seq (rG f62 0) (.seq (.seq (rG f62 1) (.block 0 (.loop (LB f62)))) (Lu f62))):=by kernel_rfl
section
variable{Z:Nat->Prop}{rb g cap:Nat}{mv:Value}{m:Int}{p0:Value}
theorem Be(h85:85<=cap)(hcm:cap<=maxLen)(nt:∀a w,pD w g 85 cap m->Ex (· =g) w0 w->ay [(0,p0),(1,.sk g 85 cap),(4,.int .i64 m)] 66 [] a->Rn kX Goal ((base 62).atR a [.code (Lu f62)]) cs w):
 ∀(q i:Nat) (w:World) (a:Act),85- i=q->i<=85->(∃cur:Array Value,w.heap[g]?=some (.cells cur 3)/\cur.size=cap/\∀j:Nat,j<i->cur[j]?=some (Value.int .i64 m))->Ex (· =g) w0 w->ay [(0,p0),(1,.sk g 85 cap),(4,.int .i64 m),(5,.int .i64 i)] 66 [] a->Rn kX Goal ((base 62).atR a [.code (LB f62),.inLoop (LB f62),.inBlock 0,.code (Lu f62)]) cs w:=by
 intro q;induction q with
 |zero=>
  intro i w a hq hi hc hx hF;obtain⟨cur,h1,h2,h3⟩:=hc
  iterate 4 refine bP hF λa hF=>?_
  refine Rn.plain rfl (Rn.cond _ (hF.g 18) ?_);rw[decide_eq_false o_];exact Rn.plain rfl (nt _ _ ⟨cur,h1,h85,hcm,h2,λj hj=>h3 j o_⟩ hx (hF.only ⟨rfl,rfl,rfl,trivial⟩))
 |succ q ih=>
  intro i w a hq hi hc hx hF;obtain⟨cur,h1,h2,h3⟩:=hc
  iterate 4 refine bP hF λa hF=>?_
  refine Rn.plain rfl (Rn.cond _ (hF.g 18) ?_);rw[decide_eq_true o_]
  iterate 3 refine bP hF λa hF=>?_
  refine af hF (λo ho=>bS (t:=24) i k_ ho (hF.g 21) (hF.g 22) o_) λa hF=>?_;rw[Nat.zero_add]at hF;refine aM hF (λo ho=>cI (v:=.int .i64 m) rfl rfl k_ ho (hF.g 24) (hF.g 23) h1 o_) λa hF=>?_;refine bP hF λa hF=>?_;refine af hF (λo ho=>aI (n:=1) ho (hF.g 19) rfl o_) λa hF=>?_;refine bP hF λa hF=>?_;refine Rn.plain rfl (Rn.plain rfl (ih (i+1) _ _ o_ o_ ⟨_,aW h1,by simpa using h2,λj hj=>?_⟩ (hx.trans (bE _ _ _) λ_ _ e=>e) (hF.only ⟨rfl,rfl,rfl,rfl,trivial⟩)));rw[Array.getElem?_setIfInBounds];by_cases e:i=j
  .rw[if_pos e,if_pos o_]
  .rw[if_neg e];exact h3 j o_
theorem Df{W:List Int}(hp:w.heap[pb]?=some (.cells (r_ lb rb lv mv) 60))(hL:Ls w Z lv mv ls ms)(V6:ms.length<=1000000000)(ho:w.ownsRow 0 3 1 (.sk g 85 cap) 85 (aH W))(hgm:mv.ownBlock≠some g)(hwb:∀b,Z b->b<w.heap.size)(hgw:¬Z g)(Xh:∀v,v∈ls->v.ownBlock≠some g):
 Cl kX 62 #[.pk pb 0,.sk g 85 cap] w λe w'=>e=.returned (.tuple #[])/\∃TV TU Uh Ug,w'.heap[pb]?=some (.cells (r_ lb rb TV TU) 60)/\Ls w' Z TV TU Uh Ug/\Ug.length=ms.length+4/\(∀b,TV.ownBlock=some b->lv.ownBlock=some b\/w.heap.size<=b)/\(∀b,TU.ownBlock=some b->mv.ownBlock=some b\/w.heap.size<=b)/\(∀v b,v∈Uh->v.ownBlock=some b->v∈ls\/b=g\/w.heap.size<=b)/\Ex (λb=>b=pb\/b=g\/lv.ownBlock=some b\/mv.ownBlock=some b) w w':=by
 refine fg func62 rfl λcs=>?_;refine bm (N:=66) func62 Mo λa hF=>?_;obtain⟨pm,cm,emv⟩:=kA hL.om;obtain⟨plv,PM,elv⟩:=kA hL.ol;obtain⟨hg,Sa⟩:(∃cur:Array Value,w.heap[g]?=some (.cells cur 3)/\cur.size=cap)/\85<=cap/\cap<=maxLen:=by
  rcases ho.2 with⟨e,_⟩|⟨g',cap',cur,e,_,e2,e3,e4,e5,_⟩
  .cases e
  .cases e;exact⟨⟨cur,e2,by omega⟩,e3,e4⟩
 obtain⟨gc,hgc,hgz⟩:=hg;have npg:pb≠g:=λe=>by
  rw[e,hgc]at hp;injection hp with hp;injection hp with _ hp;cases hp
 have nlg:∀{e:TypeId} {v:Value} {n:Nat} {xs:List Value} {b:Nat} {c:Array Value} {t:TypeId},w.ownsRow 0 e 1 v n xs->w.heap[b]?=some (.cells c t)->t≠e->v.ownBlock≠some b:=λh1 h2 h3 e=>eL h1 h2 h3 e.symm;have lpb:=nlg hL.ol hp d_;have mpb:=nlg hL.om hp d_;have lg:=nlg hL.ol hgc d_;have gsz:=ar hgc;have psz:=ar hp;rw[emv]at hp
 iterate 4 refine aB hF λa hF=>?_
 refine aB hF λa hF=>?_;refine af hF (λo ho=>He (n:=ms.length) o_ ho rfl (hF.get (d:=13) rfl)) λa hF=>?_
 iterate 2 refine aB hF λa hF=>?_
 generalize-1000-(ms.length:Int)=m at hF;refine Rn.plain rfl (Rn.plain rfl (Rn.plain rfl ?_));refine Be (g:=g) (w0:=w) Sa.1 Sa.2 (λa w1 F1 x1 hF=>?_) 85 0 w _ rfl o_ ⟨gc,hgc,hgz,λj hj=>by omega⟩ Ex.refl (hF.only ⟨rfl,rfl,rfl,rfl,trivial⟩);have hp1:=x1.at npg hp;have L1:=hL.apartG x1 (λb hb e=>lg (e▸hb)) (λb hb e=>hgm (e▸hb)) (λv b h1 h2 e=>Xh v h1 (e▸h2));have A1:=F1.is;have s1:=x1.size
 iterate 2 refine aB hF λa hF=>?_
 refine bl hF (λo ho=>kw ho (hF.get (d:=26) rfl)) λw2 a b2 c2 z2 hF=>?_;have up2:∀u,fv w1 u m->fv w2 u m:=λu hu=>hu.keep λb o _ ho=>bk b2 ho;have F2:pD w2 g 85 cap m:=let ⟨c,h1,h2⟩:=F1;⟨c,bk b2 h1,h2⟩
 refine dF hF (λo QH=>uJ (r:=1) F2 (λi hi=>by
  rcases(by omega:i=0)with rfl;rw[Addr.add_mid,ak c2];rfl) o_ (hF.get (d:=25) rfl) (hF.get (d:=27) rfl) o QH) λva w3 ⟨Aa,⟨ba,ea,na,la⟩,⟨pa,qa,ea'⟩,F3,up3,x3⟩ a hF=>?_
 subst ea'
 iterate 4 refine aB hF λa hF=>?_
 refine bl hF (λo ho=>HX ho (hF.get (d:=30) rfl) (hF.get (d:=31) rfl)) λw4 a b4 c4 z4 hF=>?_;have up4:∀u,fv w3 u m->fv w4 u m:=λu hu=>hu.keep λb o _ ho=>bk b4 ho;have F4:pD w4 g 85 cap m:=let ⟨c,h1,h2⟩:=F3;⟨c,bk b4 h1,h2⟩
 refine dF hF (λo QH=>uJ (r:=2) F4 (λi hi=>by
  rcases(by omega:i=0\/i=1)with rfl|rfl<;>(rw[Addr.add_mid,ak c4];rfl)) o_ (hF.get (d:=29) rfl) (hF.get (d:=32) rfl) o QH) λvb w5 ⟨Ab,⟨bb,eb,nb,lb'⟩,⟨XA,qb,eb'⟩,F5,up5,x5⟩ a hF=>?_
 subst eb'
 iterate 5 refine aB hF λa hF=>?_
 refine bl hF (λo ho=>HW ho (hF.get (d:=35) rfl) (hF.get (d:=36) rfl) (hF.get (d:=37) rfl)) λw6 a b6 c6 z6 hF=>?_;have up6:∀u,fv w5 u m->fv w6 u m:=λu hu=>hu.keep λb o _ ho=>bk b6 ho;have F6:pD w6 g 85 cap m:=let ⟨c,h1,h2⟩:=F5;⟨c,bk b6 h1,h2⟩
 refine dF hF (λo QH=>uJ (r:=3) F6 (λi hi=>by
  rcases(by omega:i=0\/i=1\/i=2)with rfl|rfl|rfl<;>(rw[Addr.add_mid,ak c6];rfl)) o_ (hF.get (d:=34) rfl) (hF.get (d:=38) rfl) o QH) λvd w7 ⟨Ad,⟨bd,ed,nd,ld⟩,⟨pd,qd,ed'⟩,F7,up7,x7⟩ a hF=>?_
 subst ed';have z3:=x3.size;have z5:=x5.size;have z7:=x7.size;have X7:Ex (· =g) w w7:=(((((x1.trans (ai (X:=(· =g)) b2) λ_ _ e=>e).trans x3 λ_ _ e=>e).trans (ai (X:=(· =g)) b4) λ_ _ e=>e).trans x5 λ_ _ e=>e).trans (ai (X:=(· =g)) b6) λ_ _ e=>e).trans x7 λ_ _ e=>e;have L7:=hL.apartG X7 (λb hb e=>lg (e▸hb)) (λb hb e=>hgm (e▸hb)) (λv b h1 h2 e=>Xh v h1 (e▸h2));have hp7:=X7.at npg hp;have A7:fv w7 (.sk g 85 cap) m:=F7.is;have Aa7:fv w7 (.slice pa (85+1) qa) m:=up7 _ (up6 _ (up5 _ (up4 _ Aa)));have Ab7:fv w7 (.slice XA (85+2) qb) m:=up7 _ (up6 _ Ab)
 iterate 6 refine aB hF λa hF=>?_
 iterate 4 refine aB hF λa hF=>?_
 refine bl hF (λo ho=>HU ho (hF.get (d:=45) rfl) (hF.get (d:=46) rfl) (hF.get (d:=47) rfl) (hF.get (d:=48) rfl)) λw8 a b8 c8 z8 hF=>?_;have L8:=L7.below b8;have hp8:=bk b8 hp7;have up8:∀u,fv w7 u m->fv w8 u m:=λu hu=>hu.keep λb o _ ho=>bk b8 ho;have nw:∀(j:Nat) u,([.sk g 85 cap,.slice pa (85+1) qa,.slice XA (85+2) qb,.slice pd (85+3) qd]:List Value)[j]?=some u->w8.cell? ((⟨w7.heap.size,0,none⟩:Addr).add j)=some u:=λj u hu=>by
  rw[Addr.add_mid,Nat.zero_add,ak c8];simpa using hu
 refine dF (R:=λv' w'=>w'.ownsRow 0 24 1 v' (ls.length+4) (ls++[.sk g 85 cap,.slice pa (85+1) qa,.slice XA (85+2) qb,.slice pd (85+3) qd])/\w8.grownBy w' lv.ownBlock/\∀b,v'.ownBlock=some b->lv.ownBlock=some b\/b=w8.heap.size) hF (λo QH e'=>by
  obtain⟨v',w',r1,r2,_,r4⟩:=kP (t:=58) (z:=.slice none 0 0) (bytes:=24) (m:=4) (q:=4) k_ k_ rfl L8.ol nw (by simp[Value.oneCell']) rfl (hF.get (d:=44) rfl) (hF.get (d:=49) rfl) (by unfold maxLen;have:=hL.len;omega) (by have:=hL.len;omega) (Nat.zero_le _) o QH e';exact⟨v',w',r1,r2,r4,FO (w:={w8 with drawn:=e'}) (t:=58) (z:=.slice none 0 0) (bytes:=24) (m:=4) (q:=4) k_ k_ L8.ol nw (by simp[Value.oneCell']) rfl o_ (hF.get (d:=44) rfl) (hF.get (d:=49) rfl) (by unfold maxLen;have:=hL.len;omega) (by have:=hL.len;omega) QH r1⟩) λv9 w9 ⟨o9,g9,k9⟩ a hF=>?_
 obtain⟨p9,q9,rfl⟩:=kA o9;have hp9:=(g9.block pb (ar hp8) (eL L8.ol hp8 d_)).trans hp8;have up9:∀u,fv w8 u m->fv w9 u m:=λu hu=>hu.keep λb o _ ho=>(g9.block b (ar ho) (eL L8.ol ho d_)).trans ho
 iterate 2 refine aB hF λa hF=>?_
 refine aM hF (λo ho=>cI rfl rfl k_ ho (hF.get (d:=52) rfl) (hF.get (d:=50) rfl) hp9 (by decide:2<4)) λa hF=>?_;rw[show(r_ lb rb lv (.slice pm ms.length cm)).setIfInBounds 2 (.slice p9 (ls.length+4) q9)=r_ lb rb (.slice p9 (ls.length+4) q9) (.slice pm ms.length cm)from rfl];have o10:=eB (ds:=r_ lb rb (.slice p9 (ls.length+4) q9) (.slice pm ms.length cm)) o9 hp9 d_;have om9:=lr (emv▸L8.om) L8.ol d_ g9;have XD:=eB (ds:=r_ lb rb (.slice p9 (ls.length+4) q9) (.slice pm ms.length cm)) om9 hp9 d_;have XT:=aW (cs:=r_ lb rb (.slice p9 (ls.length+4) q9) (.slice pm ms.length cm)) (t:=60) hp9;have x10:=bE (w:=w9) pb (r_ lb rb (.slice p9 (ls.length+4) q9) (.slice pm ms.length cm)) 60;have nint:∀{b:Nat} {c:Array Value},w9.heap[b]?=some (.cells c 3)->¬b=pb:=λhb e=>by
  rw[e,hp9]at hb;injection hb with hb;injection hb with _ hb;cases hb
 have Wa:∀(i:Nat) v m',ls[i]?=some v->ms[i]?=some m'->fv (put w9 pb (r_ lb rb (.slice p9 (ls.length+4) q9) (.slice pm ms.length cm)) 60) v m':=λi v m' h1 h2=>((L8.all i v m' h1 h2).keep λb o _ ho=>(g9.block b (ar ho) (eL L8.ol ho d_)).trans ho).keep λb o _ ho=>x10.at (nint ho) ho;have UH:∀u,fv w9 u m->fv (put w9 pb (r_ lb rb (.slice p9 (ls.length+4) q9) (.slice pm ms.length cm)) 60) u m:=λu hu=>hu.keep λb o _ ho=>x10.at (nint ho) ho;have z9:=g9.size;have z10:=x10.size;have X10:Ex (λb=>b=pb\/b=g\/lv.ownBlock=some b\/mv.ownBlock=some b) w (put w9 pb (r_ lb rb (.slice p9 (ls.length+4) q9) (.slice pm ms.length cm)) 60):=(((Ex.wide X7 λb _ e=>.inr (.inl e)).trans (ai (X:=λ_=>False) b8) λ_ _ e=>e.elim).trans (⟨g9.os,g9.output,g9.tape,g9.size,λb hb hx=>g9.block b hb λe=>hx e.symm⟩:Ex (λb=>lv.ownBlock=some b) w8 w9) λb _ e=>.inr (.inr (.inl e))).trans x10 λb _ e=>.inl e;revert o10 XD XT Wa UH z10 X10;generalize put w9 pb (r_ lb rb (.slice p9 (ls.length+4) q9) (.slice pm ms.length cm)) 60=V1;intro o10 XD XT Wa UH z10 X10
 iterate 5 refine aB hF λa hF=>?_
 iterate 4 refine aB hF λa hF=>?_
 refine bl hF (λo ho=>HV ho (hF.get (d:=58) rfl) (hF.get (d:=59) rfl) (hF.get (d:=60) rfl) (hF.get (d:=61) rfl)) λXy a Yr UG z11 hF=>?_;have XC:=b_ XD Yr;have hp11:=bk Yr XT;have nw2:∀(j:Nat) u,(aH [m,m,m,m])[j]?=some u->Xy.cell? ((⟨V1.heap.size,0,none⟩:Addr).add j)=some u:=λj u hu=>by
  rw[Addr.add_mid,Nat.zero_add,ak UG];simpa[aH]using hu
 refine dF (R:=λv' w'=>w'.ownsRow 0 3 1 v' (ms.length+4) (aH ms++aH [m,m,m,m])/\Xy.grownBy w' mv.ownBlock/\∀b,v'.ownBlock=some b->mv.ownBlock=some b\/b=Xy.heap.size) hF (λo QH e'=>by
  obtain⟨v',w',r1,r2,_,r4⟩:=kP (t:=24) (z:=.int .i64 0) (bytes:=8) (m:=4) (q:=4) k_ k_ rfl XC nw2 (iH _) rfl (hF.get (d:=57) rfl) (hF.get (d:=62) rfl) (by unfold maxLen;omega) o_ (Nat.zero_le _) o QH e';rw[←emv]at r4;refine⟨v',w',r1,r2,r4,?_⟩;have:=FO (w:={Xy with drawn:=e'}) (t:=24) (z:=.int .i64 0) (bytes:=8) (m:=4) (q:=4) k_ k_ XC nw2 (iH _) rfl o_ (hF.get (d:=57) rfl) (hF.get (d:=62) rfl) (by unfold maxLen;omega) o_ QH r1;rw[←emv]at this;exact this) λv12 w12 ⟨o12,W9,k12⟩ a hF=>?_
 obtain⟨p12,q12,rfl⟩:=kA o12;have mlt:∀b,mv.ownBlock=some b->b<w.heap.size:=λb hb=>qW hL.om hb;have VL:=(W9.block pb (ar hp11) (λe=>mpb e.symm)).trans hp11
 iterate 2 refine aB hF λa hF=>?_
 refine aM hF (λo ho=>cI rfl rfl k_ ho (hF.get (d:=65) rfl) (hF.get (d:=63) rfl) VL (by decide:3<4)) λa hF=>?_;rw[show(r_ lb rb (.slice p9 (ls.length+4) q9) (.slice pm ms.length cm)).setIfInBounds 3 (.slice p12 (ms.length+4) q12)=r_ lb rb (.slice p9 (ls.length+4) q9) (.slice p12 (ms.length+4) q12)from rfl];have x13:=bE (w:=w12) pb (r_ lb rb (.slice p9 (ls.length+4) q9) (.slice p12 (ms.length+4) q12)) 60;have nint2:∀{b:Nat} {c:Array Value},w12.heap[b]?=some (.cells c 3)->¬b=pb:=λhb e=>by
  rw[e,VL]at hb;injection hb with hb;injection hb with _ hb;cases hb
 have up13:∀u m',(∀b,u.ownBlock=some b->mv.ownBlock≠some b)->fv V1 u m'->fv (put w12 pb (r_ lb rb (.slice p9 (ls.length+4) q9) (.slice p12 (ms.length+4) q12)) 60) u m':=λu m' QQ hu=>by
  refine((hu.keep λb o _ ho=>bk Yr ho).keep λb o hb ho=>?_).keep λb o _ ho=>x13.at (nint2 ho) ho;exact(W9.block b (ar ho) λe=>QQ b hb e.symm).trans ho
 have XE:∀{u:Value} {b:Nat},u∈([.sk g 85 cap,.slice pa (85+1) qa,.slice XA (85+2) qb,.slice pd (85+3) qd]:List Value)->u.ownBlock=some b->(b=g\/w.heap.size<=b)/\b<V1.heap.size:=λ{u b} hu hb=>by
  simp only[List.mem_cons,List.not_mem_nil,or_false]at hu;rcases hu with rfl|rfl|rfl|rfl
  .have hb:some g=some b:=hb;cases hb;exact⟨.inl rfl,by omega⟩
  .rw[ea]at hb;cases hb;exact⟨na.imp id λh=>by omega,by omega⟩
  .rw[eb]at hb;cases hb;exact⟨nb.imp id λh=>by omega,by omega⟩
  .rw[ed]at hb;cases hb;exact⟨nd.imp id λh=>by omega,by omega⟩
 have newm:∀{u:Value} {b:Nat},u∈([.sk g 85 cap,.slice pa (85+1) qa,.slice XA (85+2) qb,.slice pd (85+3) qd]:List Value)->u.ownBlock=some b->mv.ownBlock≠some b:=λ{u b} hu hb e=>by
  have:=mlt b e;rcases(XE hu hb).1 with rfl|h
  .exact hgm e
  .omega
 have newA:∀{u:Value},u∈([.sk g 85 cap,.slice pa (85+1) qa,.slice XA (85+2) qb,.slice pd (85+3) qd]:List Value)->fv V1 u m:=λ{u} hu=>by
  simp only[List.mem_cons,List.not_mem_nil,or_false]at hu;rcases hu with rfl|rfl|rfl|rfl
  .exact UH _ (up9 _ (up8 _ A7))
  .exact UH _ (up9 _ (up8 _ Aa7))
  .exact UH _ (up9 _ (up8 _ Ab7))
  .exact UH _ (up9 _ (up8 _ Ad))
 have z12:=W9.size;have z13:=x13.size;refine tn hF ⟨rfl,_,_,ls++[.sk g 85 cap,.slice pa (85+1) qa,.slice XA (85+2) qb,.slice pd (85+3) qd],ms++[m,m,m,m],aW VL,⟨?_,?_,?_,?_,?_,?_,?_⟩,by simp,λb hb=>(k9 b hb).imp id λh=>by omega,λb hb=>(k12 b hb).imp id λh=>by omega,?_,?_⟩
 .rw[List.length_append];exact eB (lr (b_ o10 Yr) (emv.symm▸XC) d_ W9) VL d_
 .rw[List.length_append,show aH (ms++[m,m,m,m])=aH ms++aH [m,m,m,m]from List.map_append ..];exact eB o12 VL d_
 .rw[List.length_append,List.length_append,hL.len];rfl
 .intro i v m' h1 h2;by_cases hi:i<ls.length
  .rw[List.getElem?_append_left hi]at h1;rw[List.getElem?_append_left (by rw[←hL.len];exact hi)]at h2;exact up13 v m' (λb hb=>(hL.apart v b (List.mem_of_getElem? h1) hb).1) (Wa i v m' h1 h2)
  .rw[List.getElem?_append_right o_]at h1;rw[List.getElem?_append_right (by rw[←hL.len];omega)]at h2;have hv:=List.mem_of_getElem? h1;have hm':m'=m:=by
    have:=List.mem_of_getElem? h2;simpa using this
   rw[hm'];exact up13 v m (λb hb=>newm hv hb) (newA hv)
 .intro v b hv hb;have m12:∀b,b<Xy.heap.size->mv.ownBlock≠some b->(Value.slice p12 (ms.length+4) q12).ownBlock≠some b:=λb h1 h2 e=>(k12 b e).elim h2 λh=>by omega
  rcases List.mem_append.1 hv with hv|hv
  .obtain⟨a1,a2,a3⟩:=hL.apart v b hv hb;exact⟨m12 b o_ a1,a2,by omega⟩
  .obtain⟨a1,a2⟩:=XE hv hb;exact⟨m12 b o_ (newm hv hb),λhz=>a1.elim (λh=>hgw (h▸hz)) λh=>by have:=hwb b hz;omega,by omega⟩
 .exact λb e hz=>(k12 b e).elim (λh=>hL.mw b h hz) λh=>by have:=hwb b hz;omega
 .intro v hv;rcases List.mem_append.1 hv with hv|hv
  .exact hL.small v hv
  .simp only[List.mem_cons,List.not_mem_nil,or_false]at hv;rcases hv with rfl|rfl|rfl|rfl<;>exact⟨_,_,_,rfl,by omega⟩
 .intro v b hv hb;rcases List.mem_append.1 hv with hv|hv
  .exact .inl hv
  .exact .inr (XE hv hb).1
 .exact((X10.trans (ai (X:=λ_=>False) Yr) λ_ _ e=>e.elim).trans (⟨W9.os,W9.output,W9.tape,W9.size,λb hb hx=>W9.block b hb λe=>hx e.symm⟩:Ex (λb=>mv.ownBlock=some b) Xy w12) λb _ e=>.inr (.inr (.inr e))).trans x13 λb _ e=>.inl e
end

def LC(f:Func):Code:=.seq (.seq (rG f 4) (.cond (.tmp 14) .skip (.exit 0))) (.seq (.block 1 (.seq (rD f 6) (.cond (.tmp 25) (.seq (rG f 7) .ret) .skip))) (rG f 5))
def OF(f:Func):Code:=.seq (rG f 8) .ret
theorem Mq:f61.body=some (.seq (rG f61 0) (.seq (.seq (rG f61 1) (.cond (.tmp 10) (.seq (rG f61 2) .ret) .skip)) (.seq (.seq (rG f61 3) (.block 0 (.loop (LC f61)))) (OF f61)))):=by kernel_rfl
section
variable{W:List Int}{va vb:Value}
theorem Bo{pa pb:Option Addr}{qa qb:Nat}(hW:W.length<=1000)(hA:cz w0 (.slice pa W.length qa) (aH W))(hB:cz w0 (.slice pb W.length qb) (aH W))(nt:∀a w I,Bw w0 w->ay [(4,.bool true)] 26 [] a->Rn kX Goal ((base 61).atR a (.code .ret::I)) cs w):
 ∀(q i:Nat) (w:World) (a:Act),W.length- i=q->i<=W.length->Bw w0 w->ay [(0,.slice pa W.length qa),(1,.slice pb W.length qb),(5,.int .i64 i)] 26 [] a->Rn kX Goal ((base 61).atR a [.code (LC f61),.inLoop (LC f61),.inBlock 0,.code (OF f61)]) cs w:=by
 obtain⟨_,_,ea,ca⟩:=hA;obtain⟨_,_,eb,cb⟩:=hB;injection ea with ea;injection eb with eb;subst ea eb;intro q;induction q with
 |zero=>
  intro i w a hq hi hb hF
  iterate 4 refine aB hF λa hF=>?_
  refine Rn.plain rfl (Rn.cond _ (hF.g 14) ?_);rw[decide_eq_false o_];refine aB hF λa hF=>?_;exact Rn.plain rfl (nt _ _ _ hb (hF.only ⟨rfl,trivial⟩))
 |succ q ih=>
  intro i w a hq hi hb hF;have R5:i<W.length:=by omega
  have hu:(aH W)[i]?=some (.int .i64 W[i]):=by simp[aH,R5]
  obtain⟨ada,rfl,da⟩:=ca i _ hu;obtain⟨adb,rfl,db⟩:=cb i _ hu
  iterate 4 refine aB hF λa hF=>?_
  refine Rn.plain rfl (Rn.cond _ (hF.g 14) ?_);rw[decide_eq_true o_];have hF:ay [(0,.slice (some ada) W.length qa),(1,.slice (some adb) W.length qb),(5,.int .i64 i)] 26 [] a:=hF.only ⟨rfl,rfl,rfl,trivial⟩
  iterate 4 refine Rn.plain rfl ?_
  refine bY hF ?_
  iterate 2 refine gK ?_
  refine Gx.q ?_ (y:=λo a w ho z=>(bJ (t:=24) (e:=3) k_ (λw=>by kernel_rfl) ho gx gx R5).1);refine Gx.q ?_ (y:=λo a w ho z=>(an az ho gx (aR z.b (aR hb da))).1)
  iterate 2 refine gK ?_
  refine Gx.q ?_ (y:=λo a w ho z=>(bJ (t:=24) (e:=3) k_ (λw=>by kernel_rfl) ho gx gx R5).1);refine Gx.q ?_ (y:=λo a w ho z=>(an az ho gx (aR z.b (aR hb db))).1);refine gK ?_;rw[show(W[i] !=W[i])=false from by simp];refine Gx.e λa w1 hF b1 _=>?_;refine Rn.cond _ (hF.g 25) ?_;refine aB hF λa hF=>?_;refine af hF (λo ho=>aI (n:=1) ho (hF.g 15) rfl o_) λa hF=>?_;refine aB hF λa hF=>?_;exact Rn.plain rfl (Rn.plain rfl (ih (i+1) w1 _ o_ o_ (ab hb hb.size b1) (hF.only ⟨rfl,rfl,rfl,trivial⟩)))
theorem mr(hW:W.length<=1000)(hA:cz w va (aH W))(hB:cz w vb (aH W)):Cl kX 61 #[va,vb] w λe w'=>e=.returned (.bool true)/\Bw w w':=by
 obtain⟨pa,qa,ea,_⟩:=id hA;obtain⟨pb,qb,eb,_⟩:=id hB;have hl:(aH W).length=W.length:=by simp[aH]
 rw[hl]at ea eb;subst ea eb;refine av (N:=26) func61 Mq λcs a hF=>?_
 iterate 6 refine aB hF λa hF=>?_
 rw[show(((W.length:Nat):Int) !=(W.length:Nat))=false from by simp]at hF;refine Rn.plain rfl (Rn.cond _ (hF.g 10) ?_);refine aB hF λa hF=>?_;exact Rn.plain rfl (Rn.plain rfl (Rn.plain rfl (Bo hW hA hB (λa w' I hb hF=>aL hF ⟨rfl,hb⟩) W.length 0 w _ o_ o_ (Below.refl _ _) (hF.only ⟨rfl,rfl,rfl,trivial⟩))))
end
def LH(f:Func):Code:=.seq (.seq (rG f 5) (.cond (.tmp 23) .skip (.exit 2))) (.seq (.block 3 (.seq (rD f 7) (.cond (.tmp 43) (.seq (rG f 8) .ret) .skip))) (rG f 6))
def LG(f:Func):Code:=.seq (.seq (rG f 2) (.cond (.tmp 11) .skip (.exit 0))) (.seq (.block 1 (.seq (rG f 4) (.block 2 (.loop (LH f))))) (rG f 3))
def OH(f:Func):Code:=.seq (rG f 9) .ret
theorem MM:f26.body=some (.seq (rG f26 0) (.seq (.seq (rG f26 1) (.block 0 (.loop (LG f26)))) (OH f26))):=by kernel_rfl
section
variable{Z:Nat->Prop}{rb:Nat}{mv:Value}
theorem IC{pA:Option Addr}{ql:Nat}{pv:Option Addr}{qv:Nat}{pm:Option Addr}{qm:Nat}{m:Int}{I:List Item}(hp:w0.heap[pb]?=some (.cells (r_ lb rb (.slice pA ls.length ql) (.slice pm ms.length qm)) 60))(hi:i<ls.length)(UO:i<ms.length)(adl adm:Addr)(el:pA=some adl)(em:pm=some adm)(cl:w0.cell? (adl.add i)=some (.slice pv n qv))(cm:w0.cell? (adm.add i)=some (.int .i64 m))(hn:n<=1000)(hA:∀k:Nat,k<n->∃ad,pv=some ad/\w0.cell? (ad.add k)=some (.int .i64 m))
 (nt:∀a w,Bw w0 w->ay [(0,.pk pb 0),(3,.int .i64 i)] 44 [] a->Rn kX Goal ((base 26).atR a (.inBlock 1::I)) cs w):
 ∀(q k:Nat) (w:World) (a:Act),n- k=q->k<=n->Bw w0 w->ay [(0,.pk pb 0),(3,.int .i64 i),(4,.int .i64 k)] 44 [] a->Rn kX Goal ((base 26).atR a (.code (LH f26):: .inLoop (LH f26):: .inBlock 2:: .inBlock 1::I)) cs w:=by
 subst el em;have hd:∀{w:World} {a:Act} {k:Nat} {J:List Item},Bw w0 w->ay [(0,.pk pb 0),(3,.int .i64 i),(4,.int .i64 k)] 44 [] a->(∀a,ay [(23,.bool (decide ((k:Int)<n))),(0,.pk pb 0),(3,.int .i64 i),(4,.int .i64 k)] 44 [] a->Rn kX Goal ((base 26).atR a (.inRegion (bC f26 5) []:: .code (.cond (.tmp 23) .skip (.exit 2))::J)) cs w)->Rn kX Goal ((base 26).atR a (.code (.seq (rG f26 5) (.cond (.tmp 23) .skip (.exit 2)))::J)) cs w:=λ{w a k J} hb hF nx=>by
  have hp':=bk hb hp
  iterate 6 refine aB hF λa hF=>?_
  refine af hF (λo ho=>(bJ (t:=58) (e:=24) k_ (λw=>by kernel_rfl) ho (hF.g 18) (hF.g 19) hi).1) λa hF=>?_;refine af hF (λo ho=>(an ub ho (hF.g 20) (aR hb cl)).1) λa hF=>?_
  iterate 2 refine aB hF λa hF=>?_
  exact nx _ (hF.only ⟨rfl,rfl,rfl,rfl,trivial⟩)
 intro q;induction q with
 |zero=>
  intro k w a hq hk hb hF;refine Rn.plain rfl (hd hb hF λa hF=>?_);refine Rn.plain rfl (Rn.cond _ (hF.g 23) ?_);rw[decide_eq_false o_];exact Rn.plain rfl (nt _ _ hb (hF.only ⟨rfl,rfl,trivial⟩))
 |succ q ih=>
  intro k w a hq hk hb hF;obtain⟨ad,rfl,ck⟩:=hA k o_;have hp':=bk hb hp;refine Rn.plain rfl (hd hb hF λa hF=>?_);refine Rn.plain rfl (Rn.cond _ (hF.g 23) ?_);rw[decide_eq_true o_];have hF:ay [(0,.pk pb 0),(3,.int .i64 i),(4,.int .i64 k)] 44 [] a:=hF.only ⟨rfl,rfl,rfl,trivial⟩
  iterate 4 refine Rn.plain rfl ?_
  refine bY hF ?_
  iterate 3 refine gK ?_
  refine Gx.q ?_ (y:=λo a w ho z=>(an Eh ho gx ((ak (bk z.b hp') 2).trans rfl)).1);refine gK ?_;refine Gx.q ?_ (y:=λo a w ho z=>(bJ (t:=58) (e:=24) k_ (λw=>by kernel_rfl) ho gx gx hi).1);refine Gx.q ?_ (y:=λo a w ho z=>(an ub ho gx (aR z.b (aR hb cl))).1);refine gK ?_;refine Gx.q ?_ (y:=λo a w ho z=>(bJ (t:=24) (e:=3) k_ (λw=>by kernel_rfl) ho gx gx o_).1);refine Gx.q ?_ (y:=λo a w ho z=>(an az ho gx (aR z.b (aR hb ck))).1)
  iterate 3 refine gK ?_
  refine Gx.q ?_ (y:=λo a w ho z=>(an ub ho gx ((ak (bk z.b hp') 3).trans rfl)).1);refine gK ?_;refine Gx.q ?_ (y:=λo a w ho z=>(bJ (t:=24) (e:=3) k_ (λw=>by kernel_rfl) ho gx gx UO).1);refine Gx.q ?_ (y:=λo a w ho z=>(an az ho gx (aR z.b (aR hb cm))).1);refine gK ?_;rw[show(m !=m)=false from by simp];refine Gx.e λa w1 hF b1 _=>?_;refine Rn.cond _ (hF.g 43) ?_;refine aB hF λa hF=>?_;refine af hF (λo ho=>aI (n:=1) ho (hF.g 24) rfl o_) λa hF=>?_;refine aB hF λa hF=>?_;exact Rn.plain rfl (Rn.plain rfl (ih (k+1) w1 _ o_ o_ (ab hb hb.size b1) (hF.only ⟨rfl,rfl,rfl,trivial⟩)))
theorem EO(hp:w0.heap[pb]?=some (.cells (r_ lb rb lv mv) 60))(hL:Ls w0 Z lv mv ls ms)(V6:ms.length<=1000000000)(nt:∀a w I,Bw w0 w->ay [(2,.bool true)] 44 [] a->Rn kX Goal ((base 26).atR a (.code .ret::I)) cs w):
 ∀(q i:Nat) (w:World) (a:Act),ls.length- i=q->i<=ls.length->Bw w0 w->ay [(0,.pk pb 0),(3,.int .i64 i)] 44 [] a->Rn kX Goal ((base 26).atR a [.code (LG f26),.inLoop (LG f26),.inBlock 0,.code (OH f26)]) cs w:=by
 obtain⟨pA,ql,el,cl⟩:=nQ hL.ol;obtain⟨pm,qm,em,cm⟩:=nQ hL.om;rw[show(aH ms).length=ms.length from by simp[aH]]at em;rw[el,em]at hp;have hlen:=hL.len;intro q;induction q with
 |zero=>
  intro i w a hq hi hb hF;have hp':=bk hb hp
  iterate 7 refine aB hF λa hF=>?_
  refine Rn.plain rfl (Rn.cond _ (hF.g 11) ?_);rw[decide_eq_false o_];refine aB hF λa hF=>?_;exact Rn.plain rfl (nt _ _ _ hb (hF.only ⟨rfl,trivial⟩))
 |succ q ih=>
  intro i w a hq hi hb hF;have R5:i<ls.length:=by omega
  have hp':=bk hb hp;obtain⟨adl,al,dl⟩:=cl i ls[i] (List.getElem?_eq_getElem R5);obtain⟨adm,am,dm⟩:=cm i (.int .i64 ms[i]) (by simp[aH,show i<ms.length by omega]);obtain⟨pv,n,qv,ev,hn⟩:=hL.small ls[i] (List.getElem_mem R5);obtain⟨pv',n',qv',ev',hA⟩:=hL.all i ls[i] ms[i] (List.getElem?_eq_getElem R5) (List.getElem?_eq_getElem o_);rw[ev]at ev';injection ev' with e1 e2 e3;subst e1 e2 e3;rw[ev]at dl
  iterate 7 refine aB hF λa hF=>?_
  refine Rn.plain rfl (Rn.cond _ (hF.g 11) ?_);rw[decide_eq_true o_];refine aB hF λa hF=>?_
  iterate 3 refine Rn.plain rfl ?_
  refine IC (w0:=w0) (m:=ms[i]) hp R5 o_ adl adm al am dl dm hn (λk hk=>?_) (λa w1 b1 hF=>?_) n 0 w _ o_ o_ hb (hF.only ⟨rfl,rfl,rfl,trivial⟩)
  .obtain⟨b,cur,h1,h2,h3⟩:=hA k hk;exact⟨_,h1,by rw[Addr.add_mid,Nat.zero_add,ak h2];exact h3⟩
  refine aB hF λa hF=>?_;refine af hF (λo ho=>aI (n:=1) ho (hF.g 12) rfl o_) λa hF=>?_;refine aB hF λa hF=>?_;exact Rn.plain rfl (Rn.plain rfl (ih (i+1) w1 _ o_ o_ b1 (hF.only ⟨rfl,rfl,trivial⟩)))
theorem C2(hp:w.heap[pb]?=some (.cells (r_ lb rb lv mv) 60))(hL:Ls w Z lv mv ls ms)(V6:ms.length<=1000000000):Cl kX 26 #[.pk pb 0] w λe w'=>e=.returned (.bool true)/\Bw w w':=by
 refine av (N:=44) func26 MM λcs a hF=>?_
 iterate 2 refine aB hF λa hF=>?_
 exact Rn.plain rfl (Rn.plain rfl (Rn.plain rfl (EO hp hL V6 (λa w' I hb hF=>aL hF ⟨rfl,hb⟩) ls.length 0 w _ o_ o_ (Below.refl _ _) (hF.only ⟨rfl,rfl,trivial⟩))))
end

def ft(w:World)(b:Nat)(L:List Int):Prop:=∃cur:Array Value,w.heap[b]?=some (.cells cur 3)/\∀(i:Nat) x,L[i]?=some x->cur[i]?=some (Value.int .i64 x)
def Zs(wb hb tb:Nat)(b:Nat):Prop:=b=wb\/b=hb\/b=tb
section
variable{L:List Int}
theorem ft.keep(h:ft w b L)(hx:Ex X w w')(hn:¬X b):ft w' b L:=let ⟨c,h1,h2⟩:=h;⟨c,hx.at hn h1,h2⟩
theorem ft.rng(h:ft w b L):w.rangeAt b 0 (L.map (Value.int .i64)):=λj v hv=>by
 obtain⟨c,h1,h2⟩:=h;rw[List.getElem?_map,Option.map_eq_some_iff]at hv;obtain⟨x,hx,rfl⟩:=hv;rw[Nat.zero_add,ak h1];exact h2 j x hx
theorem ft.lt(h:ft w b L):b<w.heap.size:=let ⟨_,h1,_⟩:=h;ar h1
theorem ft.is(h:ft w b L)(q:Nat):cz w (.sk b L.length q) (aH L):=⟨some ⟨b,0,none⟩,q,by simp[aH],λi u hu=>⟨⟨b,0,none⟩,rfl,by rw[Addr.add_mid];exact h.rng i u hu⟩⟩
end
structure ir (w:World) (pb lb cb fb fq rb fr Rq wb qw kb qk hb hq tb tq:Nat) (KS V K:List Int) (L:ByteArray) (on:Bool) (sl:Int) (up:Bool) (rs:Int) (lv mv:Value) (ls:List Value) (ms:List Int):Prop where
 pr:w.heap[pb]?=some (.cells (r_ lb rb lv mv) 60)
 lin:w.heap[lb]?=some (.cells #[.pk cb 0] 127)
 ch:j7 w cb (.sk fb L.size fq) V K on sl
 fls:kS w (.sk fb L.size fq) L
 ref:w.heap[rb]?=some (.cells (lj (.sk hb 8 hq) (.sk tb 64 tq) (.sk fr L.size Rq) (.sk wb 85 qw) (.sk kb 16 qk) up rs) 107)
 rfs:kS w (.sk fr L.size Rq) L
 wds:ft w wb V
 kpt:tv w kb qk K
 hsh:ft w hb H0
 tab:ft w tb KS
 lst:Ls w (Zs wb hb tb) lv mv ls ms
 nk:kb≠fb/\kb≠fr/\fb≠fr
theorem kS.keepB(h:kS w (.sk fb n fq) L)(hx:Ex X w w')(hn:¬X fb):kS w' (.sk fb n fq) L:=by
 obtain⟨h0,f,c,cells,fr,e,h1,h2,h3⟩:=h;cases e;exact⟨h0,fb,fq,cells,fr,rfl,h1,hx.at hn h2,h3⟩
section
variable{cb rb fr hb:Nat}{V K:List Int}{on:Bool}{up:Bool}{mv:Value}
theorem ir.ex(h:ir w pb lb cb fb fq rb fr Rq wb qw kb qk hb hq tb tq KS V K L on sl up rs lv mv ls ms)(hx:Ex X w w')(hn:¬X lb/\¬X cb/\¬X fb/\¬X rb/\¬X fr/\¬X wb/\¬X kb/\¬X hb/\¬X tb){TV TU:Value}{Uh:List Value}{Ug:List Int}(hp:w'.heap[pb]?=some (.cells (r_ lb rb TV TU) 60))(hl:Ls w' (Zs wb hb tb) TV TU Uh Ug):ir w' pb lb cb fb fq rb fr Rq wb qw kb qk hb hq tb tq KS V K L on sl up rs TV TU Uh Ug:=
 let ⟨n1,n2,n3,n4,n5,n6,n7,n8,n9⟩:=hn
 ⟨hp,hx.at n1 h.lin,h.ch.ex hx n2,h.fls.keepB hx n3,hx.at n4 h.ref,h.rfs.keepB hx n5,h.wds.keep hx n6,h.kpt.keep hx n7,h.hsh.keep hx n8,h.tab.keep hx n9,hl,h.nk⟩
theorem ir.below(h:ir w pb lb cb fb fq rb fr Rq wb qw kb qk hb hq tb tq KS V K L on sl up rs lv mv ls ms)(Sk:Bw w w'):ir w' pb lb cb fb fq rb fr Rq wb qw kb qk hb hq tb tq KS V K L on sl up rs lv mv ls ms:=
 h.ex (ai (X:=λ_=>False) Sk) ⟨λe=>e,λe=>e,λe=>e,λe=>e,λe=>e,λe=>e,λe=>e,λe=>e,λe=>e⟩ (bk Sk h.pr) (h.lst.below Sk)
end
section
variable{o:Oper}
def Eg(k A B D:Int)(p:Option Addr)(n q:Nat):Array Value:=#[.int .i64 k,.int .i64 A,.int .i64 B,.int .i64 D,.slice p n q]
def Qm(k:Int):Array Value:=Eg k 0 0 0 none 0 0
theorem HC(QH:o.op=.fieldAddr 70 x 0)(hx:ev x=.pk b 0):(execOp ev o).run prog w=.ok (.value (.pk b 0)) w:=by
 have e:execOp ev o=(do pure (.value (←Instr.fieldAt 70 (.pk b 0) 0))):=by simp only[execOp,QH,hx]
 have h2:(do pure (.value (←Instr.fieldAt 70 (.pk b 0) 0)):Sem Next).run prog w=.ok (.value (.pk b 0)) w:=by kernel_rfl
 rw[e,h2]
theorem xJ{k:Int}(QH:o.op=.build 70 #[(0,x)])(hx:ev x=.int .i64 k):(execOp ev o).run prog w=.ok (.value (.agg (Qm k))) w:=by
 have e:execOp ev o=(do pure (.value (←Instr.build 70 #[(0,.int .i64 k)]))):=by simp[execOp,QH,hx]
 have h2:(do pure (.value (←Instr.build 70 #[(0,.int .i64 k)])):Sem Next).run prog w=.ok (.value (.agg (Qm k))) w:=by kernel_rfl
 rw[e,h2]
end
def Qk(f:Func):Code:=(.seq (rG f 15) (.cond (.tmp 81) (.seq (rG f 16) (.seq (rG f 17) .ret)) (.seq (rG f 18) (.cond (.tmp 98) (.seq (rG f 19) (.seq (rG f 20) (.seq (rG f 21) (.seq (rG f 22) (.seq (rG f 23) (.seq (rG f 24) (.seq (rG f 25) .ret))))))) (.seq (rG f 26) (.cond (.tmp 138) (.seq (rG f 27) (.seq (rG f 28) .ret)) .skip))))))
def Ql(f:Func):Code:=(.seq (rG f 0) (.seq (.seq (rG f 1) (.block 0 (.seq (rG f 2) (.cond (.tmp 17) (.seq (rG f 3) .ret) (.seq (rG f 4) (.cond (.tmp 23) (.seq (rD f 5) (.seq (rD f 6) (.seq (rG f 7) .ret))) (.seq (rG f 8) (.cond (.tmp 46) (.seq (rD f 9) (.seq (rD f 10) (.seq (rG f 11) .ret))) (.seq (rG f 12) (.cond (.tmp 69) (.seq (rG f 13) (rG f 14)) (Qk f))))))))))) (.seq (rG f 29) .ret)))
theorem zh:f25.body=some (Ql f25):=by kernel_rfl
theorem qS{k A B D:Int}{lp:Option Addr}{lq:Nat}{p0:Value}(hF:ay [(0,p0),(1,.agg (Eg k A B D lp ln lq))] 155 [] a)(hk:k≠1/\k≠2/\k≠3/\k≠4)
 (next:∀a w1,Bw w w1->ay [(0,p0),(16,.int .i64 k)] 155 [] a->Rn kX Goal ((base 25).atR a [.code (Qk f25),.inBlock 0,.code (.seq (rG f25 29) .ret)]) cs w1):
 Rn kX Goal ((base 25).atR a [.code (Ql f25)]) cs w:=by
 refine cW hF λw1 a b1 c1 z1 hF=>?_;refine aB hF λa hF=>?_;refine af hF (λo ho=>HC ho (hF.g 3)) λa hF=>?_;refine af hF (λo ho=>(an az ho (hF.g 15) ((ak c1 0).trans rfl)).1) λa hF=>?_;refine af hF (λo ho=>iP (m:=k) (n:=1) ho (hF.g 16) rfl) λa hF=>?_;rw[show(k==1)=false from by rw[beq_eq_false_iff_ne];omega]at hF;refine aB hF λa hF=>?_;refine Rn.plain rfl (Rn.cond _ (hF.g 17) ?_);refine af hF (λo ho=>iP (m:=k) (n:=2) ho (hF.g 16) rfl) λa hF=>?_;rw[show(k==2)=false from by rw[beq_eq_false_iff_ne];omega]at hF;refine aB hF λa hF=>?_;refine Rn.plain rfl (Rn.cond _ (hF.g 23) ?_);refine af hF (λo ho=>iP (m:=k) (n:=3) ho (hF.g 16) rfl) λa hF=>?_;rw[show(k==3)=false from by rw[beq_eq_false_iff_ne];omega]at hF;refine aB hF λa hF=>?_;refine Rn.plain rfl (Rn.cond _ (hF.g 46) ?_);refine af hF (λo ho=>iP (m:=k) (n:=4) ho (hF.g 16) rfl) λa hF=>?_;rw[show(k==4)=false from by rw[beq_eq_false_iff_ne];omega]at hF;refine aB hF λa hF=>?_;refine Rn.plain rfl (Rn.cond _ (hF.g 69) ?_);exact next _ _ b1 (hF.only ⟨rfl,rfl,trivial⟩)
section
variable{cb rb fr hb:Nat}{V K:List Int}{on:Bool}{up:Bool}{mv:Value}
theorem Ov{A B D:Int}{lp:Option Addr}{lq:Nat}(h:ir w pb lb cb fb fq rb fr Rq wb qw kb qk hb hq tb tq KS V K L on sl up rs lv mv ls ms):Cl kX 25 #[.pk pb 0,.agg (Eg 5 A B D lp ln lq)] w λe w'=>e=.returned (.bool true)/\Bw w w':=by
 refine j6 (t:=4) func25 rfl λcs=>?_;rw[fJ (N:=155) [.pk pb 0,.agg (Eg 5 A B D lp ln lq)] func25 zh rfl];refine qS (dc [.pk pb 0,.agg (Eg 5 A B D lp ln lq)] 155 s_) d_ λa w1 b1 hF=>?_;have h1:=h.below b1;have hpr:=h1.pr;have hrf:=h1.ref;refine af hF (λo ho=>iP (m:=5) (n:=5) ho (hF.g 16) rfl) λa hF=>?_;refine aB hF λa hF=>?_;refine Rn.plain rfl (Rn.cond _ (hF.g 81) ?_)
 iterate 4 refine aB hF λa hF=>?_
 refine bH hF func59 (IG h1.lin h1.ch h1.fls) λw2 hw a hF=>?_;subst hw
 iterate 9 refine aB hF λa hF=>?_
 obtain⟨_,f,c,cells,frz,e,h62,Y7,_,RS⟩:=h1.rfs;cases e;rw[show Value.sk fr L.size Rq=.sk fr L.data.toList.length Rq from by rw[Array.length_toList];rfl]at hF;refine af hF (λo ho=>qL ho (hF.g 95) λj hj=>?_) λa hF=>?_
 .rw[show w2.cell? ⟨fr,j,none⟩=cells[j]? from by simp[World.cell?,Y7]];exact RS j hj
 refine aB hF λa hF=>?_;rw[beq_self_eq_true]at hF;refine aB hF λa hF=>?_;exact aL hF ⟨rfl,b1⟩
theorem Ot{A B D:Int}{lp:Option Addr}{lq:Nat}(h:ir w pb lb cb fb fq rb fr Rq wb qw kb qk hb hq tb tq KS V K L on sl up rs lv mv ls ms):Cl kX 25 #[.pk pb 0,.agg (Eg 7 A B D lp ln lq)] w λe w'=>e=.returned (.bool true)/\Bw w w':=by
 refine j6 (t:=4) func25 rfl λcs=>?_;rw[fJ (N:=155) [.pk pb 0,.agg (Eg 7 A B D lp ln lq)] func25 zh rfl];refine qS (dc [.pk pb 0,.agg (Eg 7 A B D lp ln lq)] 155 s_) d_ λa w1 b1 hF=>?_;have h1:=h.below b1;have hpr:=h1.pr;have hrf:=h1.ref;refine af hF (λo ho=>iP (m:=7) (n:=5) ho (hF.g 16) rfl) λa hF=>?_;refine aB hF λa hF=>?_;refine Rn.plain rfl (Rn.cond _ (hF.g 81) ?_);refine af hF (λo ho=>iP (m:=7) (n:=6) ho (hF.g 16) rfl) λa hF=>?_;refine aB hF λa hF=>?_;refine Rn.plain rfl (Rn.cond _ (hF.g 98) ?_);refine af hF (λo ho=>iP (m:=7) (n:=7) ho (hF.g 16) rfl) λa hF=>?_;refine aB hF λa hF=>?_;refine Rn.plain rfl (Rn.cond _ (hF.g 138) ?_)
 iterate 4 refine aB hF λa hF=>?_
 refine bH hF func63 (LM h1.lin h1.ch) λw2 hw a hF=>?_;subst hw
 iterate 9 refine aB hF λa hF=>?_
 have hk:=h1.kpt;have hl:(K.map λx=>UInt8.ofNat x.toNat).length=16:=by simpa using hk.1.1
 rw[show Value.sk kb 16 qk=.sk kb (K.map λx=>UInt8.ofNat x.toNat).length qk from by rw[hl]]at hF;refine af hF (λo ho=>qL ho (hF.g 152) λj hj=>?_) λa hF=>?_
 .have SV:j<K.length:=by simpa using hj
  rw[AC hk SV,List.getElem_map];have:=hk.1.2 j SV
  congr 2
  rw[UInt8.toNat_ofNat'];omega
 refine aB hF λa hF=>?_;rw[show((Ks K).data.toList==(ByteArray.mk (K.map λx=>UInt8.ofNat x.toNat).toArray).data.toList)=true from by rw[beq_iff_eq];rfl]at hF;refine aB hF λa hF=>?_;exact aL hF ⟨rfl,b1⟩
end

section
variable{cb rb fr hb:Nat}{V K:List Int}{on:Bool}{up:Bool}{mv:Value}
def Xl(pb:Nat)(lv mv:Value)(b:Nat):Prop:=b=pb\/lv.ownBlock=some b\/mv.ownBlock=some b
theorem O3{c:Nat}{x y:Array Value}{t u:TypeId}{fx fy:Nat×Nat}(hb:w.heap[b]?=some (.cells x t fx))(hc:w.heap[c]?=some (.cells y u fy))(h:t≠u):b≠c:=λe=>by
 rw[e,hc]at hb;injection hb with hb;injection hb with _ hb;exact h hb.symm
theorem ir.off(h:ir w pb lb cb fb fq rb fr Rq wb qw kb qk hb hq tb tq KS V K L on sl up rs lv mv ls ms):¬Xl pb lv mv lb/\¬Xl pb lv mv cb/\¬Xl pb lv mv fb/\¬Xl pb lv mv rb/\¬Xl pb lv mv fr/\¬Xl pb lv mv wb/\¬Xl pb lv mv kb/\¬Xl pb lv mv hb/\¬Xl pb lv mv tb:=by
 have gen:∀{b:Nat} {x:Array Value} {t:TypeId} {f:Nat×Nat},w.heap[b]?=some (.cells x t f)->t≠60->t≠24->(t≠3\/∃c,Zs wb hb tb b/\c=b)->¬Xl pb lv mv b:=λ{b x t f} hb h1 h2 h3=>by
  rintro(rfl|e|e)
  .exact O3 hb h.pr h1 rfl
  .exact eL h.lst.ol hb h2 e.symm
  .rcases h3 with h3|⟨_,h3,_⟩
   .exact eL h.lst.om hb h3 e.symm
   .exact h.lst.mw b e h3
 obtain⟨_,f1,c1,x1,z1,e1,_,hf,_⟩:=h.fls;cases e1;obtain⟨_,f2,c2,x2,z2,e2,_,hr,_⟩:=h.rfs;cases e2;obtain⟨_,_,x3,z3,hk,_⟩:=h.kpt;obtain⟨x4,hw,_⟩:=h.wds;obtain⟨x5,hh,_⟩:=h.hsh;obtain⟨x6,ht,_⟩:=h.tab;exact⟨gen h.lin d_ d_ (.inl d_),gen h.ch.2.2 d_ d_ (.inl d_),gen hf d_ d_ (.inl d_),gen h.ref d_ d_ (.inl d_),gen hr d_ d_ (.inl d_),gen hw d_ d_ (.inr ⟨_,.inl rfl,rfl⟩),gen hk d_ d_ (.inl d_),gen hh d_ d_ (.inr ⟨_,.inr (.inl rfl),rfl⟩),gen ht d_ d_ (.inr ⟨_,.inr (.inr rfl),rfl⟩)⟩
theorem ir.blocks(h:ir w pb lb cb fb fq rb fr Rq wb qw kb qk hb hq tb tq KS V K L on sl up rs lv mv ls ms):lb<w.heap.size/\cb<w.heap.size/\fb<w.heap.size/\rb<w.heap.size/\fr<w.heap.size/\wb<w.heap.size/\kb<w.heap.size/\hb<w.heap.size/\tb<w.heap.size:=by
 obtain⟨_,f1,c1,x1,z1,e1,_,hf,_⟩:=h.fls;cases e1;obtain⟨_,f2,c2,x2,z2,e2,_,hr,_⟩:=h.rfs;cases e2;obtain⟨_,_,x3,z3,hk,_⟩:=h.kpt;exact⟨ar h.lin,h.ch.lt,ar hf,ar h.ref,ar hr,h.wds.lt,ar hk,h.hsh.lt,h.tab.lt⟩
def Pm(w0:World)(pb lb cb fb fq rb fr Rq wb qw kb qk hb hq tb tq:Nat)(KS V K:List Int)(L:ByteArray)(on:Bool)(sl:Int)(up:Bool)(rs:Int)(lv mv:Value)(ls:List Value)(n:Nat)(w:World):Prop:=∃TV TU Uh Ug,ir w pb lb cb fb fq rb fr Rq wb qw kb qk hb hq tb tq KS V K L on sl up rs TV TU Uh Ug/\Ug.length=n/\(∀b,TV.ownBlock=some b->lv.ownBlock=some b\/w0.heap.size<=b)/\(∀b,TU.ownBlock=some b->mv.ownBlock=some b\/w0.heap.size<=b)/\(∀v b,v∈Uh->v.ownBlock=some b->v∈ls\/w0.heap.size<=b)/\Ex (Xl pb lv mv) w0 w
theorem JL{g cap:Nat}{W:List Int}(h:ir w pb lb cb fb fq rb fr Rq wb qw kb qk hb hq tb tq KS V K L on sl up rs lv mv ls ms)(V6:ms.length<=1000000000)(ho:w.ownsRow 0 3 1 (.sk g 85 cap) 85 (aH W))(hgm:mv.ownBlock≠some g)(hgw:¬Zs wb hb tb g)(Xh:∀v,v∈ls->v.ownBlock≠some g)(hg0:w0.heap.size<=g)(hlo:lb<w0.heap.size/\cb<w0.heap.size/\fb<w0.heap.size/\rb<w0.heap.size/\fr<w0.heap.size/\wb<w0.heap.size/\kb<w0.heap.size/\hb<w0.heap.size/\tb<w0.heap.size):
 Cl kX 62 #[.pk pb 0,.sk g 85 cap] w λe w'=>e=.returned (.tuple #[])/\∃TV TU Uh Ug,ir w' pb lb cb fb fq rb fr Rq wb qw kb qk hb hq tb tq KS V K L on sl up rs TV TU Uh Ug/\Ug.length=ms.length+4/\(∀b,TV.ownBlock=some b->lv.ownBlock=some b\/w.heap.size<=b)/\(∀b,TU.ownBlock=some b->mv.ownBlock=some b\/w.heap.size<=b)/\(∀v b,v∈Uh->v.ownBlock=some b->v∈ls\/b=g\/w.heap.size<=b)/\Ex (λb=>Xl pb lv mv b\/b=g) w w':=
 (Df h.pr h.lst V6 ho hgm (λb hz=>by
   obtain⟨_,_,_,_,_,b6,_,b8,b9⟩:=h.blocks;rcases hz with rfl|rfl|rfl<;>assumption) hgw Xh).mono λe w' ⟨e1,TV,TU,Uh,Ug,hp,hl,hn,k1,k2,k3,hx⟩=>by
   have RE:Ex (λb=>Xl pb lv mv b\/b=g) w w':=Ex.wide hx λb _ e=>by
    rcases e with e|e|e|e
    .exact .inl (.inl e)
    .exact .inr e
    .exact .inl (.inr (.inl e))
    .exact .inl (.inr (.inr e))
   obtain⟨o1,o2,o3,o4,o5,o6,o7,o8,o9⟩:=h.off;obtain⟨l1,l2,l3,l4,l5,l6,l7,l8,l9⟩:=hlo;have nn:∀{b:Nat},b<w0.heap.size->¬Xl pb lv mv b->¬(Xl pb lv mv b\/b=g):=λh1 h2 e=>e.elim h2 λe=>by omega
   exact⟨e1,TV,TU,Uh,Ug,h.ex RE ⟨nn l1 o1,nn l2 o2,nn l3 o3,nn l4 o4,nn l5 o5,nn l6 o6,nn l7 o7,nn l8 o8,nn l9 o9⟩ hp hl,hn,k1,k2,k3,RE⟩
theorem Ou{A B D:Int}{lp:Option Addr}{lq:Nat}(hV:V.length=85)(h:ir w pb lb cb fb fq rb fr Rq wb qw kb qk hb hq tb tq KS V K L on sl up rs lv mv ls ms)(V6:ms.length<=100000000):Cl kX 25 #[.pk pb 0,.agg (Eg 6 A B D lp ln lq)] w λe w'=>e=.returned (.bool true)/\Pm w pb lb cb fb fq rb fr Rq wb qw kb qk hb hq tb tq KS V K L on sl up rs lv mv ls (ms.length+8) w':=by
 refine j6 (t:=4) func25 rfl λcs=>?_;rw[fJ (N:=155) [.pk pb 0,.agg (Eg 6 A B D lp ln lq)] func25 zh rfl];refine qS (dc [.pk pb 0,.agg (Eg 6 A B D lp ln lq)] 155 s_) d_ λa w1 b1 hF=>?_;have h1:=h.below b1;have hpr:=h1.pr;refine af hF (λo ho=>iP (m:=6) (n:=5) ho (hF.g 16) rfl) λa hF=>?_;refine aB hF λa hF=>?_;refine Rn.plain rfl (Rn.cond _ (hF.g 81) ?_);refine af hF (λo ho=>iP (m:=6) (n:=6) ho (hF.g 16) rfl) λa hF=>?_;refine aB hF λa hF=>?_;refine Rn.plain rfl (Rn.cond _ (hF.g 98) ?_)
 iterate 4 refine aB hF λa hF=>?_
 refine bf hF func60 (zC h1.lin h1.ch) λv2 w2 ⟨o2,b2⟩ a hF=>?_;have h2:=h1.below b2;have hpr2:=h2.pr
 iterate 5 refine aB hF λa hF=>?_
 refine bf hF func60 (zC h2.lin h2.ch) λv3 w3 ⟨o3,b3⟩ a hF=>?_;have h3:=h2.below b3;have hpr3:=h3.pr;have hrf3:=h3.ref;have o2':=b_ o2 b3
 iterate 9 refine aB hF λa hF=>?_
 refine bH hF func61 (mr (W:=V) o_ (nQ o2') (hV▸h3.wds.is qw)) λw4 b4 a hF=>?_;have h4:=h3.below b4;have hpr4:=h4.pr;have hrf4:=h4.ref;have o2'':=b_ o2' b4;have o3':=b_ o3 b4
 iterate 9 refine aB hF λa hF=>?_
 refine bH hF func61 (mr (W:=V) o_ (nQ o3') (hV▸h4.wds.is qw)) λw5 b5 a hF=>?_;have h5:=h4.below b5;have p2:=b_ o2'' b5;have p3:=b_ o3' b5;obtain⟨g2,q2,rfl,n2⟩:∃g q,v2=.sk g 85 q/\w1.heap.size<=g:=by
  rcases p2.2 with⟨_,e⟩|⟨g,cap,cur,e,hb,_⟩
  .cases e
  .exact⟨g,cap,e,hb⟩
 obtain⟨g3,q3,rfl,n3⟩:∃g q,v3=.sk g 85 q/\w2.heap.size<=g:=by
  rcases p3.2 with⟨_,e⟩|⟨g,cap,cur,e,hb,_⟩
  .cases e
  .exact⟨g,cap,e,hb⟩
 have l2:g2<w2.heap.size:=qW o2 rfl;have l3:g3<w3.heap.size:=qW o3 rfl;have z1:=b1.size;have z2:=b2.size;have z3:=b3.size;have z4:=b4.size;have z5:=b5.size;have mlt:∀b,mv.ownBlock=some b->b<w.heap.size:=λb hb=>qW h.lst.om hb;have llt:∀b,lv.ownBlock=some b->b<w.heap.size:=λb hb=>qW h.lst.ol hb;have lsl:∀v b,v∈ls->v.ownBlock=some b->b<w.heap.size:=λv b h1 h2=>(h.lst.apart v b h1 h2).2.2;have blk:=h.blocks;have zl:∀b,Zs wb hb tb b->b<w.heap.size:=λb hz=>by
  obtain⟨_,_,_,_,_,b6,_,b8,b9⟩:=blk;rcases hz with rfl|rfl|rfl<;>assumption
 iterate 3 refine aB hF λa hF=>?_
 refine bf hF func62 ((JL (w0:=w) h5 o_ (mK p2 (Nat.zero_le _)) (λe=>by have:=mlt _ e;omega) (λe=>by have:=zl _ e;omega) (λv hv e=>by have:=lsl v _ hv e;omega) o_ blk).mono λe w' ⟨e1,e2⟩=>(⟨.tuple #[],e1,rfl,e2⟩:∃v,e=.returned v/\(v=.tuple #[]/\_))) λv6 w6 hv a hF=>?_;obtain⟨rfl,lv6,mv6,ls6,ms6,h6,n6,kl6,km6,ks6,x6⟩:=hv;have z6:=x6.size;have m6:∀b,mv6.ownBlock=some b->b<w.heap.size\/w5.heap.size<=b:=λb hb=>(km6 b hb).imp (mlt b) id;have p6:w6.ownsRow 0 3 1 (.sk g3 85 q3) 85 (aH V):=fE (mK p3 (Nat.zero_le _)) λc ob hc ho=>by
  have hc:some g3=some c:=hc;cases hc;refine x6.at ?_ ho;rintro((e|e|e)|e)
  .have:=ar h.pr;omega
  .have:=llt _ e;omega
  .have:=mlt _ e;omega
  .omega
 iterate 2 refine aB hF λa hF=>?_
 refine bf hF func62 ((JL (w0:=w) h6 o_ p6 (λe=>by have:=m6 _ e;omega) (λe=>by have:=zl _ e;omega) (λv hv e=>by
  rcases ks6 v _ hv e with h|h|h
  .have:=lsl v _ h e;omega
  .omega
  .omega) o_ blk).mono λe w' ⟨e1,e2⟩=>(⟨.tuple #[],e1,rfl,e2⟩:∃v,e=.returned v/\(v=.tuple #[]/\_))) λv7 w7 hv a hF=>?_
 obtain⟨rfl,lv7,mv7,ls7,ms7,h7,n7,kl7,km7,ks7,x7⟩:=hv
 iterate 5 refine aB hF λa hF=>?_
 refine aL hF ⟨rfl,lv7,mv7,ls7,ms7,h7,by omega,λb hb=>?_,λb hb=>?_,λv b hv hb=>?_,?_⟩
 .rcases kl7 b hb with h|h
  .exact(kl6 b h).imp id λh=>by omega
  .exact .inr o_
 .rcases km7 b hb with h|h
  .exact(km6 b h).imp id λh=>by omega
  .exact .inr o_
 .rcases ks7 v b hv hb with h|h|h
  .rcases ks6 v b h hb with h|h|h
   .exact .inl h
   .exact .inr o_
   .exact .inr o_
  .exact .inr o_
  .exact .inr o_
 .refine((ai (X:=Xl pb lv mv) (ab (ab (ab (ab b1 b1.size b2) o_ b3) o_ b4) o_ b5)).trans x6 λb hb e=>?_).trans x7 λb hb e=>?_
  .exact e.elim id λe=>by omega
  .rcases e with(e|e|e)|e
   .exact .inl e
   .exact(kl6 b e).elim (λh=>.inr (.inl h)) λh=>by omega
   .exact(km6 b e).elim (λh=>.inr (.inr h)) λh=>by omega
   .omega
theorem Jk:f22.body=some (.seq (rG f22 0) (.seq (rG f22 1) (.seq (rG f22 2) (.seq (rG f22 3) (.seq (rG f22 4) (.seq (rG f22 5) .ret)))))):=by kernel_rfl
theorem yq(hV:V.length=85)(h:ir w pb lb cb fb fq rb fr Rq wb qw kb qk hb hq tb tq KS V K L on sl up rs lv mv ls ms)(V6:ms.length<=100000000):Cl kX 22 #[.pk pb 0] w λe w'=>e=.returned (.bool true)/\Pm w pb lb cb fb fq rb fr Rq wb qw kb qk hb hq tb tq KS V K L on sl up rs lv mv ls (ms.length+8) w':=by
 refine av (N:=28) func22 Jk λcs a hF=>?_
 iterate 2 refine aB hF λa hF=>?_
 refine af hF (λo ho=>xJ (k:=5) ho rfl) λa hF=>?_;refine bH hF func25 (Ov h) λw1 b1 a hF=>?_;have h1:=h.below b1
 iterate 2 refine aB hF λa hF=>?_
 refine af hF (λo ho=>xJ (k:=6) ho rfl) λa hF=>?_;refine bH hF func25 (Ou hV h1 V6) λw2 ⟨lv2,mv2,ls2,ms2,h2,n2,kl,km,ks,x2⟩ a hF=>?_
 iterate 2 refine aB hF λa hF=>?_
 refine af hF (λo ho=>xJ (k:=7) ho rfl) λa hF=>?_;refine bH hF func25 (Ot h2) λw3 b3 a hF=>?_;have h3:=h2.below b3
 iterate 2 refine aB hF λa hF=>?_
 refine bH hF func26 (C2 h3.pr h3.lst o_) λw4 b4 a hF=>?_
 iterate 12 refine aB hF λa hF=>?_
 have z1:=b1.size;have z2:=x2.size;have z3:=b3.size;have z4:=b4.size;refine aL hF ⟨rfl,lv2,mv2,ls2,ms2,h3.below b4,by omega,λb hb=>(kl b hb).imp id λh=>by omega,λb hb=>(km b hb).imp id λh=>by omega,λv b hv hb=>(ks v b hv hb).imp id λh=>by omega,?_⟩;exact(((ai (X:=Xl pb lv mv) b1).trans x2 λ_ _ e=>e).trans (ai (X:=λ_=>False) b3) λ_ _ e=>e.elim).trans (ai (X:=λ_=>False) b4) λ_ _ e=>e.elim
end

theorem ID(x:Int)(w:World):Cl kX 104 #[.int .i64 x] w λe w'=>e=.returned (.bool (decide (0<=x/\x<65536)))/\w'=w:=by
 refine av (N:=9) func104 FD λcs a hF=>?_
 iterate 4 refine aj hF λa hF=>?_
 by_cases hx:0<=x
 .rw[show decide (x≥0)=true from decide_eq_true hx]at hF
  iterate 2 refine aj hF λa hF=>?_
  refine af hF (λo ho=>fp ho (hF.g 5) (hF.g 7)) λa hF=>?_;rw[show decide (x<=65535)=decide (0<=x/\x<65536)from decide_eq_decide.2 o_]at hF;refine aj hF λa hF=>?_;exact aL hF ⟨rfl,rfl⟩
 .rw[show decide (x≥0)=false from decide_eq_false hx]at hF
  iterate 2 refine Rn.us hF λa hF=>?_
  refine af (v:=.bool false) hF (λo ho=>fM ho (hF.g 5) rfl) λa hF=>?_;rw[show false=decide (0<=x/\x<65536)from(decide_eq_false o_).symm]at hF;refine aj hF λa hF=>?_;exact aL hF ⟨rfl,rfl⟩
section
variable{W:List Int}{g off cap:Nat}
theorem CK(hl:W.length=85)(hr:w.rangeAt g off (W.map (Value.int .i64)))(nt:∀a b k,(b=true↔dP W)->ay [(2,.bool b)] 18 [] a->Rn kX Goal ((base 98).atR a (.code .ret::k)) cs w):
 ∀(m i:Nat) (a:Act),85- i=m->i<=85->(∀j,j<i->0<=W.getD j 0/\W.getD j 0<65536)->ay [(8,.slice (some ⟨g,off,none⟩) 85 cap),(9,.int .i64 85),(10,.int .i64 i)] 18 [] a->Rn kX Goal ((base 98).atR a [.code (OI f98),.inLoop (OI f98),.inBlock 0,.code (EK f98)]) cs w:=by
 intro m;induction m with
 |zero=>
  intro i a hm hi hp hF;refine aj hF λa hF=>?_;refine Rn.plain rfl (Rn.plain rfl (Rn.cond _ (hF.g 11) ?_));rw[decide_eq_false o_];refine aj hF λa hF=>?_;exact Rn.plain rfl (nt _ true _ ⟨λ_=>⟨hl,λj hj=>hp j o_⟩,λ_=>rfl⟩ (hF.only ⟨rfl,trivial⟩))
 |succ m ih=>
  intro i a hm hi hp hF;refine aj hF λa hF=>?_;refine Rn.plain rfl (Rn.plain rfl (Rn.cond _ (hF.g 11) ?_));rw[decide_eq_true o_];refine af hF (λo ho=>bS i k_ ho (hF.g 8) (hF.g 10) o_) λa hF=>?_;refine af hF (λo ho=>nO i hr o_ ho (hF.g 12)) λa hF=>?_
  iterate 2 refine aj hF λa hF=>?_
  refine bH hF func104 (ID _ w) λw' hw a hF=>?_;rw[hw];by_cases hx:0<=W.getD i 0/\W.getD i 0<65536
  .rw[decide_eq_true hx]at hF;refine aj hF λa hF=>?_;refine Rn.plain rfl (Rn.cond _ (hF.g 16) ?_);refine af hF (λo ho=>aI (n:=1) ho (hF.g 10) rfl o_) λa hF=>?_;refine aj hF λa hF=>?_;exact Rn.plain rfl (Rn.plain rfl (ih (i+1) _ o_ o_ (λj hj=>by
    by_cases e:j=i
    .rw[e];exact hx
    .exact hp j o_) (hF.only ⟨rfl,rfl,rfl,trivial⟩)))
  .rw[decide_eq_false hx]at hF;refine aj hF λa hF=>?_;refine Rn.plain rfl (Rn.cond _ (hF.g 16) ?_);refine aj hF λa hF=>?_;exact Rn.plain rfl (nt _ false _ ⟨λe=>(by cases e),λh=>absurd (h.2 i o_) hx⟩ (hF.only ⟨rfl,trivial⟩))
theorem FM(hr:w.rangeAt g off (W.map (Value.int .i64))):Cl kX 98 #[.slice (some ⟨g,off,none⟩) W.length cap] w λe w'=>∃v,e=.returned v/\(∃b,v=.bool b/\(b=true↔dP W))/\w'=w:=by
 refine av (N:=18) func98 FG λcs a hF=>?_
 iterate 2 refine aj hF λa hF=>?_
 refine af hF (λo ho=>i0 ho (hF.g 5)) λa hF=>?_;refine aj hF λa hF=>?_;by_cases hl:W.length=85
 .rw[hl]at hF;refine Rn.plain rfl (Rn.cond _ (hF.g 7) ?_);refine aj hF λa hF=>?_;refine af hF (λo ho=>i0 ho (hF.g 8)) λa hF=>?_;refine aj hF λa hF=>?_;refine Rn.plain rfl (Rn.plain rfl (Rn.plain rfl (CK hl hr (λa b k hb hF=>aL hF ⟨_,rfl,⟨b,rfl,hb⟩,rfl⟩) 85 0 _ rfl o_ (λj hj=>by omega) (hF.only ⟨rfl,rfl,rfl,trivial⟩))))
 .rw[show(((W.length:Nat):Int) !=85)=true from bne_iff_ne.2 o_]at hF;refine Rn.plain rfl (Rn.cond _ (hF.g 7) ?_);refine aj hF λa hF=>?_;exact aL hF ⟨_,rfl,⟨false,rfl,λe=>(by cases e),λh=>absurd h.1 hl⟩,rfl⟩
def C0(kp:ByteArray):List Int:=kp.data.toList.map λb=>(b.toNat:Int)
theorem JY(h:kp.size=16):Pn (C0 kp):=by
 have Y2:kp.data.toList.length=16:=by rw[Array.length_toList];exact h
 refine⟨by simpa[C0]using Y2,λi hi=>?_⟩;simp only[C0,List.getElem_map];have:=(kp.data.toList[i]'(by simpa[C0]using hi)).toNat_lt;omega
def QE(w:World)(L:ByteArray)(v:Value)(w1:World):Prop:=∃fc,v=.sk w.heap.size L.size fc/\Bw w w1/\w1.heap.size=w.heap.size+1/\kS w1 (.sk w.heap.size L.size fc) L
theorem tF{o:Oper}(hL:L.size<4611686018427387904)(QH:o.op=.convert 9 83 x)(hx:ev x=.string L)(e':Nat):∃v w1,(execOp ev o).run prog {w with drawn:=e'}= .ok (.value v) w1/\QE w L v w1:=by
 have h:=DU (w:={w with drawn:=e'}) QH hx;have Sa:L.size<=grownCap {w with drawn:=e'} L.size 0 5:=grownCap_ge _ L.size 0 5;revert h Sa;generalize grownCap {w with drawn:=e'} L.size 0 5=fc;intro h Sa;refine⟨_,_,h,fc,rfl,oX (d:=e'+1) (aD {w with drawn:=e'+1} _),ao {w with drawn:=e'+1} _,hL,w.heap.size,fc,_,_,rfl,Sa,aK {w with drawn:=e'+1} _,by simp[bytesRow],λj hj=>?_⟩;have SV:j<L.data.size:=by rw[Array.length_toList]at hj;exact hj
 rw[bytesRow_at L fc j SV,Array.getElem_toList]
def Qf(L kp:ByteArray)(W:List Int)(w:World)(v:Value)(w':World):Prop:=((¬(dP W/\kp.size=16)/\v=.tuple #[.pointer none,.int .i64 11])\/((dP W/\kp.size=16)/\∃cb fb fq,v=.tuple #[.pk cb 0,.int .i64 0]/\j7 w' cb (.sk fb L.size fq) W (C0 kp) false 0/\kS w' (.sk fb L.size fq) L/\w.heap.size<=fb/\fb<cb))/\Bw w w'
theorem Ln(hL:L.size<4611686018427387904)(hr:w.rangeAt g off (W.map (Value.int .i64))):Cl kX 74 #[.string L,.slice (some ⟨g,off,none⟩) W.length cap,.string kp] w λe w'=>∃v,e=.returned v/\Qf L kp W w v w':=by
 refine cG (t:=6) (u:=7) func74 rfl λcs=>?_;refine bm (N:=34) func74 ME λa hF=>?_
 iterate 3 refine aj hF λa hF=>?_
 refine bf hF func98 (FM hr) λv w' hw a hF=>?_;obtain⟨⟨b,rfl,hb⟩,rfl⟩:=hw;cases b with
 |false=>
  iterate 2 refine aj hF λa hF=>?_
  iterate 3 refine Rn.us hF λa hF=>?_
  refine af (v:=.bool true) hF (λo ho=>fp ho (hF.g 12) rfl) λa hF=>?_;refine Rn.plain rfl (Rn.cond _ (hF.g 16) ?_)
  iterate 2 refine aj hF λa hF=>?_
  exact dW hF ⟨_,rfl,.inl ⟨λh=>(by have:=hb.2 h.1;cases this),rfl⟩,Below.refl _ _⟩
 |true=>
  iterate 5 refine aj hF λa hF=>?_
  refine af hF (λo ho=>fM ho (hF.g 12) (hF.g 15)) λa hF=>?_;by_cases SK:kp.size=16
  .have hW:=hb.1 rfl;rw[show(((kp.size:Nat):Int) !=16)=false from by simp[SK]]at hF;refine Rn.plain rfl (Rn.cond _ (hF.g 16) ?_);refine aj hF λa hF=>?_;refine dF hF (λo ho e=>tF hL ho (hF.g 17) e) λv w1 ⟨fc,ev,b1,z1,f1⟩ a hF=>?_;subst ev;refine af hF (λo ho=>HS ho (hF.g 18)) λa hF=>?_;refine cW hF λw2 a b2 c2 z2 hF=>?_;have f2:=f1.keep (ai (X:=λ_=>False) b2) (λ_ _ _ _ e=>e);have r2:=(λj v hv=>aR (ab b1 b1.size b2) (hr j v hv):w2.rangeAt g off (W.map (Value.int .i64)))
   iterate 4 refine aj hF λa hF=>?_
   refine af hF (λo ho=>tR ho (hF.g 23)) λa hF=>?_;refine aj hF λa hF=>?_;rw[hW.1]at hF;refine af hF (λo ho=>Fv (by simp[Gh]) hW.1 c2 r2 ho (hF.g 24) (hF.g 25)) λa hF=>?_;have c3:=aW (cs:=kh (.sk w'.heap.size L.size fc) W (Gh 16) false 0) (t:=149) c2;have x3:=bE (w:=w2) w1.heap.size (kh (.sk w'.heap.size L.size fc) W (Gh 16) false 0) 149;have f3:=f2.keep x3 λb cs fr hb=>fN c2 d_ b cs fr hb
   iterate 3 refine aj hF λa hF=>?_
   refine af hF (λo ho=>zW ho (hF.g 29)) λa hF=>?_;refine aj hF λa hF=>?_;refine af hF (λo ho=>J8 hW.1 (by simp[Gh]) SK c3 ho (hF.g 30) (hF.g 31)) λa hF=>?_;have x4:=bE (w:=put w2 w1.heap.size (kh (.sk w'.heap.size L.size fc) W (Gh 16) false 0) 149) w1.heap.size (kh (.sk w'.heap.size L.size fc) W (C0 kp) false 0) 149;have f4:=f3.keep x4 λb cs fr hb=>fN c3 d_ b cs fr hb
   iterate 3 refine aj hF λa hF=>?_
   have X4:Ex (λ_=>False) w' (put (put w2 w1.heap.size (kh (.sk w'.heap.size L.size fc) W (Gh 16) false 0) 149) w1.heap.size (kh (.sk w'.heap.size L.size fc) W (C0 kp) false 0) 149):=((ai (ab b1 b1.size b2)).trans x3 λb hb e=>by omega).trans x4 λb hb e=>by omega
   exact dW hF ⟨_,rfl,.inr ⟨⟨hW,SK⟩,w1.heap.size,w'.heap.size,fc,rfl,⟨hW.1,JY SK,aW c3⟩,f4,Nat.le_refl _,by omega⟩,⟨X4.os,X4.tape,X4.output,X4.size,λb hb=>X4.block b hb λe=>e⟩⟩
  .rw[show(((kp.size:Nat):Int) !=16)=true from bne_iff_ne.2 o_]at hF;refine Rn.plain rfl (Rn.cond _ (hF.g 16) ?_)
   iterate 2 refine aj hF λa hF=>?_
   exact dW hF ⟨_,rfl,.inl ⟨λh=>SK h.2,rfl⟩,Below.refl _ _⟩
end

theorem Cd{o:Oper}{y:Operand}{a b d:Int}{ts:Array TypeId}(QH:o.op=.call {callee:=.builtin .max,args:=#[x,y],argTypes:=ts})(hx:ev x=.int .i64 a)(hy:ev y=.int .i64 b)(hd:max a b=d):(execOp ev o).run P w=.ok (.value (.int .i64 d)) w/\aG P (execOp ev o):=by
 have e:∀ts ty,Builtin.max_ ts ty #[.int .i64 a,.int .i64 b]=pure (.int .i64 d):=λ_ _=>by
  simp only[Builtin.max_,Builtin.max2,List.foldlM];show(pure (Value.int .i64 (if b>a then b else a)):Sem Value)=_
  congr 2
  split<;>omega
 have h:∀w es,(execOp ev o).runT P w es=(.ok (.value (.int .i64 d)) w,es):=λw es=>by
  simp[-Sem.runT_eq,execOp,QH,resolve,hx,hy,invoke,builtin,e,bind,Sem.bind,Sem.runT,pure]
 refine⟨?_,.eqv (s':=.pure _) h (.pure _)⟩;have:=congrArg Prod.fst (h w #[]);rwa [Sem.runT_fst]at this
structure Sx (w0:World) (cb rb ob zb bu bh:Nat) (fl:Value) (W K:List Int) (L:ByteArray) (st le:Int) (us:List Bool) (hs:List ByteArray) (KS:List Int) (room:Int) (w:World):Prop where
 ch:j7 w cb fl W K false 0
 run:w.heap[rb]?=some (.cells (jM cb room false) 151)
 fls:kS w fl L
 out:w.heap[ob]?=some (.cells (a_ 0 false 0 0 0) 100)
 fus:w.heap[zb]?=some (.cells (ei st le (.sk bu 4 4) (.sk bh 4 4)) 45)
 us:w.heap[bu]?=some (.cells (us.map Value.bool).toArray 4)
 hs:w.heap[bh]?=some (.cells (hs.map Value.string).toArray 9)
 tab:w.rangeAt 0 0 (aC KS)
 ex:Ex (XR cb rb) w0 w
section
variable{cb rb ob zb:Nat}{W K K':List Int}{st le:Int}{us:List Bool}{hs:List ByteArray}{room RZ:Int}
theorem Sx.pos(h:Sx w0 cb rb ob zb bu bh fl W K L st le us hs KS room w):0<w.heap.size:=Nat.lt_of_le_of_lt (Nat.zero_le _) h.ch.lt
theorem Sx.ex'(h:Sx w0 cb rb ob zb bu bh fl W K L st le us hs KS room w)(h0:¬XR cb rb 0)(hx:Ex (XR cb rb) w w')(hc:j7 w' cb fl W K' false 0)(hr:w'.heap[rb]?=some (.cells (jM cb RZ false) 151)):Sx w0 cb rb ob zb bu bh fl W K' L st le us hs KS RZ w':=
 ⟨hc,hr,h.fls.keep hx (lX h.ch.to h.run),hx.at (jO h.ch.to h.run h.out d_ d_) h.out,hx.at (jO h.ch.to h.run h.fus d_ d_) h.fus,hx.at (jO h.ch.to h.run h.us d_ d_) h.us,hx.at (jO h.ch.to h.run h.hs d_ d_) h.hs,cJ hx h0 h.pos h.tab,h.ex.trans hx λ_ _ e=>e⟩
theorem Sx.below(h:Sx w0 cb rb ob zb bu bh fl W K L st le us hs KS room w)(h0:¬XR cb rb 0)(hb:Bw w w'):Sx w0 cb rb ob zb bu bh fl W K L st le us hs KS room w':=
 h.ex' h0 (ai hb) (h.ch.ex (ai (X:=λ_=>False) hb) λe=>e) (bk hb h.run)
end
section
variable{cb rb ob zb:Nat}{W K0:List Int}{st le R:Int}{us:List Bool}{hs:List ByteArray}
theorem DK(QL:KS.length=64)(hu:us.length=4)(hh:hs.length=4)(h0:¬XR cb rb 0)(hob:w0.heap.size<=ob)(Ye:cb<w0.heap.size)(WH:rb<w0.heap.size){k:Nat}(hk:k<2){gr room:Int}(TG:room<9223372036854775808){K:List Int}(hN:Nt ns K0 R i K room)(hn:∀n c,kT KS (L.extract (k*8192) (k*8192+8192)) le us hs n c->ns[i]?=some (16+16*(k:Int)+c)/\(c=0->ns[i+1]?=some 9))(hS:Sx w0 cb rb ob zb bu bh fl W K L st le us hs KS room w)
 (hF:ay [(0,.pk rb 0),(2,.pk ob 0),(3,.pk zb 0),(5,.int .i64 gr),(37,.agg #[.int .i64 16,.int .i64 32]),(38,.int .i64 k)] 71 [] a)
 (ct:∀ch (a:Act) (k:List Item) w',a.defers=[]->R<ns.length->xd cb rb fl W (nts K0 (ns.take R.toNat)) w0 (.panicked ch) w'->Rn kX Goal {(base 126).atR a k with mode:=.panicking ch} cs w')
 (nj:∀n a' w' K' r' I,kT KS (L.extract (k*8192) (k*8192+8192)) le us hs n 0->Nt ns K0 R (i+1+1) K' r'->ay [(2,.pk ob 0)] 71 [] a'->w'.heap[ob]?=some (.cells (a_ 0 true k n 0) 100)->j7 w' cb fl W K' true k->w'.heap[rb]?=some (.cells (jM cb r' false) 151)->kS w' fl L->Ex (XR cb rb) w0 w'->Rn kX Goal ((base 126).atR a' (.code .ret::I)) cs w')
 (nn:∀n c a' w' K',kT KS (L.extract (k*8192) (k*8192+8192)) le us hs n c->c≠0->Nt ns K0 R (i+1) K' (room- 1)->ay [(0,.pk rb 0),(2,.pk ob 0),(3,.pk zb 0),(5,.int .i64 (max gr c)),(37,.agg #[.int .i64 16,.int .i64 32]),(38,.int .i64 ((k+1:Nat):Int))] 71 [] a'->Sx w0 cb rb ob zb bu bh fl W K' L st le us hs KS (room- 1) w'->Rn kX Goal ((base 126).atR a' [.code (OJ f126),.inLoop (OJ f126),.inBlock 0,.code (EL f126)]) cs w'):
 Rn kX Goal ((base 126).atR a [.code (OJ f126),.inLoop (OJ f126),.inBlock 0,.code (EL f126)]) cs w:=by
 refine aj hF λa hF=>?_;refine Rn.plain rfl (Rn.plain rfl (Rn.cond _ (hF.g 39) ?_));rw[decide_eq_true (by omega:(k:Int)<2)];refine aj hF λa hF=>?_;refine af hF (λo ho=>Oh hk ho (hF.g 37) (hF.g 38)) λa hF=>?_
 iterate 2 refine aj hF λa hF=>?_
 obtain⟨n,c,hP,hck⟩:=Jb KS QL (L.extract (k*8192) (k*8192+8192)) st le (.sk bu 4 4) (.sk bh 4 4) us hs o_ (by rw[ByteArray.size_extract];omega);obtain⟨Un,SA⟩:=hn n c hP;have hcb':=o0 hP;have hF:ay [(0,.pk rb 0),(2,.pk ob 0),(3,.pk zb 0),(5,.int .i64 gr),(37,.agg #[.int .i64 16,.int .i64 32]),(38,.int .i64 k),(6,.int .i64 k),(7,.int .i64 ((16+16*k:Nat):Int))] 71 [] a:=hF.only ⟨rfl,rfl,rfl,rfl,rfl,rfl,rfl,rfl,trivial⟩;have Q_:=hS.run;have hfus:=hS.fus;refine Rn.plain rfl (Rn.plain rfl ?_);refine bY hF ?_
 iterate 3 refine Gx.u ?_
 refine Gx.q ?_ (y:=λo a w ho z=>(an A8 ho gx ((ak (bk z.b Q_) _).trans rfl)).1);refine Gx.u ?_;refine Gx.k func160 (λw h _=>(Me k hk (hS.below h0 h).ch (hS.below h0 h).fls).mono λ_ _ h=>⟨h.1,h.2▸Below.refl _ _⟩) ?_;refine Gx.q ?_;refine Gx.k func40 (λw h _=>hck w (zI (hS.below h0 h).us (by simpa using hu)) (zI (hS.below h0 h).hs (by simpa using hh)) (hS.below h0 h).tab (hS.below h0 h).pos) ?_
 iterate 5 refine Gx.q ?_
 refine Gx.e λa w1 hF b1 _=>?_;have TB:=hS.below h0 b1;have e2:((16+16*k:Nat):Int)+c=16+16*(k:Int)+c:=by omega
 iterate 4 refine aj hF λa hF=>?_
 rw[e2]at hF;refine nD hF func157 (Ah _ TG TB.ch TB.run) (λv w2 hv a hF=>?_) λch w2 hc=>by
  obtain⟨e3,e4⟩:=hN.cut hc.1 Un;exact ct ch _ _ w2 hF.defers e4 (e3▸hc.2.from TB.ex)
 obtain⟨rfl,hr,h2,r2,x2⟩:=hv;have hN2:=hN.next hr Un;have TM:=TB.ex' h0 x2 h2 r2
 iterate 2 refine aj hF λa hF=>?_
 refine Rn.plain rfl (Rn.cond _ (hF.g 59) ?_);by_cases hc:c=0
 .subst hc
  iterate 3 refine aj hF λa hF=>?_
  refine nD hF func161 (OV k n o_ TM.ch TM.run) (λv w3 hv a hF=>?_) λch w2 hc=>by
   obtain⟨e3,e4⟩:=hN2.cut hc.1 (SA rfl);exact ct ch _ _ w2 hF.defers e4 (e3▸hc.2.from TM.ex)
  obtain⟨rfl,hr3,h3,r3,x3⟩:=hv;have o3:=x3.at (jO TM.ch.to TM.run TM.out d_ d_) TM.out;refine aM hF (λo ho=>dp ho (hF.g 2) (hF.g 63) o3 rfl) λa hF=>?_;have x4:=bE (w:=w3) ob (a_ 0 true k n 0) 100;refine Rn.plain rfl ?_;refine nj n _ _ _ _ _ hP (hN2.next hr3 (SA rfl)) (hF.only ⟨rfl,trivial⟩) (aW o3) (h3.ex x4 o_) (x4.at o_ r3) (((TM.fls.keep x3 (lX TM.ch.to TM.run)).keep x4 λb cs fr hb e=>?_)) ((TM.ex.trans x3 λ_ _ e=>e).trans x4 λb hb e=>by omega);rw[e,o3]at hb;injection hb with hb;injection hb with _ hb;cases hb
 .rw[show(c==0)=false from by simpa using hc]
  iterate 2 refine aj hF λa hF=>?_
  refine rR hF (hy:=by intro o ho;exact Cd ho (hF.g 64) (hF.g 65) rfl) λa hF=>?_;refine aj hF λa hF=>?_;refine af hF (λo ho=>aI (n:=1) ho (hF.g 38) rfl o_) λa hF=>?_;refine aj hF λa hF=>?_;exact Rn.plain rfl (Rn.plain rfl (nn n c _ _ _ hP hc hN2 (hF.only ⟨rfl,rfl,rfl,rfl,rfl,rfl,trivial⟩) TM))
theorem Kw(QL:KS.length=64)(hu:us.length=4)(hh:hs.length=4)(h0:¬XR cb rb 0)(hob:w0.heap.size<=ob)(Ye:cb<w0.heap.size)(WH:rb<w0.heap.size){room:Int}(TG:room<9223372036854775808){K:List Int}{j:Bool}{s n:Int}(hN:Nt ns K0 R 1 K room)(hS:Sx w0 cb rb ob zb bu bh fl W K L st le us hs KS room w)
 (hQ:∃n0 c0,kT KS (L.extract 0 8192) le us hs n0 c0/\((c0=0/\ns=[1,16,9]/\j=true/\s=0/\n=n0/\c=0)\/
  (c0≠0/\∃n1 c1,kT KS (L.extract 8192 16384) le us hs n1 c1/\((c1=0/\ns=[1,16+c0,32,9]/\j=true/\s=1/\n=n1/\c=0)\/(c1≠0/\ns=[1,16+c0,32+c1,4]/\j=false/\s=0/\n=0/\c=max c0 c1)))))
 (hF:ay [(0,.pk rb 0),(2,.pk ob 0),(3,.pk zb 0)] 71 [] a)
 (ct:∀ch (a:Act) (k:List Item) w',a.defers=[]->R<ns.length->xd cb rb fl W (nts K0 (ns.take R.toNat)) w0 (.panicked ch) w'->Rn kX Goal {(base 126).atR a k with mode:=.panicking ch} cs w')
 (nt:∀a' w' K' k r' I,ns.length=k->Nt ns K0 R k K' r'->ay [(2,.pk ob 0)] 71 [] a'->w'.heap[ob]?=some (.cells (a_ 0 j s n c) 100)->j7 w' cb fl W K' j s->w'.heap[rb]?=some (.cells (jM cb r' false) 151)->kS w' fl L->Ex (XR cb rb) w0 w'->Rn kX Goal ((base 126).atR a' (.code .ret::I)) cs w'):
 Rn kX Goal ((base 126).atR a [.code (E2 f126)]) cs w:=by
 obtain⟨n0,c0,Wp,hq⟩:=hQ;refine aj hF λa hF=>?_;refine af hF (λo ho=>KJ rfl ho rfl rfl) λa hF=>?_;refine aj hF λa hF=>?_;refine Rn.plain rfl (Rn.plain rfl (Rn.plain rfl ?_));refine DK (k:=0) (i:=1) QL hu hh h0 hob Ye WH o_ TG hN (λn c h=>by
  obtain⟨rfl,rfl⟩:=i7 h Wp;rcases hq with⟨rfl,rfl,_⟩|⟨hc,n1,c1,_,⟨_,rfl,_⟩|⟨_,rfl,_⟩⟩
  .exact⟨rfl,λ_=>rfl⟩
  .exact⟨by simp,λe=>absurd e hc⟩
  .exact⟨by simp,λe=>absurd e hc⟩) hS (hF.only ⟨rfl,rfl,rfl,rfl,rfl,rfl,trivial⟩) ct (λn' a w K' r' I hP hN hF ho hc hr hf hx=>by
  obtain⟨rfl,rfl⟩:=i7 hP Wp;rcases hq with⟨_,rfl,rfl,rfl,rfl,rfl⟩|⟨hc,_⟩
  .exact nt a w K' _ r' I rfl hN hF ho hc hr hf hx
  .exact absurd rfl hc) λn' c' a w K hP Wl hN hF hS=>?_
 obtain⟨rfl,rfl⟩:=i7 hP Wp;obtain⟨n1,c1,WW,hq⟩:∃n1 c1,kT KS (L.extract 8192 16384) le us hs n1 c1/\((c1=0/\ns=[1,16+c',32,9]/\j=true/\s=1/\n=n1/\c=0)\/(c1≠0/\ns=[1,16+c',32+c1,4]/\j=false/\s=0/\n=0/\c=max c' c1)):=by
  rcases hq with⟨e,_⟩|⟨_,h⟩
  .exact absurd e Wl
  .exact h
 refine DK (k:=1) (i:=2) QL hu hh h0 hob Ye WH o_ o_ hN (λn c h=>by
  obtain⟨rfl,rfl⟩:=i7 h WW;rcases hq with⟨rfl,rfl,_⟩|⟨hc,rfl,_⟩
  .exact⟨rfl,λ_=>rfl⟩
  .exact⟨by simp,λe=>absurd e hc⟩) hS hF ct (λn' a w K' r' I hP hN hF ho hc hr hf hx=>by
  obtain⟨rfl,rfl⟩:=i7 hP WW;rcases hq with⟨_,rfl,rfl,rfl,rfl,rfl⟩|⟨hc,_⟩
  .exact nt a w K' _ r' I rfl hN hF ho hc hr hf hx
  .exact absurd rfl hc) λn2 c2 a w K Xs R9 hN hF hS=>?_
 obtain⟨rfl,rfl⟩:=i7 Xs WW;obtain⟨rfl,rfl,rfl,rfl,rfl⟩:ns=[1,16+c',32+c2,4]/\j=false/\s=0/\n=0/\c=max c' c2:=by
  rcases hq with⟨e,_⟩|⟨_,h⟩
  .exact absurd e R9
  .exact h
 have b0:=o0 Wp;have b1:=o0 WW;refine aj hF λa hF=>?_;refine Rn.plain rfl (Rn.plain rfl (Rn.cond _ (hF.g 39) ?_));rw[decide_eq_false o_]
 iterate 2 refine aj hF λa hF=>?_
 have em:max (max 0 c') c2=max c' c2:=by omega
 rw[em]at hF;refine nD hF func159 (Dk 4 (max c' c2) o_ hS.ch hS.run) (λv w3 hv a hF=>?_) λch w2 hc=>by
  obtain⟨e3,e4⟩:=hN.cut hc.1 (n:=4) rfl;exact ct ch _ _ w2 hF.defers e4 (e3▸hc.2.from hS.ex)
 obtain⟨rfl,hr3,h3,r3,x3⟩:=hv;have o3:=x3.at (jO hS.ch.to hS.run hS.out d_ d_) hS.out;refine aM hF (λo ho=>dp ho (hF.g 2) (hF.g 70) o3 rfl) λa hF=>?_;have x4:=bE (w:=w3) ob (a_ 0 false 0 0 (max c' c2)) 100;refine Rn.plain rfl ?_;refine nt _ _ _ _ _ _ rfl (hN.next hr3 (n:=4) rfl) (hF.only ⟨rfl,trivial⟩) (aW o3) (h3.ex x4 o_) (x4.at o_ r3) (((hS.fls.keep x3 (lX hS.ch.to hS.run)).keep x4 λb cs fr hb e=>?_)) ((hS.ex.trans x3 λ_ _ e=>e).trans x4 λb hb e=>by omega);rw[e,o3]at hb;injection hb with hb;injection hb with _ hb;cases hb
end

theorem uV{W:List Int}{j:Bool}{s n:Int}(h:eo KS W L ns j s n c):ns[0]?=some 1:=by
 obtain⟨st,le,cr,us,hs,_,⟨_,rfl,_⟩|⟨_,_,_,rfl,_⟩|⟨_,_,n0,c0,_,⟨_,rfl,_⟩|⟨_,n1,c1,_,⟨_,rfl,_⟩|⟨_,rfl,_⟩⟩⟩⟩:=h<;>rfl
theorem Nt.full{K0 K:List Int}{room r:Int}{k:Nat}(h:Nt ns K0 room k K r)(hk:ns.length=k)(hns:ns≠[]):K=nts K0 ns/\(ns.length:Int)<=room:=(h.all hk).resolve_right hns
def G3(room:Int)(K ns:List Int)(j:Bool)(s n c:Int)(W:List Int)(L:ByteArray)(fl:Value)(cb rb:Nat)(w:World)(e:Ending)(w':World):Prop:=(∃v,e=.returned v/\(v=.agg (a_ 0 j s n c)/\(ns.length:Int)<=room/\j7 w' cb fl W (nts K ns) j s/\(∃RZ,w'.heap[rb]?=some (.cells (jM cb RZ false) 151))/\kS w' fl L/\Ex (XR cb rb) w w'))\/∃ch,e=.panicked ch/\(room<ns.length/\xd cb rb fl W (nts K (ns.take room.toNat)) w (.panicked ch) w')
def AQ(room:Int)(K ns:List Int)(j:Bool)(s n c:Int)(W:List Int)(L:ByteArray)(fl:Value)(cb rb:Nat)(w:World)(cs:List Frame)(g:Goroutine)(w':World):Prop:=(∃(a:Act) (k:List Item) (bk:Nat) (cells:Array Value) (tt:TypeId),g=cQ {(base 126).atR a k with mode:=.returning} cs/\a.defers=[]/\a.tmps[2]?=some (.pk bk 0)/\w'.heap[bk]?=some (.cells cells tt)/\cells.size=5/\G3 room K ns j s n c W L fl cb rb w (.returned (.agg cells)) w')\/zx 126 cs (G3 room K ns j s n c W L fl cb rb w) g w'
section
variable{cb rb:Nat}{W K:List Int}{room:Int}{j:Bool}{s n:Int}
theorem Ku(TQ:jZ)(QL:KS.length=64)(hQ:eo KS W L ns j s n c)(h:j7 w cb fl W K false 0)(hW:dP W)(hb:w.heap[rb]?=some (.cells (jM cb room false) 151))(TG:room<9223372036854775808)(hf:kS w fl L)(h0:¬XR cb rb 0)(hK:w.rangeAt 0 0 (aC KS)):
 Cl kX 126 #[.pk rb 0] w (G3 room K ns j s n c W L fl cb rb w):=by
 refine rP (t:=2) (ty:=100) (n:=5) func126 rfl (by exact underlying100) rfl iz λcs=>?_;show Rn _ (AQ room K ns j s n c W L fl cb rb w cs) _ _ _;refine bm (N:=71) func126 CE λa hF=>?_;have hN:Nt ns K room 0 K room:=Nt.start;have Un:=uV hQ;have hns:ns≠[]:=λe=>by rw[e]at Un;cases Un
 refine bl hF (λo ho=>gy ho) λw1 a b1 c1 z1 hF=>?_;have hl:=h.lt;have Up:=ar hb;have h1:=h.ex (ai (X:=λ_=>False) b1) (λe=>e);have f1:=hf.keep (ai (X:=λ_=>False) b1) (λ_ _ _ _ e=>e);have Wq:=cJ (ai (X:=λ_=>False) b1) (λe=>e) o_ hK;have QM:=bk b1 hb;refine aj hF λa hF=>?_;have ct:∀ch (a:Act) (k:List Item) w',a.defers=[]->room<ns.length->xd cb rb fl W (nts K (ns.take room.toNat)) w (.panicked ch) w'->Rn kX (AQ room K ns j s n c W L fl cb rb w cs) {(base 126).atR a k with mode:=.panicking ch} cs w':=λch a k w' hd hl hc=>Rn.now (.inr ⟨a,k,ch,rfl,hd,.inr ⟨ch,rfl,hl,hc⟩⟩);refine nD hF func157 (Ah 1 TG h1 QM) (λv w2 hv a hF=>?_) λch w2 hc=>by
  obtain⟨e3,e4⟩:=hN.cut hc.1 Un;exact ct ch _ _ w2 hF.defers e4 (e3▸hc.2.from (ai b1))
 obtain⟨rfl,hr,h2,QN,x2⟩:=hv;have hN1:=hN.next hr Un;have z2:=x2.size;have c2:=x2.at (by rintro(e|e)<;>omega) c1;have f2:=f1.keep x2 (lX h1.to QM);have U8:=cJ x2 h0 o_ Wq;have X2:Ex (XR cb rb) w w2:=(ai b1).trans x2 λb _ e=>e
 iterate 6 refine aj hF λa hF=>?_
 refine af hF (λo ho=>tR ho (hF.g 18)) λa hF=>?_;refine bf hF func158 (TQ W w2 cb 1 85 (Nat.le_refl _) hW (wJ h2.to) h2.lt) λv w3 hv a hF=>?_;obtain⟨st,le,cr,pu,lu,qu,ph,lh,qh,us,hs,rfl,hP,b3,hz⟩:=hv;obtain⟨st',le',cr',us',SI,Xs,hQ⟩:=hQ;obtain⟨rfl,hcc⟩:=E4 hP Xs;have h3:=h2.ex (ai (X:=λ_=>False) b3) (λe=>e);have f3:=f2.keep (ai (X:=λ_=>False) b3) (λ_ _ _ _ e=>e);have hl3:=h2.lt;have W5:=cJ (ai (X:=λ_=>False) b3) (λe=>e) o_ U8;have QW:=bk b3 QN;have c3:=bk b3 c2;have z3:=b3.size
 iterate 3 refine aj hF λa hF=>?_
 refine bl hF (λo ho=>sU ho) λw4 a b4 c4 z4 hF=>?_;have h4:=h3.ex (ai (X:=λ_=>False) b4) (λe=>e);have f4:=f3.keep (ai (X:=λ_=>False) b4) (λ_ _ _ _ e=>e);have W4:=cJ (ai (X:=λ_=>False) b4) (λe=>e) o_ W5;have R0:=bk b4 QW;have o4:=bk b4 c3;refine aM hF (λo ho=>lJ ho (hF.g 3) (hF.g 21) c4 rfl) λa hF=>?_;have x5:=bE (w:=w4) w3.heap.size (ei st le (.slice pu lu qu) (.slice ph lh qh)) 45;have c5:=aW (w:=w4) (cs:=ei st le (.slice pu lu qu) (.slice ph lh qh)) (t:=45) c4;have X5:Ex (XR cb rb) w (put w4 w3.heap.size (ei st le (.slice pu lu qu) (.slice ph lh qh)) 45):=((X2.trans (ai (X:=λ_=>False) b3) λ_ _ e=>e.elim).trans (ai (X:=λ_=>False) b4) λ_ _ e=>e.elim).trans x5 λb hb e=>by omega
 have h5:=h4.ex x5 o_;have Rz:=x5.at o_ R0;have o5:=x5.at o_ o4;have f5:=f4.keep x5 λb cs fr hb e=>by
  rw[e,c4]at hb;injection hb with hb;injection hb with _ hb;cases hb
 have hK5:=cJ x5 o_ o_ W4;have hz5:cr=0->∃bu bh,pu=some ⟨bu,0,none⟩/\lu=4/\qu=4/\ph=some ⟨bh,0,none⟩/\lh=4/\qh=4/\(put w4 w3.heap.size (ei st le (.slice pu lu qu) (.slice ph lh qh)) 45).heap[bu]?=some (.cells (us.map Value.bool).toArray 4)/\(put w4 w3.heap.size (ei st le (.slice pu lu qu) (.slice ph lh qh)) 45).heap[bh]?=some (.cells (hs.map Value.string).toArray 9):=λe=>by
  obtain⟨bu,bh,e1,e2,e3,e4,e5,e6,e7,e8⟩:=hz e;have l7:=ar e7;have l8:=ar e8;exact⟨bu,bh,e1,e2,e3,e4,e5,e6,x5.at o_ (bk b4 e7),x5.at o_ (bk b4 e8)⟩
 have s5:w.heap.size<=(put w4 w3.heap.size (ei st le (.slice pu lu qu) (.slice ph lh qh)) 45).heap.size:=X5.size;clear hz;revert c5 X5 h5 Rz o5 f5 hK5 hz5 s5;generalize put w4 w3.heap.size (ei st le (.slice pu lu qu) (.slice ph lh qh)) 45=w5;intro c5 X5 h5 Rz o5 f5 hK5 hz5 s5;clear x5 W4 R0 o4 h4 f4 h3 f3 W5 QW c3 h2 f2 U8 QN c2
 iterate 3 refine aj hF λa hF=>?_
 refine Rn.plain rfl (Rn.cond _ (hF.g 24) ?_);have fin:∀(c':Int) {a:Act} {w6 w7:World} {I:List Item} {K':List Int} {r':Int} {k:Nat},j=false/\s=0/\n=0/\c=c'->ns.length=k->Nt ns K room k K' r'->j7 w6 cb fl W K' false 0->w6.heap[rb]?=some (.cells (jM cb r' false) 151)->Ex (XR cb rb) w5 w6->w7=put w6 w.heap.size (a_ 0 false 0 0 c') 100->ay [(2,.pk w.heap.size 0)] 71 [] a->Rn kX (AQ room K ns j s n c W L fl cb rb w cs) ((base 126).atR a (.code .ret::I)) cs w7:=λc' a w6 w7 I K' r' k QZ hk hNk h6 r6 x6 e7 hF=>by
  subst e7;obtain⟨rfl,rfl,rfl,rfl⟩:=QZ;have o6:=x6.at (jO h5.to Rz o5 d_ d_) o5;have x7:=bE (w:=w6) w.heap.size (a_ 0 false 0 0 c) 100;refine Rn.ends rfl (.inr ⟨_,rfl⟩) (Rn.now (.inl ⟨_,_,w.heap.size,_,_,rfl,hF.defers,hF.slot 2 _ rfl,aW o6,rfl,.inl ⟨_,rfl,rfl,?_,?_,⟨_,x7.at o_ r6⟩,((f5.keep x6 (lX h5.to Rz)).keep x7 λb cs fr hb e=>?_),(X5.trans x6 λ_ _ e=>e).trans x7 λb hb e=>by omega⟩⟩))
  .exact(hNk.full hk hns).2
  .rw[←(hNk.full hk hns).1];exact h6.ex x7 o_
  rw[e,o6]at hb;injection hb with hb;injection hb with _ hb;cases hb
 by_cases hc:cr=0
 .subst hc;obtain⟨rfl,rfl,rfl,rfl⟩:=hcc rfl;obtain⟨bu,bh,rfl,rfl,rfl,rfl,rfl,rfl,hu5,hh5⟩:=hz5 rfl;have hS:Sx w cb rb w.heap.size w3.heap.size bu bh fl W _ L st le us hs KS (room- 1) w5:=⟨h5,Rz,f5,o5,c5,hu5,hh5,hK5,X5⟩;have hlen:us.length=4/\hs.length=4:=by
   rcases hP with⟨_,_,_,_,rfl,rfl⟩|⟨_,e⟩
   .exact⟨by simp[xt],by simp[ER]⟩
   .cases e
  have go:(st=255\/st=3855)->∀{a:Act},ay [(0,.pk rb 0),(2,.pk w.heap.size 0),(3,.pk w3.heap.size 0)] 71 [] a->Rn kX (AQ room K ns j s n c W L fl cb rb w cs) ((base 126).atR a [.code (E2 f126)]) cs w5:=λQZ a hF=>by
   refine Kw (j:=j) (s:=s) (n:=n) (c:=c) QL hlen.1 hlen.2 h0 (Nat.le_refl _) hl Up o_ hN1 hS ?_ hF ct λa' w' K' k r' I hk hNk hF ho TS hrn hfl hx=>?_
   .rcases hQ with⟨e,_⟩|⟨_,e1,e2,_⟩|⟨_,_,h⟩
    .exact absurd rfl e
    .exact(QZ.elim e1 e2).elim
    .exact h
   .exact Rn.ends rfl (.inr ⟨_,rfl⟩) (Rn.now (.inl ⟨_,_,w.heap.size,_,_,rfl,hF.defers,hF.slot 2 _ rfl,ho,rfl,.inl ⟨_,rfl,rfl,(hNk.full hk hns).2,(hNk.full hk hns).1▸TS,⟨_,hrn⟩,hfl,hx⟩⟩))
  iterate 4 refine aj hF λa hF=>?_
  by_cases e1:st=255
  .rw[show(st !=255)=false from by simpa using e1]at hF
   iterate 3 refine Rn.us hF λa hF=>?_
   refine af hF (λo ho=>fM ho (hF.g 30) rfl) λa hF=>?_;refine Rn.plain rfl (Rn.cond _ (hF.g 34) ?_);exact Rn.plain rfl (go (.inl e1) (hF.only ⟨rfl,rfl,rfl,trivial⟩))
  .rw[show(st !=255)=true from by simpa using e1]at hF
   iterate 3 refine aj hF λa hF=>?_
   refine af hF (λo ho=>fp ho (hF.g 30) (hF.g 33)) λa hF=>?_;refine Rn.plain rfl (Rn.cond _ (hF.g 34) ?_);by_cases e2:st=3855
   .rw[show(st !=3855)=false from by simpa using e2];exact Rn.plain rfl (go (.inr e2) (hF.only ⟨rfl,rfl,rfl,trivial⟩))
   .rw[show(st !=3855)=true from by simpa using e2];refine aj hF λa hF=>?_;obtain⟨rfl,XU⟩:ns=[1,3]/\j=false/\s=0/\n=0/\c=2:=by
     rcases hQ with⟨e,_⟩|⟨_,_,_,h⟩|⟨_,h,_⟩
     .exact absurd rfl e
     .exact h
     .exact(h.elim e1 e2).elim
    refine nD hF func159 (Dk 3 2 o_ h5 Rz) (λv w6 hv a hF=>?_) λch w2 hc=>by
     obtain⟨e3,e4⟩:=hN1.cut hc.1 (n:=3) rfl;exact ct ch _ _ w2 hF.defers e4 (e3▸hc.2.from X5)
    obtain⟨rfl,hr6,h6,r6,x6⟩:=hv;refine aM hF (λo ho=>dp ho (hF.g 2) (hF.g 36) (x6.at (jO h5.to Rz o5 d_ d_) o5) rfl) λa hF=>?_;exact Rn.plain rfl (fin 2 XU rfl (hN1.next hr6 (n:=3) rfl) h6 r6 x6 rfl (hF.only ⟨rfl,trivial⟩))
 .rw[show(cr !=0)=true from by simpa using hc];obtain⟨rfl,XU⟩:ns=[1,2]/\j=false/\s=0/\n=0/\c=1:=by
   rcases hQ with⟨_,h⟩|⟨e,_⟩|⟨e,_⟩
   .exact h
   .exact absurd e hc
   .exact absurd e hc
  refine aj hF λa hF=>?_;refine nD hF func159 (Dk 2 1 o_ h5 Rz) (λv w6 hv a hF=>?_) λch w2 hc=>by
   obtain⟨e3,e4⟩:=hN1.cut hc.1 (n:=2) rfl;exact ct ch _ _ w2 hF.defers e4 (e3▸hc.2.from X5)
  obtain⟨rfl,hr6,h6,r6,x6⟩:=hv;refine aM hF (λo ho=>dp ho (hF.g 2) (hF.g 26) (x6.at (jO h5.to Rz o5 d_ d_) o5) rfl) λa hF=>?_;exact Rn.plain rfl (fin 1 XU rfl (hN1.next hr6 (n:=2) rfl) h6 r6 x6 rfl (hF.only ⟨rfl,trivial⟩))
end

def Kc(room:Int)(K ns:List Int)(j:Bool)(s n c:Int)(W:List Int)(L:ByteArray)(fl:Value)(cb rb:Nat)(w:World)(v:Value)(w':World):Prop:=((v=.agg (a_ 0 j s n c)/\(ns.length:Int)<=room/\j7 w' cb fl W (nts K ns) j s/\kS w' fl L/\∃RZ,w'.heap[rb]?=some (.cells (jM cb RZ false) 151))\/(v=.agg (a_ 0 false 0 0 0)/\room<ns.length/\j7 w' cb fl W (nts K (ns.take room.toNat)) false 0/\kS w' fl L/\∃RZ,w'.heap[rb]?=some (.cells (jM cb RZ true) 151)))/\Ex (XR cb rb) w w'
section
variable{cb rb:Nat}{W K:List Int}{room:Int}{j:Bool}{s n:Int}
theorem QC(TQ:jZ)(QL:KS.length=64)(hQ:eo KS W L ns j s n c)(h:j7 w cb fl W K false 0)(hW:dP W)(hb:w.heap[rb]?=some (.cells (jM cb room false) 151))(TG:room<9223372036854775808)(hf:kS w fl L)(h0:¬XR cb rb 0)(hK:w.rangeAt 0 0 (aC KS))(cs:List Frame):
 Rn kX (λg w'=>∃(a:Act) (k:List Item) (bk:Nat) (cells:Array Value) (tt:TypeId),g=cQ {(base 100).atR a k with mode:=.returning} cs/\a.defers=[]/\a.tmps[2]?=some (.pk bk 0)/\w'.heap[bk]?=some (.cells cells tt)/\cells.size=5/\Kc room K ns j s n c W L fl cb rb w (.agg cells) w') (Frame.enter prog 100 #[.pk rb 0] .normal) cs w:=by
 refine bm (N:=6) func100 MR λa hF=>?_;have hl:=h.lt;have Up:=ar hb;refine bl hF (λo ho=>zY rfl ho (hF.g 0)) λw1 a b1 c1 z1 hF=>?_;refine bl hF (λo ho=>gy ho) λw2 a b2 c2 z2 hF=>?_;have B2:Bw w w2:=ab b1 b1.size b2;have h2:=h.ex (ai (X:=λ_=>False) B2) (λe=>e);have f2:=hf.keep (ai (X:=λ_=>False) B2) (λ_ _ _ _ e=>e);have U8:=cJ (ai (X:=λ_=>False) B2) (λe=>e) o_ hK;have QN:=bk B2 hb;have c1:=bk b2 c1;refine af (w':=w2) hF (v:=.func (.func 125) #[] #[.pk w.heap.size 0]) (λo ho=>?_) λa hF=>?_
 .have:=(dG (ev:=a.eval) (w:=w2) prog (cap:=#[.tmp 1]) ho).1
  rwa [show(#[Operand.tmp 1]:Array Operand).map a.eval=#[.pk w.heap.size 0]from by simp[hF.g 1]]at this
 refine ND (d:=3) hF rfl rfl rfl rfl rfl rfl rfl rfl λa hF=>?_;refine af hF (λo ho=>(an (v:=.pk rb 0) mN ho (hF.g 1) ((ak c1 0).trans rfl)).1) λa hF=>?_;refine nD hF func126 (Ku TQ QL hQ h2 hW QN TG f2 h0 U8) (λv w3 hv a hF=>?_) λch w3 hc=>?_
 rotate_left
 .obtain⟨hlo,v,on,sl,RZ,e,h3,r3,x3⟩:=hc;cases e;have o3:=x3.at (by rintro(e|e)<;>omega) c2;have p3:=x3.at (by rintro(e|e)<;>omega) c1;have f3:=f2.keep x3 (lX h2.to QN);have QQ:=zc h.to hb;refine wX (g:=125) s_ hF.defers func125 k_ d_ ?_;have sl2:=hF.slot 2 _ rfl;generalize hfr:({{(base 100).atR a _ with mode:=.panicking [{v:=v,recovered:=false}]}with defers:=[]}:Frame)=frD;have QO:frD.mode=.panicking [{v:=v,recovered:=false}]:=by rw[←hfr]
  show Rn _ _ (Frame.enter _ _ ([.pk w.heap.size 0]:List Value).toArray .deferred) _ _;rw[Ay (N:=11) [.pk w.heap.size 0] func125 FE rfl];have hG:=dc [.pk w.heap.size 0] 11 s_;refine af hG (λo ho=>(an (v:=.pk rb 0) mN ho (hG.g 0) ((ak p3 0).trans rfl)).1) λa hF=>?_
  iterate 3 refine aj hF λa hF=>?_
  refine Rn.plain rfl (Rn.cond _ (hF.g 4) ?_);refine af hF (λo ho=>(an (v:=.pk rb 0) mN ho (hF.g 0) ((ak p3 0).trans rfl)).1) λa hF=>?_
  iterate 3 refine aj hF λa hF=>?_
  refine bH hF func99 (zF h3) λw4 ⟨h4,x4,z4⟩ a hF=>?_;have o4:=x4.at o_ o3;have r4:=x4.at (Ne.symm QQ) r3;have f4:=f3.keep x4 λb cs fr hb e=>lX h3.to r3 b cs fr hb (.inl e);refine Rn.gr (NA (d:=10) hF rfl rfl rfl rfl rfl d_ rfl rfl QO λa hF=>?_);refine Rn.plain rfl (Rn.ends rfl (.inl rfl) ?_);refine wY (v:=.tuple #[]) (fn:=f125) rfl hF.defers func125 k_ ?_;subst hfr;exact Rn.now ⟨⟨_,[]⟩,_,w1.heap.size,_,_,rfl,rfl,sl2,o4,rfl,.inr ⟨rfl,hlo,h4,f4,_,r4⟩,((ai (X:=XR cb rb) B2).trans x3 λ_ _ e=>e).trans x4 λb _ e=>.inl e⟩
 obtain⟨rfl,QZ,h3,⟨RZ,r3⟩,f3,x3⟩:=hv;have o3:=x3.at (by rintro(e|e)<;>omega) c2;have p3:=x3.at (by rintro(e|e)<;>omega) c1;refine aM hF (λo ho=>dp ho (hF.g 2) (hF.g 5) o3 rfl) λa hF=>?_;have x4:=bE (w:=w3) w1.heap.size (a_ 0 j s n c) 100;have h4:=h3.ex x4 o_;have r4:=x4.at o_ r3;have p4:=x4.at o_ p3;have o4:=aW (w:=w3) (cs:=a_ 0 j s n c) (t:=100) o3;have f4:=f3.keep x4 λb cs fr hb e=>by
  rw[e,o3]at hb;injection hb with hb;injection hb with _ hb;cases hb
 have X4:=((ai (X:=XR cb rb) B2).trans x3 λ_ _ e=>e).trans x4 λb hb e=>by omega
 revert h4 r4 p4 o4 f4 X4;generalize put w3 w1.heap.size (a_ 0 j s n c) 100=w4;intro h4 r4 p4 o4 f4 X4;refine Rn.plain rfl (Rn.ends rfl (.inr ⟨_,rfl⟩) ?_);refine wX (g:=125) s_ hF.defers func125 k_ d_ ?_;have sl2:=hF.slot 2 _ rfl;generalize hfr:({{(base 100).atR a _ with mode:=.returning}with defers:=[]}:Frame)=frD;show Rn _ _ (Frame.enter _ _ ([.pk w.heap.size 0]:List Value).toArray .deferred) _ _;rw[Ay (N:=11) [.pk w.heap.size 0] func125 FE rfl];have hG:=dc [.pk w.heap.size 0] 11 s_;refine af hG (λo ho=>(an (v:=.pk rb 0) mN ho (hG.g 0) ((ak p4 0).trans rfl)).1) λa hF=>?_
 iterate 3 refine aj hF λa hF=>?_
 refine Rn.plain rfl (Rn.cond _ (hF.g 4) ?_);refine Rn.plain rfl (Rn.ends rfl (.inl rfl) ?_);refine wY (v:=.tuple #[]) (fn:=f125) rfl hF.defers func125 k_ ?_;subst hfr;exact Rn.now ⟨⟨_,[]⟩,_,w1.heap.size,_,_,rfl,rfl,sl2,o4,rfl,.inl ⟨rfl,QZ,h4,f4,_,r4⟩,X4⟩
end

section
variable{W ns':List Int}{j j':Bool}{s n s' n' c':Int}
theorem nH(h:eo KS W L ns j s n c):ns.length<=4:=by
 obtain⟨st,le,cr,us,hs,_,h⟩:=h;rcases h with⟨_,rfl,_⟩|⟨_,_,_,rfl,_⟩|⟨_,_,n0,c0,_,⟨_,rfl,_⟩|⟨_,n1,c1,_,⟨_,rfl,_⟩|⟨_,rfl,_⟩⟩⟩<;>simp
theorem AV(h:eo KS W L ns j s n c)(h':eo KS W L ns' j' s' n' c'):ns=ns'/\j=j'/\s=s'/\n=n'/\c=c':=by
 obtain⟨st,le,cr,us,hs,hR,h⟩:=h;obtain⟨st',le',cr',us',SI,Wo,h'⟩:=h';obtain⟨e,e2⟩:=E4 hR Wo;subst e;rcases h with⟨c1,rfl,rfl,rfl,rfl,rfl⟩|h
 .rcases h' with⟨_,rfl,rfl,rfl,rfl,rfl⟩|⟨h0,_⟩|⟨h0,_⟩
  .exact⟨rfl,rfl,rfl,rfl,rfl⟩
  .exact absurd h0 c1
  .exact absurd h0 c1
 .have Wl:cr=0:=h.elim (·.1) (·.1);obtain⟨rfl,rfl,rfl,rfl⟩:=e2 Wl;have h':=h'.resolve_left λg=>g.1 Wl;rcases h with⟨_,n1,n2,rfl,rfl,rfl,rfl,rfl⟩|⟨_,SR,n0,c0,k0,h⟩
  .rcases h' with⟨_,_,_,rfl,rfl,rfl,rfl,rfl⟩|⟨_,g,_⟩
   .exact⟨rfl,rfl,rfl,rfl,rfl⟩
   .exact(g.elim n1 n2).elim
  .rcases h' with⟨_,n1,n2,_⟩|⟨_,_,n0',c0',k0',h'⟩
   .exact(SR.elim n1 n2).elim
   .obtain⟨rfl,rfl⟩:=i7 k0 k0';rcases h with⟨q,rfl,rfl,rfl,rfl,rfl⟩|⟨q,n1,c1,k1,h⟩
    .rcases h' with⟨_,rfl,rfl,rfl,rfl,rfl⟩|⟨q',_⟩
     .exact⟨rfl,rfl,rfl,rfl,rfl⟩
     .exact absurd q q'
    .rcases h' with⟨q',_⟩|⟨_,n1',Yq,k1',h'⟩
     .exact absurd q' q
     .obtain⟨rfl,rfl⟩:=i7 k1 k1';rcases h with⟨q1,rfl,rfl,rfl,rfl,rfl⟩|⟨q1,rfl,rfl,rfl,rfl,rfl⟩<;>rcases h' with⟨q2,rfl,rfl,rfl,rfl,rfl⟩|⟨q2,rfl,rfl,rfl,rfl,rfl⟩
      .exact⟨rfl,rfl,rfl,rfl,rfl⟩
      .exact absurd q1 q2
      .exact absurd q2 q1
      .exact⟨rfl,rfl,rfl,rfl,rfl⟩
end
section
variable{cb rb:Nat}{W K:List Int}{j:Bool}{s n room:Int}{on:Bool}{p:Option Addr}{q:Nat}
theorem P6(TQ:jZ)(QL:KS.length=64)(hQ:eo KS W L ns j s n c)(h:j7 w cb fl W K false 0)(hW:dP W)(hb:w.heap[rb]?=some (.cells (jM cb room false) 151))(TG:room<9223372036854775808)(hf:kS w fl L)(h0:¬XR cb rb 0)(hK:w.rangeAt 0 0 (aC KS)):
 Cl kX 100 #[.pk rb 0] w λe w'=>∃v,e=.returned v/\Kc room K ns j s n c W L fl cb rb w v w':=by
 refine ce (t:=2) (ty:=100) (n:=5) func100 rfl (by exact underlying100) rfl iz λcs=>?_;exact(QC TQ QL hQ h hW hb TG hf h0 hK cs).wide λg w' ⟨a,k,bk,cells,tt,h2,h3,h4,h5,h6,h7⟩=>⟨a,k,bk,cells,tt,h2,h3,h4,h5,h6,_,rfl,h7⟩
end

def JH(v:Value):Prop:=ig v=true\/∃xs:Array Value,v=.agg xs/\∀u∈xs,ig u=true
theorem gS{α:Type}{t:TypeId}{xs:Array Value}{off:Nat}{k:Value->Sem α}(h:∀u∈xs,ig u=true)(hk:∀v,JH v->aG P (k v)):aG P (part t xs off>>=k):=by
 unfold part;rw[bind_assoc];refine(rz t).bind λq=>?_;cases q with
 |true=>
  simp only[if_true];rw[bind_assoc];refine(eN t).bind λn=>hk _ (.inr ⟨_,rfl,λu hu=>h u ?_⟩);obtain⟨m,hm,e⟩:=Array.mem_iff_getElem.1 hu;rw[←e,Array.getElem_extract];exact Array.getElem_mem _
 |false=>
  simp only[Bool.false_eq_true,if_false];cases e:xs[off]? with
  |none=>exact .halt _
  |some v=>exact hk v (.inl (h v (Array.mem_of_getElem? e)))
theorem Cf:∀(d:Nat) (t:TypeId) (x y:Value),JH x->JH y->aG P (Op.equalIn d t x y):=by
 intro d;induction d with
 |zero=>exact λ_ _ _ _ _=>.halt _
 |succ d ih=>
  intro t x y hx hy;rcases hx with hx|⟨xs,rfl,hx⟩
  .rcases hy with hy|⟨ys,rfl,hy⟩
   .exact m7 t (.inl ⟨hx,hy⟩) _
   .unfold Op.equalIn;refine(bj t).bind λu=>?_;cases x<;>first|(simp[ig]at hx;done)|(split<;>first|exact .halt _|contradiction)
  .rcases hy with hy|⟨ys,rfl,hy⟩
   .unfold Op.equalIn;refine(bj t).bind λu=>?_;cases y<;>first|(simp[ig]at hy;done)|(split<;>first|exact .halt _|contradiction)
   .unfold Op.equalIn;refine(bj t).bind λu=>?_;cases u<;>first|exact .halt _|skip
    .refine(eN _).bind λn=>?_;refine aG.bind ?_ λr=>?_
     .rw[Std.Legacy.Range.forIn_eq_forIn_range'];refine jU _ (λf b=>?_) _ _;refine gS hx λv hv=>gS hy λv' S9=>(ih _ _ _ hv S9).bind λq=>?_;cases q<;>exact .pure _
     .obtain⟨r,_⟩:=r;cases r<;>exact .pure _
    .refine mZ.bind λP'=>cL ((aG.halt _:aG P (unsupported _)).bind λ_=>?_) ?_
     all_goals
        refine(m5 _ _ _ λf b=>cL (gS hx λv hv=>gS hy λv' S9=>(ih _ _ _ hv S9).bind λq=>?_) (.pure _)).bind λr=>?_
        .cases q<;>exact .pure _
        .obtain⟨r,_⟩:=r;cases r<;>exact .pure _
def LE(f:Func):Code:=.seq (.seq (rG f 4) (.cond (.tmp 13) .skip (.exit 0))) (.seq (.block 1 (rG f 6)) (rG f 5))
def Lv(f:Func):Code:=.seq (rG f 7) .ret
theorem MD:f45.body=some (.seq (rG f45 0) (.seq (rG f45 1) (.seq (rG f45 2) (.seq (.seq (rG f45 3) (.block 0 (.loop (LE f45)))) (Lv f45))))):=by kernel_rfl
def Iu(f:Func):Code:=.seq (.seq (rG f 3) (.cond (.tmp 15) .skip (.exit 0))) (.seq (.block 1 (.seq (rD f 5) (.cond (.tmp 45) (.seq (rG f 6) .ret) .skip))) (rG f 4))
def Iq(f:Func):Code:=.seq (rG f 7) .ret
theorem MK:f48.body=some (.seq (rG f48 0) (.seq (rG f48 1) (.seq (.seq (rG f48 2) (.block 0 (.loop (Iu f48)))) (Iq f48)))):=by kernel_rfl
def NR(i:Nat):Array Value:=(List.replicate i (Value.int .i64 77)++List.replicate (4- i) (Value.int .i64 0)).toArray
theorem If(hi:i<4):(NR i).setIfInBounds i (.int .i64 77)=NR (i+1):=by
 obtain rfl|rfl|rfl|rfl:i=0\/i=1\/i=2\/i=3:=by omega
 all_goals rfl
theorem Lo(hi:i<4):(NR 4)[i]?=some (.int .i64 77):=by
 obtain rfl|rfl|rfl|rfl:i=0\/i=1\/i=2\/i=3:=by omega
 all_goals rfl
section
variable{o:Oper}{y:Operand}{g k:Nat}
theorem L4{r s n:Int}{j:Bool}{u:TypeId}(QH:o.op=.binOp .eql 100 x y u)(hx:ev x=.agg (a_ r j s n c))(hy:ev y=.agg (a_ r j s n c)):(execOp ev o).run prog w=.ok (.value (.bool true)) w:=by
 simp[execOp,QH,hx,hy,go_sem,a_]
theorem Fe{r s n:Int}{j:Bool}{u:TypeId}(QH:o.op=.binOp .eql 100 x y u)(hx:ev x=.agg (a_ r j s n c))(hy:ev y=.agg (a_ r j s n c)):(execOp ev o).run prog w=.ok (.value (.bool true)) w/\aG prog (execOp ev o):=by
 refine⟨L4 QH hx hy,?_⟩;have e:execOp ev o=(do pure (.value (←(do eqGuard .eql 100 x y (.agg (a_ r j s n c)) (.agg (a_ r j s n c));binOp .eql 100 (.agg (a_ r j s n c)) (.agg (a_ r j s n c)))))):=by simp only[execOp,QH,hx,hy]
 have hf:JH (.agg (a_ r j s n c)):=.inr ⟨_,rfl,by simp[a_,ig]⟩;rw[e];refine aG.bind (aG.bind ?_ λ_=>(Cf _ _ _ _ hf hf).bind λ_=>.pure _) λ_=>.pure _;refine .eqv (s':=.pure ()) (λw es=>?_) (.pure _);have h:prog.eqGuardType prog.depth 100=false:=by kernel_rfl
 simp[-Sem.runT_eq,eqGuard,program,bind,Sem.bind,Sem.runT,pure,h]
end

section
variable{o:Oper}{y:Operand}
theorem Ij(h0:0<n)(hn:n<=17592186044416)(QH:o.op=.makeSlice 24 x y)(hx:ev x=.int .i64 n)(hy:ev y=.int .i64 n):
 (execOp ev o).run prog w=.ok (.value (.sk w.heap.size n n)) (w.alloc (.cells (Array.replicate n (.int .i64 0)) 3)):=by
 have hu:prog.underlying 24=some (.slice 3):=by kernel_rfl
 have wl:IntKind.i64.wrap (n:Int)=n:=by rw[IntKind.wrap_i64];omega
 obtain⟨i,hi,Ss⟩:=Option.map_eq_some_iff.1 (show(prog.info? 3).map (λi=>(i.zero,i.size,i.bytes))=some (some (.int .i64 0),1,8) by kernel_rfl);simp only[Prod.mk.injEq]at Ss;have n2:¬(281474976710656<8*(n:Int)):=by omega
 have W8:¬n=0:=by omega
 simp[execOp,QH,hx,hy,Instr.makeSlice,run_underlying hu,typeInfo,sizeOf,zeroValue,hi,Ss.1,Ss.2.1,Ss.2.2,wl,n2,W8,newRow,go_sem];rw[if_neg (by omega:¬(n:Int)<0),show Array.map (λx=>([Value.int .i64 0]:List Value)[x%1]?.getD default) (Array.range n)=Array.replicate n (.int .i64 0)from Array.ext s_ λi h1 h2=>by simp[Nat.mod_one]]
theorem J9{k g q:Nat}{L:List Value}(hv:cz w v L)(hL:L.length<=n)(h1:∀u∈L,u.oneCell'=true)(hg:w.heap[g]?=some (.cells cur 3))(hc:cur.size=n)(QH:o.op=.call {callee:=.builtin .copy,args:=#[.tmp k,.tmp j],argTypes:=#[24,24]})(hx:ev (.tmp k)=.sk g n q)(hy:ev (.tmp j)=v):
 ∃u w',(execOp ev o).run prog w=.ok (.value u) w'/\w'.heap[g]?=some (.cells (L++cur.toList.drop L.length).toArray 3)/\Ex (· =g) w w'/\w'.heap.size=w.heap.size:=by
 have hu:prog.underlying 24=some (.slice 3):=by kernel_rfl
 have e:execOp ev o=(do pure (.value (←Builtin.copy_ #[24,24] o.type #[.sk g n q,v]))):=by simp[execOp,QH,resolve,hx,hy,invoke,builtin]
 have hz:∀w:World,(sizeOf 3).run prog w=.ok 1 w:=λw=>by kernel_rfl
 obtain⟨p,cap,rfl,hp⟩:=hv;by_cases hL0:L=[]
 .subst hL0;refine⟨.int .i64 0,w,?_,by simpa using hg,Ex.refl,rfl⟩;rw[e];cases p<;>simp[Builtin.copy_,run_underlying hu,Builtin.lenOf,Builtin.firstCells,hz,loadCells,loadCellsFrom,storeCells,goInt]
 .have hl0:0<L.length:=List.length_pos_iff.2 hL0;obtain⟨ad,rfl,_⟩:=hp 0 L[0] (List.getElem?_eq_getElem hl0);have QR:∀j u,L[j]?=some u->w.cell? (ad.add j)=some u:=λj u hj=>by
   obtain⟨q',e1,e2⟩:=hp j u hj;cases e1;exact e2
  have hmin:Nat.min L.length n=L.length:=Nat.min_eq_left hL;have hr:=run_copy_row (P:=prog) w 24 24 o.type 3 g 0 n q ad L.length cap cur 3 L hu k_ hg hmin.symm QR o_ h1;rw[fL hg,List.take_zero,List.nil_append,Nat.zero_add]at hr;exact⟨_,_,by rw[e];exact jK hr,aW hg,bE _ _ _,eJ⟩
end
def jA(L:List Int)(i:Nat):Array Value:=(aH L++(NR i).toList).toArray
theorem sQ(L:List Int)(hi:i<=4):(jA L i).size=L.length+4:=by simp[jA,NR,aH];omega
theorem Ek(L:List Int)(hi:i<4):(jA L i).setIfInBounds (L.length+i) (.int .i64 77)=jA L (i+1):=by
 unfold jA;rw[←If hi,List.setIfInBounds_toArray,List.set_append_right _ _ (by simp[aH])];simp[aH]
theorem ud(L:List Int){k:Nat}(hk:k<L.length)(i:Nat):(jA L i)[k]?=some (.int .i64 L[k]):=by
 unfold jA;rw[List.getElem?_toArray,List.getElem?_append_left (by simpa[aH]using hk)];simp[aH,hk]
theorem Ia(L:List Int){k:Nat}(hk:L.length<=k)(h4:k<L.length+4):(jA L 4)[k]?=some (.int .i64 77):=by
 unfold jA;rw[List.getElem?_toArray,List.getElem?_append_right (by simpa[aH]using hk),Array.getElem?_toList,show(aH L).length=L.length from by simp[aH]];exact Lo o_
section
variable{g:Nat}{L:List Int}{p:Option Addr}{cap:Nat}
theorem Ej(hL:L.length<=17592186044000)(nt:∀a w,w.heap[g]?=some (.cells (jA L 4) 3)->Ex (· =g) w0 w->ay [(0,.slice p L.length cap),(3,.sk g (L.length+4) (L.length+4))] 26 [] a->Rn kX Goal ((base 45).atR a [.code (Lv f45)]) cs w):
 ∀(m i:Nat) (w:World) (a:Act),4- i=m->i<=4->w.heap[g]?=some (.cells (jA L i) 3)->Ex (· =g) w0 w->ay [(0,.slice p L.length cap),(3,.sk g (L.length+4) (L.length+4)),(4,.int .i64 i)] 26 [] a->Rn kX Goal ((base 45).atR a [.code (LE f45),.inLoop (LE f45),.inBlock 0,.code (Lv f45)]) cs w:=by
 intro m;induction m with
 |zero=>
  intro i w a hm hi hc hx hF
  iterate 2 refine aB hF λa hF=>?_
  refine Rn.plain rfl (Rn.cond _ (hF.g 13) ?_);rw[decide_eq_false o_];obtain rfl:i=4:=by omega
  exact Rn.plain rfl (nt _ _ hc hx (hF.only ⟨rfl,rfl,trivial⟩))
 |succ m ih=>
  intro i w a hm hi hc hx hF
  iterate 2 refine aB hF λa hF=>?_
  refine Rn.plain rfl (Rn.cond _ (hF.g 13) ?_);rw[decide_eq_true o_]
  iterate 4 refine aB hF λa hF=>?_
  refine af hF (λo ho=>aI (m:=L.length) (n:=i) ho (hF.g 18) (hF.g 19) o_) λa hF=>?_;refine af hF (λo ho=>bS (L.length+i) k_ ho (hF.g 16) (hF.g 20) o_) λa hF=>?_;rw[Nat.zero_add]at hF;refine aM hF (λo ho=>cI (v:=.int .i64 77) rfl rfl k_ ho (hF.g 21) rfl hc (by rw[sQ L o_];omega)) λa hF=>?_;rw[Ek L o_];have c2:=aW (cs:=jA L (i+1)) (t:=3) hc;have x2:=hx.trans (bE (w:=w) g (jA L (i+1)) 3) λ_ _ e=>e;refine aB hF λa hF=>?_;refine af hF (λo ho=>aI (n:=1) ho (hF.g 14) rfl o_) λa hF=>?_;refine aB hF λa hF=>?_;exact Rn.plain rfl (Rn.plain rfl (ih (i+1) _ _ o_ o_ c2 x2 (hF.only ⟨rfl,rfl,rfl,trivial⟩)))
theorem Ae(hv:cz w (.slice p L.length cap) (aH L))(hL:L.length<=17592186044000):Cl kX 45 #[.slice p L.length cap] w λe w'=>e=.returned (.sk w.heap.size L.length (L.length+4))/\w'.heap[w.heap.size]?=some (.cells (jA L 4) 3)/\Bw w w':=by
 refine av (N:=26) func45 MD λcs a hF=>?_
 iterate 3 refine aB hF λa hF=>?_
 refine af hF (λo ho=>aI (m:=L.length) (n:=4) ho (hF.get (d:=6) rfl) rfl o_) λa hF=>?_;refine bl hF (λo ho=>Ij o_ o_ ho (hF.get (d:=7) rfl) (hF.get (d:=7) rfl)) λw1 a b1 c1 z1 hF=>?_
 iterate 3 refine aB hF λa hF=>?_
 have e0:(aH L++(Array.replicate (L.length+4) (Value.int .i64 0)).toList.drop (aH L).length).toArray=jA L 0:=by
  unfold jA
  congr 2
  simp[aH,NR]
 refine dF (R:=λ_ w2=>w2.heap[w.heap.size]?=some (.cells (jA L 0) 3)/\Ex (· =w.heap.size) w1 w2/\w2.heap.size=w1.heap.size) hF (λo ho e=>by
  obtain⟨u,w',q1,q2,q3,q4⟩:=J9 (w:={w1 with drawn:=e}) (hv.below ⟨b1.os,b1.tape,b1.output,b1.size,b1.block⟩) (by simp[aH]) (iH L) c1 s_ ho (hF.get (d:=9) rfl) (hF.get (d:=10) rfl);rw[e0]at q2;exact⟨u,w',q1,q2,⟨q3.os,q3.output,q3.tape,q3.size,q3.block⟩,q4⟩) λv w2 ⟨c2,x2,z2⟩ a hF=>?_
 refine aB hF λa hF=>?_;refine Rn.plain rfl (Rn.plain rfl (Rn.plain rfl (Ej (w0:=w2) hL (λa w3 c3 x3 hF=>?_) 4 0 w2 _ rfl o_ c2 Ex.refl (hF.only ⟨rfl,rfl,rfl,trivial⟩))))
 iterate 3 refine aB hF λa hF=>?_
 refine af hF (λo ho=>pI (e:=3) ho (hF.get (d:=22) rfl) (hF.get (d:=24) rfl) k_ k_ o_) λa hF=>?_;refine aB hF λa hF=>?_;have X:Ex (λ_=>False) w w3:=((ai b1).trans x2 λb hb e=>by omega).trans x3 λb hb e=>by omega
 exact aL hF ⟨rfl,c3,X.os,X.tape,X.output,X.size,λb hb=>X.block b hb λe=>e⟩
theorem C1(hL:L.length<=17592186044000)(hv:cz w0 (.slice p L.length cap) (aH L))(hc:w0.heap[g]?=some (.cells (jA L 4) 3))(nt:∀a w,Bw w0 w->ay [] 46 [] a->Rn kX Goal ((base 48).atR a [.code (Iq f48)]) cs w):
 ∀(m i:Nat) (w:World) (a:Act),L.length+4- i=m->i<=L.length+4->Bw w0 w->ay [(1,.slice p L.length cap),(5,.sk g (L.length+4) (L.length+4)),(6,.int .i64 i)] 46 [] a->Rn kX Goal ((base 48).atR a [.code (Iu f48),.inLoop (Iu f48),.inBlock 0,.code (Iq f48)]) cs w:=by
 intro m;induction m with
 |zero=>
  intro i w a hm hi hb hF
  iterate 4 refine aB hF λa hF=>?_
  refine Rn.plain rfl (Rn.cond _ (hF.g 15) ?_);rw[decide_eq_false o_];exact Rn.plain rfl (nt _ _ hb (hF.only trivial))
 |succ m ih=>
  intro i w a hm hi hb hF
  iterate 4 refine aB hF λa hF=>?_
  refine Rn.plain rfl (Rn.cond _ (hF.g 15) ?_);rw[decide_eq_true o_];have hF:ay [(1,.slice p L.length cap),(5,.sk g (L.length+4) (L.length+4)),(6,.int .i64 i)] 46 [] a:=hF.only ⟨rfl,rfl,rfl,trivial⟩
  iterate 4 refine Rn.plain rfl ?_
  have TT:=bk hb hc;have next:∀(a:Act) (w1:World) (F:List (Nat×Value)),F.lookup 45=some (.bool false)->wS [(1,.slice p L.length cap),(5,.sk g (L.length+4) (L.length+4)),(6,.int .i64 i)] F->ay F 46 [] a->Bw w w1->Rn kX Goal ((base 48).atR a [.code (.cond (.tmp 45) (.seq (rG f48 6) .ret) .skip),.inBlock 1,.code (rG f48 4),.inLoop (Iu f48),.inBlock 0,.code (Iq f48)]) cs w1:=λa w1 F h45 Sd hF b1=>by
   refine Rn.cond _ (hF.get (d:=45) h45) ?_;have hF:=hF.only Sd;refine aB hF λa hF=>?_;refine af hF (λo ho=>aI (n:=1) ho (hF.g 16) rfl o_) λa hF=>?_;refine aB hF λa hF=>?_;exact Rn.plain rfl (Rn.plain rfl (ih (i+1) _ _ o_ o_ (ab hb hb.size b1) (hF.only ⟨rfl,rfl,rfl,trivial⟩)))
  refine bY hF ?_;by_cases SS:i<L.length
  .obtain⟨q0,c0,e0,hp⟩:=hv.below hb;injection e0 with e1 _ e2;subst e1 e2;obtain⟨ad,rfl,SX⟩:=hp i (.int .i64 L[i]) (by simp[aH,SS])
   iterate 4 refine gK ?_
   rw[decide_eq_true (by omega:((i:Nat):Int)<((L.length:Nat):Int))]
   iterate 3 refine gK ?_
   refine Gx.q ?_ (y:=λo a w ho z=>bS i k_ ho gx gx o_);refine Gx.q ?_ (v:=.int .i64 L[i]) (y:=λo a w ho z=>(an az ho gx ((ak (bk z.b TT) _).trans (by rw[Nat.zero_add];exact ud L SS 4))).1)
   iterate 2 refine gK ?_
   refine Gx.q ?_ (v:=.pointer (some (ad.add i))) (y:=λo a w ho z=>(bJ (e:=3) k_ (λw=>by kernel_rfl) ho gx gx SS).1);refine Gx.q ?_ (v:=.int .i64 L[i]) (y:=λo a w ho z=>(an az ho gx (aR z.b SX)).1);refine Gx.q ?_ (v:=.bool false) (y:=λo a w ho z=>by rw[lU (m:=L[i]) (n:=L[i]) ho gx gx];simp);refine Gx.q ?_ (v:=.bool false) (y:=λo a w ho z=>fp ho gx gx)
   iterate 4 refine gK ?_
   refine Gx.q ?_ (v:=.bool false) (y:=λo a w ho z=>by rw[xH ho gx gx,decide_eq_false o_]);refine gK ?_
   iterate 5 refine Gx.s ?_
   refine Gx.q ?_ (v:=.bool false) (y:=λo a w ho z=>fM ho gx rfl);refine Gx.q ?_ (v:=.bool false) (y:=λo a w ho z=>fM ho gx gx);exact Gx.e λa w1 hF b1 _=>next a w1 _ rfl ⟨rfl,rfl,rfl,trivial⟩ hF b1
  .iterate 4 refine gK ?_
   rw[decide_eq_false (by omega:¬((i:Nat):Int)<((L.length:Nat):Int))];refine gK ?_
   iterate 9 refine Gx.s ?_
   refine Gx.q ?_ (v:=.bool false) (y:=λo a w ho z=>fM ho gx rfl)
   iterate 5 refine gK ?_
   rw[decide_eq_true (by omega:((i:Nat):Int)≥((L.length:Nat):Int))]
   iterate 3 refine gK ?_
   refine Gx.q ?_ (y:=λo a w ho z=>bS i k_ ho gx gx o_);refine Gx.q ?_ (y:=λo a w ho z=>(an az ho gx ((ak (bk z.b TT) _).trans (by rw[Nat.zero_add];exact Ia L o_ o_))).1);refine Gx.q ?_ (y:=λo a w ho z=>lU (m:=77) (n:=77) ho gx rfl);refine Gx.q ?_ (v:=.bool false) (y:=λo a w ho z=>fp ho gx gx);refine Gx.q ?_ (v:=.bool false) (y:=λo a w ho z=>fM ho gx gx);exact Gx.e λa w1 hF b1 _=>next a w1 _ rfl ⟨rfl,rfl,rfl,trivial⟩ hF b1
theorem vW(hL:L.length<=17592186044000)(hv:cz w (.slice p L.length cap) (aH L))(hc:w.heap[g]?=some (.cells (jA L 4) 3)):Cl kX 48 #[.sk g L.length (L.length+4),.slice p L.length cap] w λe w'=>e=.returned (.bool true)/\Bw w w':=by
 refine av (N:=46) func48 MK λcs a hF=>?_
 iterate 4 refine aB hF λa hF=>?_
 refine af hF (λo ho=>aI (m:=L.length) (n:=4) ho (hF.g 9) rfl o_) λa hF=>?_;refine af hF (λo ho=>pI (e:=3) ho (hF.g 7) (hF.g 10) k_ k_ (Nat.le_refl _)) λa hF=>?_
 iterate 2 refine aB hF λa hF=>?_
 refine Rn.plain rfl (Rn.plain rfl (Rn.plain rfl (C1 hL hv hc (λa w2 b2 hF=>?_) (L.length+4) 0 w _ o_ o_ (Below.refl _ _) (hF.only ⟨rfl,rfl,rfl,trivial⟩))));refine aB hF λa hF=>?_;exact aL hF ⟨rfl,b2⟩
end

def jq(ns:List Int):List Int->List Int->Nat->List Int×Nat
 |K,[],i=>(nts K ns,i+1)
 |K,g::G,i=>if (ns.length:Int)<=g then(nts K ns,i+1)else jq ns (nts K (ns.take g.toNat)) G (i+1)
theorem vq{K G:List Int}(h:G.length<=i):jq ns K (G.drop i) i=(nts K ns,i+1):=by rw[List.drop_eq_nil_of_le h];rfl
theorem sJ{K G:List Int}(h:i<G.length)(hg:(ns.length:Int)<=G[i]):jq ns K (G.drop i) i=(nts K ns,i+1):=by
 rw[List.drop_eq_getElem_cons h];simp[jq,hg]
theorem vr{K G:List Int}(h:i<G.length)(hg:G[i]<(ns.length:Int)):jq ns K (G.drop i) i=jq ns (nts K (ns.take G[i].toNat)) (G.drop (i+1)) (i+1):=by
 rw[List.drop_eq_getElem_cons h];simp[jq,Int.not_le.2 hg]
theorem JA(a:Addr)(n:Nat):(a.add n).block=a.block:=by unfold Addr.add;split<;>rfl
theorem cz.ex{L:List Value}(h:cz w v L)(hx:Ex X w w')(hn:∀a n c,v=.slice (some a) n c->L≠[]->¬X a.block):cz w' v L:=by
 obtain⟨p,cap,rfl,hp⟩:=h;refine⟨p,cap,rfl,λi u hi=>?_⟩;obtain⟨a,rfl,hc⟩:=hp i u hi;refine⟨a,rfl,?_⟩;have QQ:L≠[]:=λe=>by rw[e]at hi;simp at hi
 have QK:(a.add i).block<w.heap.size:=by
  unfold World.cell? at hc;split at hc
  .exact(Array.getElem?_eq_some_iff.1 ‹_›).1
  .cases hc
 unfold World.cell? at hc⊢;rw[hx.block _ QK (by rw[JA];exact hn a _ _ rfl QQ)];exact hc
def LI(f:Func):Code:=.seq (rG f 3) (.seq (.cond (.tmp 16) .skip (.exit 0)) (.seq (.block 1 (.seq (rG f 4) (.seq (rG f 5) (.seq (rG f 6) (.seq (rG f 7) (.cond (.tmp 26) (.seq (rG f 8) (.seq (rG f 9) .ret)) .skip)))))) (rG f 10)))
def Lx(f:Func):Code:=.seq (rG f 11) (.seq (rG f 12) (.seq (rG f 13) (.seq (rG f 14) .ret)))
theorem MY:f76.body=some (.seq (rG f76 0) (.seq (rG f76 1) (.seq (.seq (rG f76 2) (.block 0 (.loop (LI f76)))) (Lx f76)))):=by kernel_rfl
def Qh(T:List Int×Nat)(j:Bool)(s n c:Int)(W:List Int)(L:ByteArray)(fl:Value)(cb:Nat)(w:World)(v:Value)(w':World):Prop:=v=.agg (a_ T.2 j s n c)/\j7 w' cb fl W T.1 j s/\kS w' fl L/\Ex (· =cb) w w'
section
variable{cb:Nat}{W K G:List Int}{j:Bool}{s n:Int}{on:Bool}{p:Option Addr}{q:Nat}{T:List Int×Nat}
abbrev Qw(T:List Int×Nat)(j:Bool)(s n c:Int)(W:List Int)(L:ByteArray)(fl:Value)(cb:Nat)(w:World)(cs:List Frame)(g:Goroutine)(w':World):Prop:=∃(a:Act) (k:List Item) (bk:Nat) (cells:Array Value) (tt:TypeId),g=cQ {(base 76).atR a k with mode:=.returning} cs/\a.defers=[]/\a.tmps[4]?=some (.pk bk 0)/\w'.heap[bk]?=some (.cells cells tt)/\cells.size=5/\∃v,Ending.returned (.agg cells)=.returned v/\Qh T j s n c W L fl cb w v w'
structure Qv (w:World) (cb:Nat) (fl:Value) (W K:List Int) (L:ByteArray) (KS:List Int) (w4:World):Prop where
 ch:j7 w4 cb fl W K false 0
 fls:kS w4 fl L
 tab:w4.rangeAt 0 0 (aC KS)
 out:w4.heap[w.heap.size]?=some (.cells (a_ 0 false 0 0 0) 100)
 ex:Ex (· =cb) w w4
 lt:w.heap.size<w4.heap.size
theorem zf(TQ:jZ)(QL:KS.length=64)(hQ:eo KS W L ns j s n c)(hW:dP W)(Ye:cb<w.heap.size)(h0:cb≠0)(hG:G.length<=17592186044000){w2:World}(H:Qv w cb fl W K L KS w2)(hT:(nts K ns,G.length+1)=T)(hF:ay [(0,.pk cb 0),(1,.slice p G.length q),(4,.pk w.heap.size 0)] 40 [] a):
 Rn kX (Qw T j s n c W L fl cb w cs) ((base 76).atR a [.code (Lx f76)]) cs w2:=by
 subst hT;have hn4:=nH hQ;obtain⟨h2,f2,U8,c2,X2,z2⟩:=H;refine aj hF λa hF=>?_;refine af hF (λo ho=>DV (room:=9223372036854775807) ho (hF.g 32) rfl) λa hF=>?_;refine bl hF (λo ho=>Ep ho) λw3 a b3 c3 z3 hF=>?_;refine aM hF (λo ho=>JN ho (hF.g 9) (hF.g 33) c3 rfl) λa hF=>?_;have x4:=bE (w:=w3) w2.heap.size (jM cb 9223372036854775807 false) 151;have h3:=h2.ex (ai (X:=λ_=>False) b3) (λe=>e);have f3:=f2.keep (ai (X:=λ_=>False) b3) (λ_ _ _ _ e=>e);have W5:=cJ (ai (X:=λ_=>False) b3) (λe=>e) o_ U8;have h4:=h3.ex x4 o_;have f4:=f3.keep x4 λb cs fr hb=>fN c3 d_ b cs fr hb;have W4:=cJ x4 o_ o_ W5;have r4:=aW (w:=w3) (cs:=jM cb 9223372036854775807 false) (t:=151) c3;have c4:=x4.at o_ (bk b3 c2);have X4:Ex (· =cb) w (put w3 w2.heap.size (jM cb 9223372036854775807 false) 151):=(X2.trans (ai (X:=λ_=>False) b3) λ_ _ e=>e.elim).trans x4 λb hb e=>by omega
 have s4:=eJ (w:=w3) (b:=w2.heap.size) (cs:=jM cb 9223372036854775807 false) (t:=151);revert h4 f4 W4 r4 c4 X4 s4;generalize put w3 w2.heap.size (jM cb 9223372036854775807 false) 151=w4;intro h4 f4 W4 r4 c4 X4 s4;refine bf hF func100 (P6 TQ QL hQ h4 hW r4 o_ f4 (by rintro(e|e)<;>omega) W4) λv w5 hv a hF=>?_;obtain⟨⟨rfl,_,h5,f5,_⟩|⟨_,UT,_⟩,x5⟩:=hv
 .have c5:=x5.at (by rintro(e|e)<;>omega) c4;have hl5:=h5.lt;have z5:=x5.size;have X5:Ex (· =cb) w w5:=X4.trans x5 λb hb e=>by rcases e with e|e<;>omega
  refine bl hF (λo ho=>gy ho) λw6 a b6 c6 z6 hF=>?_;refine aM hF (λo ho=>dp ho (hF.g 10) (hF.g 34) c6 rfl) λa hF=>?_;have x7:=bE (w:=w6) w5.heap.size (a_ 0 j s n c) 100;have c7:=x7.at o_ (bk b6 c5);have o7:=aW (w:=w6) (cs:=a_ 0 j s n c) (t:=100) c6;have h7:=(h5.ex (ai (X:=λ_=>False) b6) (λe=>e)).ex x7 o_;have f7:=(f5.keep (ai (X:=λ_=>False) b6) (λ_ _ _ _ e=>e)).keep x7 λb cs fr hb=>fN c6 d_ b cs fr hb;have X7:Ex (· =cb) w (put w6 w5.heap.size (a_ 0 j s n c) 100):=(X5.trans (ai (X:=λ_=>False) b6) λ_ _ e=>e.elim).trans x7 λb hb e=>by omega
  revert c7 o7 h7 f7 X7;generalize put w6 w5.heap.size (a_ 0 j s n c) 100=w7;intro c7 o7 h7 f7 X7;refine aj hF λa hF=>?_;refine af hF (λo ho=>i0 ho (hF.g 35)) λa hF=>?_;refine af hF (λo ho=>aI (m:=G.length) (n:=1) ho (hF.g 36) rfl o_) λa hF=>?_;refine aj hF λa hF=>?_;refine aM hF (λo ho=>cI (v:=.int .i64 (G.length+1:Nat)) rfl rfl k_ ho (hF.g 38) (hF.g 37) o7 (by decide:0<5)) λa hF=>?_;rw[show(a_ 0 j s n c).setIfInBounds 0 (.int .i64 (G.length+1:Nat))=a_ (G.length+1:Nat) j s n c from rfl];have x8:=bE (w:=w7) w5.heap.size (a_ (G.length+1:Nat) j s n c) 100;have c8:=x8.at o_ c7;have o8:=aW (w:=w7) (cs:=a_ (G.length+1:Nat) j s n c) (t:=100) o7;refine af hF (λo ho=>kt ho (hF.g 10) o8) λa hF=>?_;refine aM hF (λo ho=>dp ho (hF.g 4) (hF.g 39) c8 rfl) λa hF=>?_;have x9:=bE (w:=put w7 w5.heap.size (a_ (G.length+1:Nat) j s n c) 100) w.heap.size (a_ (G.length+1:Nat) j s n c) 100;exact cR 6 _ (Rn.ends rfl (.inr ⟨_,rfl⟩) (Rn.now ⟨_,_,w.heap.size,_,_,rfl,hF.defers,hF.slot 4 _ rfl,aW c8,rfl,_,rfl,rfl,(h7.ex x8 o_).ex x9 o_,(f7.keep x8 λb cs fr hb=>fN o7 d_ b cs fr hb).keep x9 λb cs fr hb=>fN c8 d_ b cs fr hb,(X7.trans x8 λb hb e=>by omega).trans x9 λb hb e=>by omega⟩))
 .omega
theorem zg(TQ:jZ)(QL:KS.length=64)(hQ:eo KS W L ns j s n c)(hW:dP W)(Ye:cb<w.heap.size)(h0:cb≠0)(hG:G.length<=17592186044000)(Uf:∀x∈G,x<9223372036854775808)(hv:cz w (.slice p G.length q) (aH G))(hp:∀a:Addr,p=some a->G≠[]->a.block≠cb):
 ∀(m i:Nat) (K:List Int) (w2:World) (a:Act),G.length- i=m->i<=G.length->jq ns K (G.drop i) i=T->Qv w cb fl W K L KS w2->ay [(0,.pk cb 0),(1,.slice p G.length q),(4,.pk w.heap.size 0),(13,.slice p G.length q),(14,.int .i64 G.length),(15,.int .i64 i)] 40 [] a->
 Rn kX (Qw T j s n c W L fl cb w cs) ((base 76).atR a [.code (LI f76),.inLoop (LI f76),.inBlock 0,.code (Lx f76)]) cs w2:=by
 intro m;induction m with
 |zero=>
  intro i K w2 a hm hi hT H hF;obtain rfl:i=G.length:=by omega
  refine aj hF λa hF=>?_;refine Rn.plain rfl (Rn.plain rfl (Rn.cond _ (hF.g 16) ?_));rw[decide_eq_false o_];rw[vq (Nat.le_refl _)]at hT;exact Rn.plain rfl (zf TQ QL hQ hW Ye h0 hG H hT (hF.only ⟨rfl,rfl,rfl,trivial⟩))
 |succ m ih=>
  intro i K w2 a hm hi hT H hF;have R5:i<G.length:=by omega
  have TG:=Uf G[i] (List.getElem_mem R5);obtain⟨q0,c0,e0,QR⟩:=cz.ex hv H.ex λa n c e QQ=>by
   injection e with e1;exact hp a e1 λe=>QQ (by rw[e];rfl)
  injection e0 with e1 _ e2;subst e1 e2;obtain⟨ad,rfl,SX⟩:=QR i (.int .i64 G[i]) (by simp[aH,R5]);obtain⟨h2,f2,U8,c2,X2,z2⟩:=H;refine aj hF λa hF=>?_;refine Rn.plain rfl (Rn.plain rfl (Rn.cond _ (hF.g 16) ?_));rw[decide_eq_true o_];refine aj hF λa hF=>?_;refine af hF (λo ho=>(bJ (e:=3) k_ (λw=>by kernel_rfl) ho (hF.g 13) (hF.g 15) R5).1) λa hF=>?_;refine af hF (λo ho=>(an az ho (hF.g 18) SX).1) λa hF=>?_
  iterate 4 refine aj hF λa hF=>?_
  refine af hF (λo ho=>DV ho (hF.g 20) (hF.g 21)) λa hF=>?_;refine bl hF (λo ho=>Ep ho) λw3 a b3 c3 z3 hF=>?_;refine aM hF (λo ho=>JN ho (hF.g 7) (hF.g 22) c3 rfl) λa hF=>?_;have x4:=bE (w:=w3) w2.heap.size (jM cb G[i] false) 151;have h3:=h2.ex (ai (X:=λ_=>False) b3) (λe=>e);have f3:=f2.keep (ai (X:=λ_=>False) b3) (λ_ _ _ _ e=>e);have W5:=cJ (ai (X:=λ_=>False) b3) (λe=>e) o_ U8;have h4:=h3.ex x4 o_;have f4:=f3.keep x4 λb cs fr hb=>fN c3 d_ b cs fr hb;have W4:=cJ x4 o_ o_ W5;have r4:=aW (w:=w3) (cs:=jM cb G[i] false) (t:=151) c3;have c4:=x4.at o_ (bk b3 c2);have X4:Ex (· =cb) w (put w3 w2.heap.size (jM cb G[i] false) 151):=(X2.trans (ai (X:=λ_=>False) b3) λ_ _ e=>e.elim).trans x4 λb hb e=>by omega
  have s4:=eJ (w:=w3) (b:=w2.heap.size) (cs:=jM cb G[i] false) (t:=151);revert h4 f4 W4 r4 c4 X4 s4;generalize put w3 w2.heap.size (jM cb G[i] false) 151=w4;intro h4 f4 W4 r4 c4 X4 s4;refine bf hF func100 (P6 TQ QL hQ h4 hW r4 TG f4 (by rintro(e|e)<;>omega) W4) λv w5 hv5 a hF=>?_;obtain⟨hv5,x5⟩:=hv5;have z5:=x5.size;have c5:=x5.at (by rintro(e|e)<;>omega) c4;have X5:Ex (· =cb) w w5:=X4.trans x5 λb hb e=>by rcases e with e|e<;>omega
  have hK5:=cJ x5 (by rintro(e|e)<;>omega) o_ W4;rcases hv5 with⟨rfl,hle,h5,f5,RZ,r5⟩|⟨rfl,QK,h5,f5,RZ,r5⟩
  .rw[sJ R5 hle]at hT;subst hT;refine bl hF (λo ho=>gy ho) λw6 a b6 c6 z6 hF=>?_;refine aM hF (λo ho=>dp ho (hF.g 8) (hF.g 23) c6 rfl) λa hF=>?_;have x7:=bE (w:=w6) w5.heap.size (a_ 0 j s n c) 100;have c7:=x7.at o_ (bk b6 c5);have r7:=x7.at o_ (bk b6 r5);have o7:=aW (w:=w6) (cs:=a_ 0 j s n c) (t:=100) c6;have h7:=(h5.ex (ai (X:=λ_=>False) b6) (λe=>e)).ex x7 o_;have f7:=(f5.keep (ai (X:=λ_=>False) b6) (λ_ _ _ _ e=>e)).keep x7 λb cs fr hb=>fN c6 d_ b cs fr hb;have X7:Ex (· =cb) w (put w6 w5.heap.size (a_ 0 j s n c) 100):=(X5.trans (ai (X:=λ_=>False) b6) λ_ _ e=>e.elim).trans x7 λb hb e=>by omega
   revert c7 o7 h7 f7 X7 r7;generalize put w6 w5.heap.size (a_ 0 j s n c) 100=w7;intro c7 r7 o7 h7 f7 X7
   iterate 3 refine aj hF λa hF=>?_
   refine Rn.plain rfl (Rn.cond _ (hF.g 26) ?_);refine aj hF λa hF=>?_;refine af hF (λo ho=>aI (m:=i) (n:=1) ho (hF.g 27) rfl o_) λa hF=>?_;refine aj hF λa hF=>?_;refine aM hF (λo ho=>cI (v:=.int .i64 (i+1:Nat)) rfl rfl k_ ho (hF.g 29) (hF.g 28) o7 (by decide:0<5)) λa hF=>?_;rw[show(a_ 0 j s n c).setIfInBounds 0 (.int .i64 (i+1:Nat))=a_ (i+1:Nat) j s n c from rfl];have x8:=bE (w:=w7) w5.heap.size (a_ (i+1:Nat) j s n c) 100;have c8:=x8.at o_ c7;have o8:=aW (w:=w7) (cs:=a_ (i+1:Nat) j s n c) (t:=100) o7;refine af hF (λo ho=>kt ho (hF.g 8) o8) λa hF=>?_;refine aM hF (λo ho=>dp ho (hF.g 4) (hF.g 30) c8 rfl) λa hF=>?_;have hl5:=h5.lt;have x9:=bE (w:=put w7 w5.heap.size (a_ (i+1:Nat) j s n c) 100) w.heap.size (a_ (i+1:Nat) j s n c) 100;exact cR 6 _ (Rn.ends rfl (.inr ⟨_,rfl⟩) (Rn.now ⟨_,_,w.heap.size,_,_,rfl,hF.defers,hF.slot 4 _ rfl,aW c8,rfl,_,rfl,rfl,(h7.ex x8 o_).ex x9 o_,(f7.keep x8 λb cs fr hb=>fN o7 d_ b cs fr hb).keep x9 λb cs fr hb=>fN c8 d_ b cs fr hb,(X7.trans x8 λb hb e=>by omega).trans x9 λb hb e=>by omega⟩))
  .rw[vr R5 QK]at hT;refine bl hF (λo ho=>gy ho) λw6 a b6 c6 z6 hF=>?_;refine aM hF (λo ho=>dp ho (hF.g 8) (hF.g 23) c6 rfl) λa hF=>?_;have x7:=bE (w:=w6) w5.heap.size (a_ 0 false 0 0 0) 100;have c7:=x7.at o_ (bk b6 c5);have r7:=x7.at o_ (bk b6 r5);have h7:=(h5.ex (ai (X:=λ_=>False) b6) (λe=>e)).ex x7 (by have:=h5.lt;omega);have f7:=(f5.keep (ai (X:=λ_=>False) b6) (λ_ _ _ _ e=>e)).keep x7 λb cs fr hb=>fN c6 d_ b cs fr hb;have hK7:=cJ x7 o_ o_ (cJ (ai (X:=λ_=>False) b6) (λe=>e) o_ hK5);have X7:Ex (· =cb) w (put w6 w5.heap.size (a_ 0 false 0 0 0) 100):=(X5.trans (ai (X:=λ_=>False) b6) λ_ _ e=>e.elim).trans x7 λb hb e=>by omega
   have s7:=eJ (w:=w6) (b:=w5.heap.size) (cs:=a_ 0 false 0 0 0) (t:=100);revert c7 h7 f7 X7 r7 hK7 s7;generalize put w6 w5.heap.size (a_ 0 false 0 0 0) 100=w7;intro c7 r7 h7 f7 hK7 X7 s7
   iterate 3 refine aj hF λa hF=>?_
   refine Rn.plain rfl (Rn.cond _ (hF.g 26) ?_);refine af hF (λo ho=>aI (m:=i) (n:=1) ho (hF.g 15) rfl o_) λa hF=>?_;refine aj hF λa hF=>?_;exact Rn.plain rfl (Rn.plain rfl (ih (i+1) _ w7 _ o_ o_ hT ⟨h7,f7,hK7,c7,X7,by omega⟩ (hF.only ⟨rfl,rfl,rfl,rfl,rfl,rfl,trivial⟩)))
theorem P9(TQ:jZ)(QL:KS.length=64)(hQ:eo KS W L ns j s n c)(h:j7 w cb fl W K on sl)(hW:dP W)(hf:kS w fl L)(h0:cb≠0)(hK:w.rangeAt 0 0 (aC KS))(hG:G.length<=17592186044000)(Uf:∀x∈G,x<9223372036854775808)(hv:cz w (.slice p G.length q) (aH G))(hp:∀a:Addr,p=some a->G≠[]->a.block≠cb):
 Cl kX 76 #[.pk cb 0,.slice p G.length q] w λe w'=>∃v,e=.returned v/\Qh (jq ns K G 0) j s n c W L fl cb w v w':=by
 refine ce (t:=4) (ty:=100) (n:=5) func76 rfl (by exact underlying100) rfl iz λcs=>?_;refine bm (N:=40) func76 MY λa hF=>?_;have hl:=h.lt;refine bl hF (λo ho=>gy ho) λw1 a b1 c1 z1 hF=>?_;have h1:=h.ex (ai (X:=λ_=>False) b1) (λe=>e);have f1:=hf.keep (ai (X:=λ_=>False) b1) (λ_ _ _ _ e=>e);have Wq:=cJ (ai (X:=λ_=>False) b1) (λe=>e) o_ hK;refine aj hF λa hF=>?_;refine bH hF func99 (zF h1) λw2 ⟨h2,x2,z2⟩ a hF=>?_;have c2:=x2.at o_ c1;have f2:=f1.keep x2 λb cs fr hb=>fN h1.2.2 d_ b cs fr hb;have U8:=cJ x2 o_ o_ Wq;refine aj hF λa hF=>?_;refine af hF (λo ho=>i0 ho (hF.g 13)) λa hF=>?_;refine aj hF λa hF=>?_;refine Rn.plain rfl (Rn.plain rfl (Rn.plain rfl ?_));exact zg TQ QL hQ hW hl h0 hG Uf hv hp G.length 0 K w2 _ o_ o_ rfl ⟨h2,f2,U8,c2,(ai b1).trans x2 λ_ _ e=>e,by omega⟩ (hF.only ⟨rfl,rfl,rfl,rfl,rfl,rfl,trivial⟩)
theorem Mh(TQ:jZ)(QL:KS.length=64)(hQ:eo KS W L ns j s n c)(h:j7 w cb fl W K on sl)(hW:dP W)(hf:kS w fl L)(h0:cb≠0)(hK:w.rangeAt 0 0 (aC KS))(Xe:w.heap[lb]?=some (.cells #[.pk cb 0] 127))(hG:G.length<=17592186044000)(Uf:∀x∈G,x<9223372036854775808)(hv:cz w (.slice p G.length q) (aH G))(hp:∀a:Addr,p=some a->G≠[]->a.block≠cb):
 Cl kX 49 #[.pk lb 0,.slice p G.length q] w λe w'=>∃v,e=.returned v/\Qh (jq ns K G 0) j s n c W L fl cb w v w':=by
 refine ce (t:=4) (ty:=100) (n:=5) func49 rfl (by exact underlying100) rfl iz λcs=>?_;refine bm (N:=11) func49 MJ λa hF=>?_;have hl:=h.lt;refine bl hF (λo ho=>gy ho) λw1 a b1 c1 z1 hF=>?_;have h1:=h.ex (ai (X:=λ_=>False) b1) (λe=>e);have f1:=hf.keep (ai (X:=λ_=>False) b1) (λ_ _ _ _ e=>e);have Wq:=cJ (ai (X:=λ_=>False) b1) (λe=>e) o_ hK;have hlb1:=bk b1 Xe
 iterate 5 refine aj hF λa hF=>?_
 refine bf hF func76 (P9 TQ QL hQ h1 hW f1 h0 Wq hG Uf (hv.below b1) hp) λv w2 hv a hF=>?_;obtain⟨rfl,h2,f2,x2⟩:=hv;have c2:=x2.at o_ c1;refine aM hF (λo ho=>dp ho (hF.g 4) (hF.g 10) c2 rfl) λa hF=>?_;have x3:=bE (w:=w2) w.heap.size (a_ (jq ns K G 0).2 j s n c) 100;exact cR 6 _ (Rn.ends rfl (.inr ⟨_,rfl⟩) (Rn.now ⟨_,_,w.heap.size,_,_,rfl,hF.defers,hF.slot 4 _ rfl,aW c2,rfl,_,rfl,rfl,h2.ex x3 o_,f2.keep x3 λb cs fr hb=>fN c2 d_ b cs fr hb,((ai b1).trans x2 λ_ _ e=>e).trans x3 λb hb e=>by omega⟩))
end

def Iv(f:Func):Code:=.seq (.seq (rG f 4) (.cond (.tmp 29) .skip (.exit 0))) (.seq (.block 1 (.seq (rG f 6) (.seq (rG f 7) (.seq (.seq (rG f 8) (.cond (.tmp 41) (rG f 9) .skip)) (rG f 10))))) (rG f 5))
def Ir(f:Func):Code:=.seq (rG f 11) (.seq (rG f 12) (.seq (.seq (rG f 13) (.cond (.tmp 55) (.seq (rG f 14) (rG f 15)) .skip)) (.seq (rG f 16) .ret)))
theorem MV:f50.body=some (.seq (rG f50 0) (.seq (rG f50 1) (.seq (rG f50 2) (.seq (.seq (rG f50 3) (.block 0 (.loop (Iv f50)))) (Ir f50))))):=by kernel_rfl
theorem Jo:f23.body=some (.seq (rG f23 0) (.seq (rG f23 1) (.seq (rG f23 2) (.seq (rG f23 3) (.seq (rG f23 4) (.seq (rG f23 5) .ret)))))):=by kernel_rfl

theorem AU{W:List Int}{j:Bool}{s n:Int}(h:eo KS W L ns j s n c):1<=ns.length:=by
 obtain⟨st,le,cr,us,hs,_,h⟩:=h;rcases h with⟨_,rfl,_⟩|⟨_,_,_,rfl,_⟩|⟨_,_,n0,c0,_,⟨_,rfl,_⟩|⟨_,n1,c1,_,⟨_,rfl,_⟩|⟨_,rfl,_⟩⟩⟩<;>simp
def JE(w:World)(g cap:Nat)(ns:List Int):Prop:=ns.length<=cap/\∃cur:Array Value,w.heap[g]?=some (.cells cur 3)/\∀(i:Nat) x,ns[i]?=some x->cur[i]?=some (Value.int .i64 x)
theorem JE.isL{g cap:Nat}(h:JE w g cap ns):Po w (.sk g ns.length cap) ns:=let ⟨_,cur,h1,h2⟩:=h;⟨_,cap,rfl,λi x hi=>⟨g,cur,rfl,h1,h2 i x hi⟩⟩
theorem JE.cut{g cap:Nat}(h:JE w g cap ns){k:Nat}(hk:k<=ns.length):Po w (.sk g k cap) (ns.take k):=let ⟨_,cur,h1,h2⟩:=h;⟨_,cap,by rw[List.length_take,Nat.min_eq_left hk],λi x hi=>⟨g,cur,rfl,h1,h2 i x (by
 rw[List.getElem?_take]at hi;split at hi
 .exact hi
 .cases hi)⟩⟩
theorem JE.keep{g cap:Nat}(h:JE w g cap ns)(hx:Ex X w w')(hn:¬X g):JE w' g cap ns:=let ⟨h0,cur,h1,h2⟩:=h;⟨h0,cur,hx.at hn h1,h2⟩
theorem Ag{base:Nat}(h:w.ownsRow base 3 1 v n (aH ns))(hp:1<=ns.length):∃g cap,v=.sk g ns.length cap/\base<=g/\JE w g cap ns:=by
 have hl:ns.length=n:=by have:=h.1;simp[aH]at this;omega
 rcases h.2 with⟨rfl,rfl⟩|⟨g,cap,cur,rfl,hb,h2,hc,_,_,h3⟩
 .omega
 .refine⟨g,cap,by rw[hl],hb,by omega,cur,h2,λi x hx=>?_⟩;have hi:=(List.getElem?_eq_some_iff.1 hx).1;have hu:(aH ns)[i]?=some (.int .i64 x):=by simp[aH,hx]
  rw[←h3,List.getElem?_take,if_pos o_]at hu;simpa using hu
section
variable{rb:Nat}{c0 c1:Value}{up:Bool}{W K G:List Int}{j:Bool}{s n:Int}{T:List Int×Nat}{ob cap:Nat}{p:Option Addr}{q:Nat}
def Qx(T:List Int×Nat)(j:Bool)(s n c:Int)(c0 c1 fl:Value)(wb qw kb qk rb:Nat)(sl:Int)(w:World)(v:Value)(w':World):Prop:=v=.agg (a_ T.2 j s n c)/\w'.heap[rb]?=some (.cells (lj c0 c1 fl (.sk wb 85 qw) (.sk kb 16 qk) j (if j then s else sl)) 107)/\tv w' kb qk T.1/\Ex (λb=>b=rb\/b=kb) w w'
abbrev PO(T:List Int×Nat)(j:Bool)(s n c:Int)(c0 c1 fl:Value)(wb qw kb qk rb:Nat)(sl:Int)(w:World)(cs:List Frame)(g:Goroutine)(w':World):Prop:=∃(a:Act) (k:List Item) (bk:Nat) (cells:Array Value) (tt:TypeId),g=cQ {(base 50).atR a k with mode:=.returning} cs/\a.defers=[]/\a.tmps[4]?=some (.pk bk 0)/\w'.heap[bk]?=some (.cells cells tt)/\cells.size=5/\∃v,Ending.returned (.agg cells)=.returned v/\Qx T j s n c c0 c1 fl wb qw kb qk rb sl w v w'
structure Pl (w:World) (rb wb qw kb qk:Nat) (c0 c1 fl:Value) (sl:Int) (K ns:List Int) (j:Bool) (s n c:Int) (ob gb cap i:Nat) (w5:World):Prop where
 out:w5.heap[ob]?=some (.cells (a_ i j s n c) 100)
 res:w5.heap[w.heap.size]?=some (.cells (a_ 0 false 0 0 0) 100)
 ref:w5.heap[rb]?=some (.cells (lj c0 c1 fl (.sk wb 85 qw) (.sk kb 16 qk) false sl) 107)
 nts:JE w5 gb cap ns
 kp:tv w5 kb qk K
 ex:Ex (λb=>b=rb\/b=kb) w w5
 lt:w.heap.size<ob/\w.heap.size<gb/\gb≠ob
theorem rQ(hQ:eo KS W L ns j s n c)(Wc:kb≠rb)(WH:rb<w.heap.size)(V8:kb<w.heap.size)(hi:i<=17592186044000){w5:World}(H:Pl w rb wb qw kb qk c0 c1 fl sl K ns j s n c ob gb cap i w5)(hT:(L1.nts K ns,i+1)=T)(hF:ay [(0,.pk rb 0),(4,.pk w.heap.size 0),(5,.sk gb ns.length cap),(6,.pk ob 0)] 65 [] a):
 Rn kX (PO T j s n c c0 c1 fl wb qw kb qk rb sl w cs) ((base 50).atR a [.code (Ir f50)]) cs w5:=by
 subst hT;obtain⟨o5,p5,r5,l5,k5,X5,lt1,lt2,nog⟩:=H;refine aB hF λa hF=>?_;refine af hF (λo ho=>(an az ho (hF.g 47) ((ak o5 0).trans rfl)).1) λa hF=>?_;refine af hF (λo ho=>aI (m:=i) (n:=1) ho (hF.g 48) rfl o_) λa hF=>?_;refine aB hF λa hF=>?_;refine aM hF (λo ho=>cI (v:=.int .i64 (i+1:Nat)) rfl rfl k_ ho (hF.g 50) (hF.g 49) o5 (by decide:0<5)) λa hF=>?_;rw[show(a_ i j s n c).setIfInBounds 0 (.int .i64 (i+1:Nat))=a_ (i+1:Nat) j s n c from rfl];have x6:=bE (w:=w5) ob (a_ (i+1:Nat) j s n c) 100;have o6:=aW (w:=w5) (cs:=a_ (i+1:Nat) j s n c) (t:=100) o5;have r6:=x6.at o_ r5;have p6:=x6.at o_ p5;have l6:=l5.keep x6 nog;have k6:=k5.keep x6 o_;have X6:=X5.trans x6 λb hb e=>by omega
 revert o6 r6 p6 l6 k6 X6;generalize put w5 ob (a_ (i+1:Nat) j s n c) 100=w6;intro o6 r6 p6 l6 k6 X6
 iterate 2 refine aB hF λa hF=>?_
 have hn4:=nH hQ;refine bH hF func78 (sR r6 k6 l6.isL o_) λw7 ⟨k7,x7⟩ a hF=>?_;have o7:=x7.at o_ o6;have r7:=x7.at (Ne.symm Wc) r6;have p7:=x7.at o_ p6;have X7:=X6.trans x7 λb _ e=>.inr e;refine aB hF λa hF=>?_;refine af hF (λo ho=>(an iQ ho (hF.g 54) ((ak o7 1).trans rfl)).1) λa hF=>?_;refine Rn.plain rfl (Rn.cond _ (hF.g 55) ?_);have fin:∀{a:Act} {w8:World},w8.heap[ob]?=some (.cells (a_ (i+1:Nat) j s n c) 100)->w8.heap[w.heap.size]?=some (.cells (a_ 0 false 0 0 0) 100)->w8.heap[rb]?=some (.cells (lj c0 c1 fl (.sk wb 85 qw) (.sk kb 16 qk) j (if j then s else sl)) 107)->tv w8 kb qk (L1.nts K ns)->Ex (λb=>b=rb\/b=kb) w w8->ay [(4,.pk w.heap.size 0),(6,.pk ob 0)] 65 [] a->Rn kX (PO (L1.nts K ns,i+1) j s n c c0 c1 fl wb qw kb qk rb sl w cs) ((base 50).atR a [.code (.seq (rG f50 16) .ret)]) cs w8:=λ{a w8} o8 p8 r8 k8 X8 hF=>by
  refine af hF (λo ho=>kt ho (hF.g 6) o8) λa hF=>?_;refine aM hF (λo ho=>dp ho (hF.g 4) (hF.g 64) p8 rfl) λa hF=>?_;have x9:=bE (w:=w8) w.heap.size (a_ (i+1:Nat) j s n c) 100;exact cR 6 _ (Rn.ends rfl (.inr ⟨_,rfl⟩) (Rn.now ⟨_,_,w.heap.size,_,_,rfl,hF.defers,hF.slot 4 _ rfl,aW p8,rfl,_,rfl,rfl,x9.at o_ r8,k8.keep x9 o_,X8.trans x9 λb hb e=>by omega⟩))
 cases j with
 |false=>exact Rn.plain rfl (fin o7 p7 r7 k7 X7 (hF.only ⟨rfl,rfl,trivial⟩))
 |true=>
  iterate 3 refine aB hF λa hF=>?_
  refine aM hF (λo ho=>cI (v:=.bool true) rfl rfl k_ ho (hF.g 58) rfl r7 (by decide:5<7)) λa hF=>?_;rw[show(lj c0 c1 fl (.sk wb 85 qw) (.sk kb 16 qk) false sl).setIfInBounds 5 (.bool true)=lj c0 c1 fl (.sk wb 85 qw) (.sk kb 16 qk) true sl from rfl];have x8:=bE (w:=w7) rb (lj c0 c1 fl (.sk wb 85 qw) (.sk kb 16 qk) true sl) 107;have r8:=aW (w:=w7) (cs:=lj c0 c1 fl (.sk wb 85 qw) (.sk kb 16 qk) true sl) (t:=107) r7;have o8:=x8.at o_ o7;have p8:=x8.at o_ p7;have k8:=k7.keep x8 Wc;have X8:=X7.trans x8 λb _ e=>.inl e;revert o8 r8 p8 k8 X8;generalize put w7 rb (lj c0 c1 fl (.sk wb 85 qw) (.sk kb 16 qk) true sl) 107=w8;intro r8 o8 p8 k8 X8
  iterate 2 refine aB hF λa hF=>?_
  refine af hF (λo ho=>(an az ho (hF.g 60) ((ak o8 2).trans rfl)).1) λa hF=>?_
  iterate 2 refine aB hF λa hF=>?_
  refine aM hF (λo ho=>cI (v:=.int .i64 s) rfl rfl k_ ho (hF.g 63) (hF.g 61) r8 (by decide:6<7)) λa hF=>?_;rw[show(lj c0 c1 fl (.sk wb 85 qw) (.sk kb 16 qk) true sl).setIfInBounds 6 (.int .i64 s)=lj c0 c1 fl (.sk wb 85 qw) (.sk kb 16 qk) true s from rfl];have x9:=bE (w:=w8) rb (lj c0 c1 fl (.sk wb 85 qw) (.sk kb 16 qk) true s) 107;exact Rn.plain rfl (fin (x9.at o_ o8) (x9.at o_ p8) (aW r8) (k8.keep x9 Wc) (X8.trans x9 λb _ e=>.inl e) (hF.only ⟨rfl,rfl,trivial⟩))
theorem ze(hQ:eo KS W L ns j s n c)(Wc:kb≠rb)(WH:rb<w.heap.size)(V8:kb<w.heap.size)(hG:G.length<=17592186043904)(Uf:∀x∈G,x<9223372036854775808)(hv:cz w (.slice p G.length q) (aH G))(hp:∀a:Addr,p=some a->G≠[]->a.block≠rb/\a.block≠kb):
 ∀(m i:Nat) (K:List Int) (w5:World) (a:Act),G.length- i=m->i<=G.length->jq ns K (G.drop i) i=T->Pl w rb wb qw kb qk c0 c1 fl sl K ns j s n c ob gb cap i w5->ay [(0,.pk rb 0),(1,.slice p G.length q),(4,.pk w.heap.size 0),(5,.sk gb ns.length cap),(6,.pk ob 0),(7,.int .i64 i)] 65 [] a->
 Rn kX (PO T j s n c c0 c1 fl wb qw kb qk rb sl w cs) ((base 50).atR a [.code (Iv f50),.inLoop (Iv f50),.inBlock 0,.code (Ir f50)]) cs w5:=by
 intro m;have hn4:=nH hQ;induction m with
 |zero=>
  intro i K w5 a hm hi hT H hF;obtain rfl:i=G.length:=by omega
  iterate 3 refine aB hF λa hF=>?_
  refine af hF (λo ho=>(iq (m:=G.length) (n:=G.length) ho (hF.g 17) (hF.g 19)).1) λa hF=>?_;rw[decide_eq_false o_]at hF;refine aB hF λa hF=>?_
  iterate 7 refine Rn.us hF λa hF=>?_
  refine af (v:=.bool false) hF (λo ho=>fM ho (hF.g 21) rfl) λa hF=>?_;refine Rn.plain rfl (Rn.cond _ (hF.g 29) ?_);rw[vq (Nat.le_refl _)]at hT;exact Rn.plain rfl (rQ hQ Wc WH V8 o_ H hT (hF.only ⟨rfl,rfl,rfl,rfl,trivial⟩))
 |succ m ih=>
  intro i K w5 a hm hi hT H hF;have R5:i<G.length:=by omega
  have TG:=Uf G[i] (List.getElem_mem R5);obtain⟨q0,c9,e0,QR⟩:=cz.ex hv H.ex λa n c e QQ=>by
   injection e with e1;have:=hp a e1 λe=>QQ (by rw[e];rfl);exact λe=>e.elim this.1 this.2
  injection e0 with e1 _ e2;subst e1 e2;obtain⟨ad,rfl,SX⟩:=QR i (.int .i64 G[i]) (by simp[aH,R5]);have hpb:=hp ad rfl λe=>by rw[e]at R5;simp at R5
  iterate 3 refine aB hF λa hF=>?_
  refine af hF (λo ho=>(iq (m:=i) (n:=G.length) ho (hF.g 17) (hF.g 19)).1) λa hF=>?_;rw[decide_eq_true o_]at hF
  iterate 3 refine aB hF λa hF=>?_
  refine af hF (λo ho=>(bJ (e:=3) k_ (λw=>by kernel_rfl) ho (hF.g 22) (hF.g 23) R5).1) λa hF=>?_;refine af hF (λo ho=>(an az ho (hF.g 24) SX).1) λa hF=>?_
  iterate 2 refine aB hF λa hF=>?_
  refine af hF (λo ho=>(iq (m:=G[i]) (n:=ns.length) ho (hF.g 25) (hF.g 27)).1) λa hF=>?_;refine af hF (λo ho=>fp ho (hF.g 21) (hF.g 28)) λa hF=>?_;refine Rn.plain rfl (Rn.cond _ (hF.g 29) ?_);by_cases QK:G[i]<(ns.length:Int)
  .rw[decide_eq_true QK];rw[vr R5 QK]at hT;obtain⟨o5,p5,r5,l5,k5,X5,lt1,lt2,nog⟩:=H;refine aB hF λa hF=>?_;refine af hF (λo ho=>(an az ho (hF.g 32) ((ak o5 0).trans rfl)).1) λa hF=>?_;refine af hF (λo ho=>aI (m:=i) (n:=1) ho (hF.g 33) rfl o_) λa hF=>?_;refine aB hF λa hF=>?_;refine aM hF (λo ho=>cI (v:=.int .i64 (i+1:Nat)) rfl rfl k_ ho (hF.g 35) (hF.g 34) o5 (by decide:0<5)) λa hF=>?_;rw[show(a_ i j s n c).setIfInBounds 0 (.int .i64 (i+1:Nat))=a_ (i+1:Nat) j s n c from rfl];have x6:=bE (w:=w5) ob (a_ (i+1:Nat) j s n c) 100;have o6:=aW (w:=w5) (cs:=a_ (i+1:Nat) j s n c) (t:=100) o5;have r6:=x6.at o_ r5;have p6:=x6.at o_ p5;have l6:=l5.keep x6 nog;have k6:=k5.keep x6 o_;have adlt:ad.block<w.heap.size:=by
    obtain⟨_,_,e0,hw⟩:=hv;injection e0 with e1;obtain⟨b,q1,q2⟩:=hw i (.int .i64 G[i]) (by simp[aH,R5]);rw[←e1]at q1;cases q1;unfold World.cell? at q2;rw[JA]at q2;split at q2
    .exact(Array.getElem?_eq_some_iff.1 ‹_›).1
    .cases q2
   have Yd:(put w5 ob (a_ (i+1:Nat) j s n c) 100).cell? (ad.add i)=some (.int .i64 G[i]):=by
    unfold World.cell? at SX⊢;rw[bz (by rw[JA];omega)];exact SX
   have X6:=X5.trans x6 λb hb e=>by omega
   revert o6 r6 p6 l6 k6 X6 Yd;generalize put w5 ob (a_ (i+1:Nat) j s n c) 100=w6;intro o6 r6 p6 l6 k6 Yd X6
   iterate 2 refine aB hF λa hF=>?_
   refine af hF (λo ho=>(bJ (e:=3) k_ (λw=>by kernel_rfl) ho (hF.g 36) (hF.g 37) R5).1) λa hF=>?_;refine af hF (λo ho=>(an az ho (hF.g 38) Yd).1) λa hF=>?_
   iterate 2 refine aB hF λa hF=>?_
   refine af hF (λo ho=>(iq (m:=G[i]) (n:=0) ho (hF.g 40) rfl).1) λa hF=>?_;have last:∀{a:Act},ay [(8,.int .i64 (G[i].toNat:Nat)),(0,.pk rb 0),(1,.slice (some ad) G.length q),(4,.pk w.heap.size 0),(5,.sk gb ns.length cap),(6,.pk ob 0),(7,.int .i64 i)] 65 [] a->Rn kX (PO T j s n c c0 c1 fl wb qw kb qk rb sl w cs) ((base 50).atR a [.code (rG f50 10),.inBlock 1,.code (rG f50 5),.inLoop (Iv f50),.inBlock 0,.code (Ir f50)]) cs w6:=λ{a} hF=>by
    have hk:G[i].toNat<=ns.length:=by omega
    iterate 3 refine aB hF λa hF=>?_
    refine af hF (λo ho=>pI (e:=3) ho (hF.g 43) (hF.g 44) k_ k_ (Nat.le_trans hk l6.1)) λa hF=>?_;refine bH hF func78 (sR r6 k6 (l6.cut hk) (by rw[List.length_take];omega)) λw7 ⟨k7,x7⟩ a hF=>?_;have o7:=x7.at o_ o6;have r7:=x7.at (Ne.symm Wc) r6;have p7:=x7.at o_ p6;have l7:=l6.keep x7 o_;have X7:=X6.trans x7 λb _ e=>.inr e;refine aB hF λa hF=>?_;refine af hF (λo ho=>aI (m:=i) (n:=1) ho (hF.g 30) rfl o_) λa hF=>?_;refine aB hF λa hF=>?_;exact Rn.plain rfl (Rn.plain rfl (ih (i+1) _ w7 _ o_ o_ hT ⟨o7,p7,r7,l7,k7,X7,lt1,lt2,nog⟩ (hF.only ⟨rfl,rfl,rfl,rfl,rfl,rfl,trivial⟩)))
   refine Rn.plain rfl (Rn.cond _ (hF.g 41) ?_);by_cases WK:G[i]<0
   .rw[decide_eq_true WK];refine aB hF λa hF=>?_;exact Rn.plain rfl (last (hF.only ⟨by rw[show G[i].toNat=0 by omega];rfl,rfl,rfl,rfl,rfl,rfl,rfl,trivial⟩))
   .rw[decide_eq_false WK];exact Rn.plain rfl (last (hF.only ⟨by rw[Int.toNat_of_nonneg o_];rfl,rfl,rfl,rfl,rfl,rfl,rfl,trivial⟩))
  .rw[decide_eq_false QK];rw[sJ R5 o_]at hT;exact Rn.plain rfl (rQ hQ Wc WH V8 o_ H hT (hF.only ⟨rfl,rfl,rfl,rfl,trivial⟩))
theorem Mg(QL:KS.length=64)(QX:ip KS)(hQ:eo KS W L ns j s n c)(hc:w.heap[rb]?=some (.cells (lj c0 c1 fl (.sk wb 85 qw) (.sk kb 16 qk) up sl) 107))(hC:iX KS #[c0,c1] w)(hf:kS w fl L)(hW:dP W)(hr:w.rangeAt wb 0 (W.map (Value.int .i64)))(hK:tv w kb qk K)(hG:G.length<=17592186043904)(Uf:∀x∈G,x<9223372036854775808)(hv:cz w (.slice p G.length q) (aH G))(hp:∀a:Addr,p=some a->G≠[]->a.block≠rb/\a.block≠kb):
 Cl kX 50 #[.pk rb 0,.slice p G.length q] w λe w'=>∃v,e=.returned v/\Qx (jq ns K G 0) j s n c c0 c1 fl wb qw kb qk rb sl w v w':=by
 refine ce (t:=4) (ty:=100) (n:=5) func50 rfl (by exact underlying100) rfl iz λcs=>?_;refine bm (N:=65) func50 MV λa hF=>?_;have WH:=ar hc;have V8:kb<w.heap.size:=let ⟨_,_,_,_,h,_⟩:=hK;ar h
 have Wc:kb≠rb:=λe=>by
  obtain⟨_,_,cs,fr,h,_⟩:=hK;rw[e,hc]at h;injection h with h;injection h with _ h;cases h
 refine bl hF (λo ho=>gy ho) λw1 a b1 Yq z1 hF=>?_;refine aB hF λa hF=>?_;refine bf hF func77 (xo QL QX (bk b1 hc) (hC.mono b1) (hf.keep (ai (X:=λ_=>False) b1) (λ_ _ _ _ e=>e)) hW (λj v hv=>aR b1 (hr j v hv))) λv w2 V3 a hF=>?_;obtain⟨nv,ns',j',s',n',c',rfl,hQ',o2,b2⟩:=V3;obtain⟨rfl,rfl,rfl,rfl,rfl⟩:=AV hQ hQ';have z2:=b2.size;obtain⟨gb,cap,rfl,SL,l2⟩:=Ag o2 (AU hQ);have Xh:gb<w2.heap.size:=let ⟨_,_,h,_⟩:=l2;ar h
 iterate 3 refine aB hF λa hF=>?_
 refine bl hF (λo ho=>gy ho) λw3 a b3 c3 z3 hF=>?_;have c3':=bk b3 (bk b2 Yq);have l3:=l2.keep (ai (X:=λ_=>False) b3) (λe=>e);refine aB hF λa hF=>?_;refine aM hF (λo ho=>dp ho (hF.g 6) (hF.g 13) c3 rfl) λa hF=>?_;have B3:Bw w w3:=ab (ab b1 b1.size b2) o_ b3;have x4:=bE (w:=w3) w2.heap.size (a_ 0 j s n c) 100;have o4:=aW (w:=w3) (cs:=a_ 0 j s n c) (t:=100) c3;have r4:=x4.at o_ (bk B3 hc);have p4:=x4.at o_ c3';have l4:=l3.keep x4 o_;have k4:=(hK.keep (ai (X:=λ_=>False) B3) (λe=>e)).keep x4 o_;have X4:Ex (λb=>b=rb\/b=kb) w (put w3 w2.heap.size (a_ 0 j s n c) 100):=(ai B3).trans x4 λb hb e=>by omega
 revert o4 r4 p4 l4 k4 X4;generalize put w3 w2.heap.size (a_ 0 j s n c) 100=w4;intro o4 r4 p4 l4 k4 X4
 iterate 3 refine aB hF λa hF=>?_
 refine aM hF (λo ho=>cI (v:=.bool false) rfl rfl k_ ho (hF.g 16) rfl r4 (by decide:5<7)) λa hF=>?_;rw[show(lj c0 c1 fl (.sk wb 85 qw) (.sk kb 16 qk) up sl).setIfInBounds 5 (.bool false)=lj c0 c1 fl (.sk wb 85 qw) (.sk kb 16 qk) false sl from rfl];have x5:=bE (w:=w4) rb (lj c0 c1 fl (.sk wb 85 qw) (.sk kb 16 qk) false sl) 107;have r5:=aW (w:=w4) (cs:=lj c0 c1 fl (.sk wb 85 qw) (.sk kb 16 qk) false sl) (t:=107) r4;have o5:=x5.at o_ o4;have p5:=x5.at o_ p4;have l5:=l4.keep x5 o_;have k5:=k4.keep x5 Wc;have X5:=X4.trans x5 λb _ e=>.inl e;revert o5 r5 p5 l5 k5 X5;generalize put w4 rb (lj c0 c1 fl (.sk wb 85 qw) (.sk kb 16 qk) false sl) 107=w5;intro r5 o5 p5 l5 k5 X5;refine aB hF λa hF=>?_;refine Rn.plain rfl (Rn.plain rfl (Rn.plain rfl ?_));exact ze hQ Wc WH V8 hG Uf hv hp G.length 0 K w5 _ o_ o_ rfl ⟨o5,p5,r5,l5,k5,X5,by omega,by omega,by omega⟩ (hF.only ⟨rfl,rfl,rfl,rfl,rfl,rfl,trivial⟩)
end

theorem jB{a:Nat}{c c':Array Value}{t:TypeId}{f f':Nat×Nat}(h1:w.heap[a]?=some (.cells c t f))(h2:w.heap[b]?=some (.cells c' t' f'))(ht:t≠t'):a≠b:=λe=>by
 rw[e,h2]at h1;injection h1 with h1;injection h1 with _ h1;exact ht h1.symm
section
variable{cb rb fr hb:Nat}{V K K':List Int}{on VC:Bool}{S8:Int}{up up':Bool}{Xz:Int}{mv:Value}
theorem ir.boot(h:ir w pb lb cb fb fq rb fr Rq wb qw kb qk hb hq tb tq KS V K L on sl up rs lv mv ls ms)(x:Ex (λb=>b=cb\/b=rb\/b=kb) w w')(TS:j7 w' cb (.sk fb L.size fq) V K' VC S8)
 (hrf:w'.heap[rb]?=some (.cells (lj (.sk hb 8 hq) (.sk tb 64 tq) (.sk fr L.size Rq) (.sk wb 85 qw) (.sk kb 16 qk) up' Xz) 107)) (SK:tv w' kb qk K'):
 ir w' pb lb cb fb fq rb fr Rq wb qw kb qk hb hq tb tq KS V K' L VC S8 up' Xz lv mv ls ms:=by
 have hc:=h.ch.2.2;have hr:=h.ref;obtain⟨_,_,ck,fk,hk,_⟩:=id h.kpt;have n3:∀{b:Nat} {c:Array Value} {t:TypeId} {f:Nat×Nat},w.heap[b]?=some (.cells c t f)->t≠149->t≠107->t≠5->¬(b=cb\/b=rb\/b=kb):=λh1 t1 t2 t3 e=>by
  rcases e with e|e|e
  .exact jB h1 hc t1 e
  .exact jB h1 hr t2 e
  .exact jB h1 hk t3 e
 have ni:∀{b:Nat} {l:List Int},ft w b l->¬(b=cb\/b=rb\/b=kb):=λhi=>by
  obtain⟨c,h1,_⟩:=hi;exact n3 h1 d_ d_ d_
 have nf:∀{b q:Nat},kb≠b->kS w (.sk b L.size q) L->¬(b=cb\/b=rb\/b=kb):=λQQ hf e=>by
  obtain⟨_,b',q',cells,f,e1,_,h1,_⟩:=hf;cases e1;rcases e with e|e|e
  .exact jB h1 hc d_ e
  .exact jB h1 hr d_ e
  .exact QQ e.symm
 exact⟨x.at (n3 h.pr d_ d_ d_) h.pr,x.at (n3 h.lin d_ d_ d_) h.lin,TS,h.fls.keepB x (nf h.nk.1 h.fls),hrf,h.rfs.keepB x (nf h.nk.2.1 h.rfs),h.wds.keep x (ni h.wds),SK,h.hsh.keep x (ni h.hsh),h.tab.keep x (ni h.tab),h.lst.keep x (λb cs f hb=>.inl (n3 hb d_ d_ d_)) (λb cs f hb=>n3 hb d_ d_ d_),h.nk⟩
theorem L3{o:Oper}{y:Operand}{u:TypeId}{p:Option Addr}(QH:o.op=.binOp .eql 56 x y u)(hx:ev x=.pointer p)(hy:ev y=.pointer none):(execOp ev o).run prog w=.ok (.value (.bool p.isNone)) w:=by
 cases p with
 |none=>
  have e:execOp ev o=(do pure (.value (←(do eqGuard .eql 56 x y (.pointer none) (.pointer none);binOp .eql 56 (.pointer none) (.pointer none))))):=by simp only[execOp,QH,hx,hy]
  have h2:(do pure (.value (←(do eqGuard .eql 56 x y (.pointer none) (.pointer none);binOp .eql 56 (.pointer none) (.pointer none)))):Sem Next).run prog w=.ok (.value (.bool true)) w:=by kernel_rfl
  rw[e,h2];rfl
 |some p=>
  have e:execOp ev o=(do pure (.value (←(do eqGuard .eql 56 x y (.pointer (some p)) (.pointer none);binOp .eql 56 (.pointer (some p)) (.pointer none))))):=by simp only[execOp,QH,hx,hy]
  have h2:(do pure (.value (←(do eqGuard .eql 56 x y (.pointer (some p)) (.pointer none);binOp .eql 56 (.pointer (some p)) (.pointer none)))):Sem Next).run prog w=.ok (.value (.bool false)) w:=by kernel_rfl
  rw[e,h2];rfl
end

theorem Li{g q:Nat}{G:List Int}(hc:w.heap[g]?=some (.cells (jA G 4) 3)):cz w (.sk g G.length q) (aH G):=⟨some ⟨g,0,none⟩,q,by simp[aH],λi u hi=>⟨_,rfl,by
 have R5:i<G.length:=by have:=(List.getElem?_eq_some_iff.1 hi).1;simpa[aH]using this
 rw[Addr.add_mid,Nat.zero_add,ak hc,ud G R5 4,←hi];simp[aH,R5]⟩⟩
section
variable{cb rb fr hb:Nat}{V K G:List Int}{on:Bool}{up:Bool}{mv:Value}{p:Option Addr}{q:Nat}
theorem P8(TQ:jZ)(QL:KS.length=64)(QX:ip KS)(hV:dP V)(h:ir w pb lb cb fb fq rb fr Rq wb qw kb qk hb hq tb tq KS V K L on sl up rs lv mv ls ms)(h0:cb≠0)(hT:w.rangeAt 0 0 (aC KS))(hG:G.length<=17592186043904)(Uf:∀x∈G,x<9223372036854775808)(hv:cz w (.slice p G.length q) (aH G))(hp:∀a:Addr,p=some a->G≠[]->a.block≠cb/\a.block≠rb/\a.block≠kb):
 Cl kX 23 #[.pk pb 0,.slice p G.length q] w λe w'=>e=.returned (.bool true)/\∃K' VC S8 Xz,ir w' pb lb cb fb fq rb fr Rq wb qw kb qk hb hq tb tq KS V K' L VC S8 VC Xz lv mv ls ms/\(VC=true->Xz=S8)/\Ex (λb=>b=cb\/b=rb\/b=kb) w w':=by
 obtain⟨ns,j,s,n,c,hQ⟩:=xn KS V L;refine av (N:=32) func23 Jo λcs a hF=>?_;have RS:=h.ch.lt;have hrl:=ar h.ref;have hpl:=ar h.pr;obtain⟨_,_,ck,fk,hk,_⟩:=id h.kpt;have Y2:=ar hk;have ncr:cb≠rb:=jB h.ch.2.2 h.ref d_;have nck:cb≠kb:=jB h.ch.2.2 hk d_;have nrk:rb≠kb:=jB h.ref hk d_;have npc:pb≠cb:=jB h.pr h.ch.2.2 d_
 iterate 2 refine aB hF λa hF=>?_
 refine bH hF func45 (Ae hv o_) λw1 ⟨c1,b1⟩ a hF=>?_;have h1:=h.below b1;have z1:=ar c1;have hpr:=h1.pr;have hT1:w1.rangeAt 0 0 (aC KS):=λj v hv=>aR b1 (hT j v hv)
 iterate 6 refine aB hF λa hF=>?_
 refine bf hF func49 (Mh (G:=G) (p:=some ⟨w.heap.size,0,none⟩) (q:=G.length+4) TQ QL hQ h1.ch hV h1.fls h0 hT1 h1.lin o_ Uf (Li c1) λa e _=>by cases e;show w.heap.size≠cb;omega) λv w2 V3 a hF=>?_;obtain⟨rfl,ch2,f2,x2⟩:=V3;have z2:=x2.size;refine bl hF (λo ho=>gy ho) λw3 a b3 c3 z3 hF=>?_;refine aM hF (λo ho=>dp ho (hF.g 6) (hF.g 16) c3 rfl) λa hF=>?_;have x4:=bE (w:=w3) w2.heap.size (a_ (jq ns K G 0).2 j s n c) 100;have o4:=aW (w:=w3) (cs:=a_ (jq ns K G 0).2 j s n c) (t:=100) c3;have X4:Ex (· =cb) w (put w3 w2.heap.size (a_ (jq ns K G 0).2 j s n c) 100):=(((ai b1).trans x2 λ_ _ e=>e).trans (ai (X:=λ_=>False) b3) λ_ _ e=>e.elim).trans x4 λb hb e=>by omega
 have c4:=x4.at o_ (bk b3 (x2.at o_ c1));have ch4:=(ch2.ex (ai (X:=λ_=>False) b3) (λe=>e)).ex x4 o_;have s4:=eJ (w:=w3) (b:=w2.heap.size) (cs:=a_ (jq ns K G 0).2 j s n c) (t:=100);revert o4 X4 c4 ch4 s4;generalize put w3 w2.heap.size (a_ (jq ns K G 0).2 j s n c) 100=w4;intro o4 X4 c4 ch4 s4
 iterate 2 refine aB hF λa hF=>?_
 refine bH hF func48 (vW o_ (cz.ex hv X4 λa _ _ e QQ=>by
  injection e with e1;exact(hp a e1 λe=>QQ (by rw[e];rfl)).1) c4) λw5 b5 a hF=>?_
 have z5:=b5.size;have X5:Ex (· =cb) w w5:=X4.trans (ai (X:=λ_=>False) b5) λ_ _ e=>e.elim;have hpr:=X5.at npc h.pr;have hrf5:=X5.at (Ne.symm ncr) h.ref;have nfr:¬fr=cb:=by
  obtain⟨_,b',q',cells,f,e1,_,g1,_⟩:=h.rfs;cases e1;exact jB g1 h.ch.2.2 d_
 have nw:∀{b:Nat} {l:List Int},ft w b l->b≠cb:=λhi=>by
  obtain⟨c,g1,_⟩:=hi;exact jB g1 h.ch.2.2 d_
 have WX:iX KS #[.sk hb 8 hq,.sk tb 64 tq] w5:=⟨hb,hq,tb,tq,rfl,(h.hsh.keep X5 (nw h.hsh)).rng,(h.hsh.keep X5 (nw h.hsh)).lt,(h.tab.keep X5 (nw h.tab)).rng,(h.tab.keep X5 (nw h.tab)).lt⟩
 iterate 6 refine aB hF λa hF=>?_
 refine bf hF func50 (Mg QL QX hQ hrf5 WX (h.rfs.keepB X5 nfr) hV (h.wds.keep X5 (nw h.wds)).rng (h.kpt.keep X5 (Ne.symm nck)) hG Uf (cz.ex hv X5 λa _ _ e QQ=>by
  injection e with e1;exact(hp a e1 λe=>QQ (by rw[e];rfl)).1) λa e QQ=>(hp a e QQ).2) λv w6 hv6 a hF=>?_
 obtain⟨rfl,rf6,kp6,x6⟩:=hv6;have z6:=x6.size;have ch6:=(ch4.ex (ai (X:=λ_=>False) b5) (λe=>e)).ex x6 (λe=>e.elim ncr nck);have o6:=x6.at (by rintro(e|e)<;>omega) (bk b5 o4);refine bl hF (λo ho=>gy ho) λw7 a b7 c7 z7 hF=>?_;refine aM hF (λo ho=>dp ho (hF.g 8) (hF.g 25) c7 rfl) λa hF=>?_;have x8:=bE (w:=w7) w6.heap.size (a_ (jq ns K G 0).2 j s n c) 100;have o8:=aW (w:=w7) (cs:=a_ (jq ns K G 0).2 j s n c) (t:=100) c7;have o8':=x8.at o_ (bk b7 o6);have B6:Ex (λb=>b=cb\/b=rb\/b=kb) w w6:=(Ex.wide X5 λ_ _ e=>.inl e).trans x6 λb _ e=>.inr e;have hB:=h.boot B6 ch6 rf6 kp6;have h8:=(hB.below b7).ex x8 ⟨by have:=ar hB.lin;omega,by have:=hB.ch.lt;omega,by
  obtain⟨_,b',q',cells,f,e1,_,g1,_⟩:=hB.fls;cases e1;have:=ar g1;omega,by have:=ar hB.ref;omega,by
  obtain⟨_,b',q',cells,f,e1,_,g1,_⟩:=hB.rfs;cases e1;have:=ar g1;omega,by have:=hB.wds.lt;omega,by
  obtain⟨_,_,_,_,g1,_⟩:=hB.kpt;have:=ar g1;omega,by have:=hB.hsh.lt;omega,by have:=hB.tab.lt;omega⟩ (x8.at (by have:=ar hB.pr;omega) (bk b7 hB.pr)) ((hB.lst.below b7).keep x8 (λb cs f g1=>.inl (jB g1 c7 d_)) λb cs f g1=>jB g1 c7 d_)
 iterate 2 refine aB hF λa hF=>?_
 refine af hF (λo ho=>kt ho (hF.g 6) o8') λa hF=>?_;refine af hF (λo ho=>kt ho (hF.g 8) o8) λa hF=>?_;refine rR hF (hy:=λo ho=>Fe ho (hF.g 28) (hF.g 29)) λa hF=>?_
 iterate 2 refine aB hF λa hF=>?_
 exact aL hF ⟨rfl,_,_,_,_,h8,λe=>by rw[if_pos e],(B6.trans (ai (X:=λ_=>False) b7) λ_ _ e=>e.elim).trans x8 λb hb e=>by omega⟩
end

theorem Mz:f47.body=some (.seq (rG f47 0) (.seq (rG f47 1) (.seq (.seq (rG f47 2) (.cond (.tmp 20) (.seq (rG f47 3) .ret) .skip)) (.seq (rG f47 4) (.seq (rG f47 5) (.seq (rG f47 6) .ret)))))):=by kernel_rfl
section
variable{o:Oper}{y z:Operand}
theorem La{h1 n1 c1 h2 n2 c2 h3 n3 c3 h4 n4 c4:Nat}(QH:o.op=.build 107 #[(0,x),(1,y),(3,z)])(hx:ev x=.agg #[.sk h1 n1 c1,.sk h2 n2 c2])(hy:ev y=.sk h3 n3 c3)(hz:ev z=.sk h4 n4 c4):
 (execOp ev o).run prog w=.ok (.value (.agg (lj (.sk h1 n1 c1) (.sk h2 n2 c2) (.sk h3 n3 c3) (.slice none 0 0) (.sk h4 n4 c4) false 0))) w:=by
 have e:execOp ev o=(do pure (.value (←Instr.build 107 #[(0,.agg #[.sk h1 n1 c1,.sk h2 n2 c2]),(1,.sk h3 n3 c3),(3,.sk h4 n4 c4)]))):=by simp[execOp,QH,hx,hy,hz]
 have h2:(do pure (.value (←Instr.build 107 #[(0,.agg #[.sk h1 n1 c1,.sk h2 n2 c2]),(1,.sk h3 n3 c3),(3,.sk h4 n4 c4)])):Sem Next).run prog w=.ok (.value (.agg (lj (.sk h1 n1 c1) (.sk h2 n2 c2) (.sk h3 n3 c3) (.slice none 0 0) (.sk h4 n4 c4) false 0))) w:=by kernel_rfl
 rw[e,h2]
end
theorem OS{q:Nat}(hk:kp.size=16)(h:kS w (.sk kb kp.size q) kp):tv w kb q (C0 kp):=by
 obtain⟨_,b,c,cells,fr,e,h1,h2,h3,h4⟩:=h;cases e;refine⟨JY hk,by omega,cells,fr,h2,by omega,λj hj=>?_⟩;have SV:j<kp.data.toList.length:=by simpa[C0]using hj
 rw[h4 j SV];simp[C0]
theorem vZ{base:Nat}(h:w.ownsRow base 3 1 v n (aH ns))(hp:1<=ns.length):∃g cap,v=.sk g ns.length cap/\base<=g/\ft w g ns:=
 let ⟨g,cap,h1,h2,_,cur,h3,h4⟩:=Ag h hp
 ⟨g,cap,h1,h2,cur,h3,h4⟩
section
variable{W:List Int}{g off cap:Nat}
structure Qe (L kp:ByteArray) (W:List Int) (w:World) (lb cb fb fq:Nat) (w':World):Prop where
 lin:w'.heap[lb]?=some (.cells #[.pk cb 0] 127)
 ch:j7 w' cb (.sk fb L.size fq) W (C0 kp) false 0
 fls:kS w' (.sk fb L.size fq) L
 at':w.heap.size<=fb/\fb<cb/\cb<lb
 below:Bw w w'
theorem Oy(hL:L.size<4611686018427387904)(SK:kp.size=16)(hW:dP W)(hr:w.rangeAt g off (W.map (Value.int .i64))):Cl kX 46 #[.string L,.slice (some ⟨g,off,none⟩) 85 cap,.string kp] w λe w'=>∃v,e=.returned v/\∃lb cb fb fq,v=.tuple #[.pk lb 0,.int .i64 0]/\Qe L kp W w lb cb fb fq w':=by
 refine cG (t:=6) (u:=7) func46 rfl λcs=>?_;refine bm (N:=23) func46 MI λa hF=>?_
 iterate 5 refine aj hF λa hF=>?_
 have hN:=Ln (cap:=cap) (kp:=kp) hL hr;rw[hW.1]at hN;refine bf hF func74 hN λv w1 hv a hF=>?_;obtain⟨hv,b1⟩:=hv;rcases hv with⟨hn,_⟩|⟨_,cb,fb,fq,rfl,h1,f1,l1,l2⟩
 .exact absurd ⟨hW,SK⟩ hn
 have hl:=h1.lt
 iterate 7 refine aj hF λa hF=>?_
 refine Rn.plain rfl (Rn.cond _ (hF.g 18) ?_);refine aj hF λa hF=>?_;refine af hF (λo ho=>KT ho (hF.g 20)) λa hF=>?_;refine cW hF λw2 a b2 c2 z2 hF=>?_
 iterate 2 refine aj hF λa hF=>?_
 exact dW hF ⟨_,rfl,w1.heap.size,cb,fb,fq,rfl,c2,h1.ex (ai (X:=λ_=>False) b2) (λe=>e),f1.keep (ai (X:=λ_=>False) b2) (λ_ _ _ _ e=>e),⟨l1,l2,hl⟩,ab b1 b1.size b2⟩
structure Qd (L kp:ByteArray) (W:List Int) (hb hq tb tq:Nat) (w:World) (rb fr Rq wb qw kb qk:Nat) (w':World):Prop where
 ref:w'.heap[rb]?=some (.cells (lj (.sk hb 8 hq) (.sk tb 64 tq) (.sk fr L.size Rq) (.sk wb 85 qw) (.sk kb 16 qk) false 0) 107)
 fls:kS w' (.sk fr L.size Rq) L
 wds:ft w' wb W
 kpt:tv w' kb qk (C0 kp)
 at':w.heap.size<=fr/\fr<kb/\kb<rb/\rb<wb
 below:Bw w w'
theorem Ox{hb:Nat}(hL:L.size<4611686018427387904)(SK:kp.size=16)(hW:dP W)(hr:w.rangeAt g off (W.map (Value.int .i64))):Cl kX 47 #[.agg #[.sk hb 8 hq,.sk tb 64 tq],.string L,.slice (some ⟨g,off,none⟩) 85 cap,.string kp] w λe w'=>∃v,e=.returned v/\∃rb fr Rq wb qw kb qk,v=.tuple #[.pk rb 0,.int .i64 0]/\Qd L kp W hb hq tb tq w rb fr Rq wb qw kb qk w':=by
 refine cG (t:=8) (u:=9) func47 rfl λcs=>?_;refine bm (N:=38) func47 Mz λa hF=>?_;refine cW hF λw1 a b1 c1 z1 hF=>?_
 iterate 3 refine aB hF λa hF=>?_
 have rg:∀{w':World},Bw w w'->w'.rangeAt g off (W.map (Value.int .i64)):=λhb j v hv=>aR hb (hr j v hv);refine bH hF func75 (vz hW (rg b1)) λw' hw a hF=>?_;rw[hw]
 iterate 6 refine aB hF λa hF=>?_
 rw[SK]at hF;refine af hF (λo ho=>lU (m:=16) (n:=16) ho (hF.get (d:=18) rfl) rfl) λa hF=>?_;refine af hF (λo ho=>fM ho (hF.get (d:=16) rfl) (hF.get (d:=19) rfl)) λa hF=>?_;refine Rn.plain rfl (Rn.cond _ (hF.get (d:=20) rfl) ?_);refine af hF (λo ho=>cc ⟨_,_,rfl⟩ ho (hF.get (d:=4) rfl) c1) λa hF=>?_;refine aB hF λa hF=>?_;refine dF hF (λo ho e=>tF hL ho (hF.get (d:=22) rfl) e) λv w2 ⟨Rq,ev2,b2,z2,f2⟩ a hF=>?_;subst ev2;refine aB hF λa hF=>?_;refine dF hF (λo ho e=>tF (by rw[SK];decide) ho (hF.get (d:=24) rfl) e) λv w3 ⟨qk,ev3,b3,z3,f3⟩ a hF=>?_;subst ev3;rw[SK]at hF;refine af hF (λo ho=>La ho (hF.get (d:=21) rfl) (hF.get (d:=23) rfl) (hF.get (d:=25) rfl)) λa hF=>?_;refine cW hF λw4 a b4 c4 z4 hF=>?_;have B3:=ab (ab b1 b1.size b2) o_ b3;have B4:=ab B3 o_ b4
 iterate 7 refine aB hF λa hF=>?_
 have Ra:w4.ownsRow w4.heap.size 3 1 (.slice none 0 0) 0 []:=⟨rfl,.inl ⟨rfl,rfl⟩⟩;refine dF hF (λo QH=>kP (t:=24) (z:=.int .i64 0) (bytes:=8) (m:=85) (news:=aH W) k_ k_ rfl Ra (λj u hu=>by rw[Addr.add_mid];exact rg B4 j u hu) (iH W) (by simp[aH,hW.1]) (hF.get (d:=32) rfl) (hF.get (d:=33) rfl) (by unfold maxLen;omega) o_ (Nat.le_refl _) o QH) λv5 w5 ⟨o5,_,g5⟩ a hF=>?_;rw[Nat.zero_add,List.nil_append]at o5;obtain⟨wb,qw,rfl,hwb,i5⟩:=vZ o5 (by rw[hW.1];decide);rw[hW.1]at hF;have b5:Bw w4 w5:=⟨g5.os,g5.tape,g5.output,g5.size,λb hb=>g5.block b hb (by simp[Value.ownBlock])⟩;have c5:=bk b5 c4
 iterate 2 refine aB hF λa hF=>?_
 refine aM hF (λo ho=>cI (v:=.sk wb 85 qw) rfl rfl k_ ho (hF.get (d:=36) rfl) (hF.get (d:=34) rfl) c5 (by decide:3<7)) λa hF=>?_;rw[show(lj (.sk hb 8 hq) (.sk tb 64 tq) (.sk w1.heap.size L.size Rq) (.slice none 0 0) (.sk w2.heap.size 16 qk) false 0).setIfInBounds 3 (.sk wb 85 qw)=lj (.sk hb 8 hq) (.sk tb 64 tq) (.sk w1.heap.size L.size Rq) (.sk wb 85 qw) (.sk w2.heap.size 16 qk) false 0 from rfl];have x6:=bE (w:=w5) w3.heap.size (lj (.sk hb 8 hq) (.sk tb 64 tq) (.sk w1.heap.size L.size Rq) (.sk wb 85 qw) (.sk w2.heap.size 16 qk) false 0) 107;have f5:=(((f2.keep (ai (X:=λ_=>False) b3) (λ_ _ _ _ e=>e)).keep (ai (X:=λ_=>False) b4) (λ_ _ _ _ e=>e)).keep (ai (X:=λ_=>False) b5) (λ_ _ _ _ e=>e)).keep x6 λb cs fr hb=>fN c5 d_ b cs fr hb;have k5:=OS SK (((f3.keep (ai (X:=λ_=>False) b4) (λ_ _ _ _ e=>e)).keep (ai (X:=λ_=>False) b5) (λ_ _ _ _ e=>e)).keep x6 λb cs fr hb=>fN c5 d_ b cs fr hb);have X6:Ex (λ_=>False) w (put w5 w3.heap.size (lj (.sk hb 8 hq) (.sk tb 64 tq) (.sk w1.heap.size L.size Rq) (.sk wb 85 qw) (.sk w2.heap.size 16 qk) false 0) 107):=(ai (ab B4 o_ b5)).trans x6 λb hb e=>by omega
 iterate 3 refine aB hF λa hF=>?_
 exact dW hF ⟨_,rfl,w3.heap.size,w1.heap.size,Rq,wb,qw,w2.heap.size,qk,rfl,aW c5,f5,i5.keep x6 o_,k5,⟨by omega,by omega,by omega,by omega⟩,X6.os,X6.tape,X6.output,X6.size,λb hb=>X6.block b hb λe=>e⟩
end

theorem Lz(w:World)(Z:Nat->Prop):Ls w Z (.slice none 0 0) (.slice none 0 0) [] []:=⟨⟨rfl,.inl ⟨rfl,rfl⟩⟩,⟨rfl,.inl ⟨rfl,rfl⟩⟩,rfl,λi v m h=>(by simp at h),λv b h=>(by simp at h),λb h=>(by cases h),λv h=>(by simp at h)⟩
def LJ(f:Func):Code:=.seq (.seq (rG f 6) (.cond (.tmp 40) .skip (.exit 0))) (.seq (.block 1 (rG f 8)) (rG f 7))
def Ly(f:Func):Code:=.seq (rG f 9) .ret
theorem MZ:f21.body=some (.seq (rG f21 0) (.seq (rG f21 1) (.seq (rG f21 2) (.seq (rG f21 3) (.seq (rG f21 4) (.seq (.seq (rG f21 5) (.block 0 (.loop (LJ f21)))) (Ly f21))))))):=by kernel_rfl
section
variable{o:Oper}{y:Operand}{u:TypeId}
theorem Lb{p p':Option Addr}(QH:o.op=.build 60 #[(0,x),(1,y)])(hx:ev x=.pointer p)(hy:ev y=.pointer p'):(execOp ev o).run prog w=.ok (.value (.agg #[.pointer p,.pointer p',.slice none 0 0,.slice none 0 0])) w:=by
 have e:execOp ev o=(do pure (.value (←Instr.build 60 #[(0,.pointer p),(1,.pointer p')]))):=by simp[execOp,QH,hx,hy]
 have h2:(do pure (.value (←Instr.build 60 #[(0,.pointer p),(1,.pointer p')])):Sem Next).run prog w=.ok (.value (.agg #[.pointer p,.pointer p',.slice none 0 0,.slice none 0 0])) w:=by kernel_rfl
 rw[e,h2]
theorem vy{t:TypeId}(QH:o.op=.binOp .neq t x y u)(hx:ev x=.pointer (some ad))(hy:ev y=.pointer none)(hu:prog.underlying t=some (.pointer t')):(execOp ev o).run prog w=.ok (.value (.bool true)) w:=by
 have h:(Op.equalIn Op.maxDepth t (.pointer (some ad)) (.pointer none)).run prog w=.ok false w:=by
  rw[show Op.maxDepth=(Op.maxDepth- 1)+1 from by decide];simp[Op.equalIn,run_underlying hu]
 simp[execOp,QH,hx,hy,eqGuard,binOp,Op.equal,h]
theorem HM(QH:o.op=.binOp .eql 36 x y u)(hx:ev x=.int .i64 0)(hy:ev y=.int .i64 0):(execOp ev o).run prog w=.ok (.value (.bool true)) w:=by
 simp[execOp,QH,hx,hy,go_sem]
theorem HN{p q:Bool}(QH:o.op=.binOp .eql 4 x y u)(hx:ev x=.bool p)(hy:ev y=.bool q):(execOp ev o).run prog w=.ok (.value (.bool (p==q))) w:=by
 simp[execOp,QH,hx,hy,go_sem]
end
section
variable{h rb:Nat}
theorem zk(nt:∀a w,Ex (· =h) w0 w->ay [(11,.pk lb 0),(12,.int .i64 0),(13,.pk rb 0),(14,.int .i64 0),(15,.bool true)] 65 [] a->Rn kX Goal ((base 21).atR a [.code (Ly f21)]) cs w):
 ∀(m i:Nat) (w:World) (a:Act),85- i=m->i<=85->(∃cur:Array Value,w.heap[h]?=some (.cells cur 3)/\cur.size=89)->Ex (· =h) w0 w->ay [(16,.int .i64 i),(10,.sk h 85 89),(11,.pk lb 0),(12,.int .i64 0),(13,.pk rb 0),(14,.int .i64 0),(15,.bool true)] 65 [] a->Rn kX Goal ((base 21).atR a [.code (LJ f21),.inLoop (LJ f21),.inBlock 0,.code (Ly f21)]) cs w:=by
 intro m;induction m with
 |zero=>
  intro i w a hm hi hc hx hF
  iterate 3 refine aB hF λa hF=>?_
  refine af hF (λo ho=>(iq (m:=i) (n:=(85:Nat)) ho (hF.g 37) (hF.g 39)).1) λa hF=>?_;refine Rn.plain rfl (Rn.cond _ (hF.g 40) ?_);rw[decide_eq_false o_];exact Rn.plain rfl (nt _ _ hx (hF.only ⟨rfl,rfl,rfl,rfl,rfl,trivial⟩))
 |succ m ih=>
  intro i w a hm hi ⟨cur,hc,hz⟩ hx hF
  iterate 3 refine aB hF λa hF=>?_
  refine af hF (λo ho=>(iq (m:=i) (n:=(85:Nat)) ho (hF.g 37) (hF.g 39)).1) λa hF=>?_;refine Rn.plain rfl (Rn.cond _ (hF.g 40) ?_);rw[decide_eq_true o_]
  iterate 3 refine aB hF λa hF=>?_
  refine af hF (λo ho=>aI (m:=1) (n:=i) ho rfl (hF.g 45) o_) λa hF=>?_;refine af hF (λo ho=>bS i k_ ho (hF.g 43) (hF.g 44) o_) λa hF=>?_;rw[Nat.zero_add]at hF;refine aM hF (λo ho=>cI (v:=.int .i64 (1+i:Nat)) rfl rfl k_ ho (hF.g 47) (hF.g 46) hc o_) λa hF=>?_;have c2:=aW (cs:=cur.setIfInBounds i (.int .i64 (1+i:Nat))) (t:=3) hc;have x2:=hx.trans (bE (w:=w) h (cur.setIfInBounds i (.int .i64 (1+i:Nat))) 3) λ_ _ e=>e;refine aB hF λa hF=>?_;refine af hF (λo ho=>aI (n:=1) ho (hF.g 41) rfl o_) λa hF=>?_;refine aB hF λa hF=>?_;exact Rn.plain rfl (Rn.plain rfl (ih (i+1) _ _ o_ o_ ⟨_,c2,by simpa using hz⟩ x2 (hF.only ⟨rfl,rfl,rfl,rfl,rfl,rfl,rfl,trivial⟩)))
end
structure Pv (w:World) (L kp:ByteArray) (W:List Int) (hb hq tb tq:Nat) (pb lb cb fb fq rb fr Rq wb qw kb qk:Nat) (w':World):Prop where
 both:ir w' pb lb cb fb fq rb fr Rq wb qw kb qk hb hq tb tq dX W (C0 kp) L false 0 false 0 (.slice none 0 0) (.slice none 0 0) [] []
 at':w.heap.size<=pb/\w.heap.size<=lb/\w.heap.size<=cb/\w.heap.size<=fb/\w.heap.size<=rb/\w.heap.size<=fr/\w.heap.size<=wb/\w.heap.size<=kb
 below:Bw w w'
section
variable{W:List Int}{g cap hb:Nat}
theorem CH(hL:L.size<4611686018427387904)(SK:kp.size=16)(hW:dP W)(hg:ft w g W)(hh:ft w hb H0)(ht:ft w tb dX):Cl kX 21 #[.agg #[.sk hb 8 hq,.sk tb 64 tq],.string L,.sk g 85 cap,.string kp] w λe w'=>∃v,e=.returned v/\∃pb lb cb fb fq rb fr Rq wb qw kb qk,v=.tuple #[.pk pb 0,.bool true]/\Pv w L kp W hb hq tb tq pb lb cb fb fq rb fr Rq wb qw kb qk w':=by
 refine cG (t:=8) (u:=9) func21 rfl λcs=>?_;refine bm (N:=65) func21 MZ λa hF=>?_;refine cW hF λw1 a b1 c1 z1 hF=>?_
 iterate 3 refine aB hF λa hF=>?_
 have SE:∀{w':World},Bw w w'->cz w' (.sk g W.length cap) (aH W):=λ{w'} hb=>by
  refine⟨some ⟨g,0,none⟩,cap,by simp[aH],λi u hi=>⟨_,rfl,?_⟩⟩;have R5:i<W.length:=by have:=(List.getElem?_eq_some_iff.1 hi).1;simpa[aH]using this
  have:=(hg.keep (ai (X:=λ_=>False) hb) (λe=>e)).rng i u (by rw[←hi];simp[aH])
  rwa [Addr.add_mid]
 have hN:=Ae (cap:=cap) (p:=some ⟨g,0,none⟩) (SE b1) (by rw[hW.1];decide);rw[hW.1]at hN;refine bH hF func45 hN λw2 ⟨c2,b2⟩ a hF=>?_;have z2:=ar c2;have B2:=ab b1 b1.size b2
 iterate 4 refine aB hF λa hF=>?_
 have TG:w2.rangeAt w1.heap.size 0 (W.map (Value.int .i64)):=λj v hv=>by
  have hj:j<W.length:=by have:=(List.getElem?_eq_some_iff.1 hv).1;simpa using this
  rw[Nat.zero_add,ak c2,ud W hj 4,←hv];simp[hj]
 refine bf hF func46 (Oy hL SK hW TG) λv w3 hv a hF=>?_;obtain⟨lb,cb,fb,fq,rfl,n3⟩:=hv;obtain⟨l3a,l3b,l3c⟩:=n3.at';have b3:=n3.below;have B3:=ab B2 B2.size b3;have z3:=b3.size;have Xe:=ar n3.lin
 iterate 5 refine aB hF λa hF=>?_
 refine af hF (λo ho=>cc ⟨_,_,rfl⟩ ho (hF.g 4) (bk b3 (bk b2 c1))) λa hF=>?_
 iterate 3 refine aB hF λa hF=>?_
 have hr3:w3.rangeAt g 0 (W.map (Value.int .i64)):=(hg.keep (ai (X:=λ_=>False) B3) (λe=>e)).rng;refine bf hF func47 (Ox hL SK hW hr3) λv w4 hv a hF=>?_;obtain⟨rb,fr,Rq,wb,qw,kb,qk,rfl,n4⟩:=hv;obtain⟨l4a,l4b,l4c,l4d⟩:=n4.at';have b4:=n4.below;have B4:=ab B3 B3.size b4;have z4:=b4.size;have hwb:=n4.wds.lt
 iterate 7 refine aB hF λa hF=>?_
 have hKp:=vW (w:=w4) (cap:=cap) (p:=some ⟨g,0,none⟩) (g:=w1.heap.size) (by rw[hW.1];decide) (SE B4) (bk b4 (bk b3 c2));rw[hW.1]at hKp;refine bH hF func48 hKp λw5 b5 a hF=>?_;have z5:=b5.size;have c5:=bk b5 (bk b4 (bk b3 c2));have B5:=ab B4 B4.size b5
 iterate 2 refine aB hF λa hF=>?_
 refine Rn.plain rfl (Rn.plain rfl (Rn.plain rfl (zk (w0:=w5) (λa w6 x6 hF=>?_) 85 0 w5 _ rfl o_ ⟨_,c5,by rw[sQ W o_,hW.1]⟩ Ex.refl (hF.only ⟨rfl,rfl,rfl,rfl,rfl,rfl,rfl,trivial⟩))))
 iterate 2 refine aB hF λa hF=>?_
 refine af hF (λo ho=>Lb ho (hF.g 48) (hF.g 49)) λa hF=>?_;refine cW hF λw7 a b7 c7 z7 hF=>?_
 iterate 4 refine aB hF λa hF=>?_
 refine af (v:=.bool true) hF (λo ho=>HM ho (hF.g 54) (hF.g 55)) λa hF=>?_;refine af hF (λo ho=>fp ho (hF.g 53) (hF.g 56)) λa hF=>?_
 iterate 2 refine aB hF λa hF=>?_
 refine af hF (λo ho=>vy (t':=127) ho (hF.g 59) rfl k_) λa hF=>?_;refine aB hF λa hF=>?_;refine af hF (λo ho=>vy (t':=107) ho (hF.g 61) rfl k_) λa hF=>?_;refine af hF (λo ho=>HN ho (hF.g 60) (hF.g 62)) λa hF=>?_;refine af hF (λo ho=>fp ho (hF.g 58) (hF.g 63)) λa hF=>?_
 iterate 2 refine aB hF λa hF=>?_
 have z6:=x6.size;have X7:Ex (· =w1.heap.size) w4 w7:=((ai b5).trans x6 λ_ _ e=>e).trans (ai (X:=λ_=>False) b7) λ_ _ e=>e.elim;have X3:Ex (· =w1.heap.size) w3 w7:=(ai b4).trans X7 λ_ _ e=>e;have X0:Ex (λ_=>False) w w7:=(ai B4).trans X7 λb hb e=>by omega
 have nh:∀{b:Nat},w1.heap.size<b->¬b=w1.heap.size:=λh e=>by omega
 have h1s:=b1.size;have hhb:=hh.lt;have htb:=ht.lt;refine dW hF ⟨_,rfl,w6.heap.size,lb,cb,fb,fq,rb,fr,Rq,wb,qw,kb,qk,rfl,⟨c7,X3.at (nh o_) n3.lin,n3.ch.ex X3 (nh o_),n3.fls.keepB X3 (nh o_),X7.at (nh o_) n4.ref,n4.fls.keepB X7 (nh o_),n4.wds.keep X7 (nh o_),n4.kpt.keep X7 (nh o_),hh.keep X0 (λe=>e),ht.keep X0 (λe=>e),Lz _ _,by omega,by omega,by omega⟩,⟨by omega,by omega,by omega,by omega,by omega,by omega,by omega,by omega⟩,X0.os,X0.tape,X0.output,X0.size,λb hb=>X0.block b hb λe=>e⟩
end



end Go.Proofs.YtkmoglhgkcnalaaGreatDoor.L1
namespace Go.Proofs.YtkmoglhgkcnalaaGreatDoor
open Go Go.Conc Go.RowKit
structure Rp (w:World) (fx:List (Nat×Value)) (ds:List Nat) (G:Nat->Value->World->Prop) (ops:Array Oper) (n:Nat) (o:Oper) (a:Act) (w':World):Prop where
 ho:ops[n]?=some o
 b:Bw w w'
 f:∀x {u},(h:fx.lookup x=some u:=by rfl)->a.eval (.tmp x)=u
 k:∀m {d},(h:ds[m]?=some d:=by rfl)->(g:kg ops n m=true:=by kernel_rfl)->∃v,a.eval (.tmp d)=v/\G m v w'
def LN:Op->Bool
 | .call c=>match c.callee with
   | .value _=>true
   |_=>false
 |_=>false
def Gc(C:iJ)(a:Act)(o:Oper)(w:World)(R:Value->World->Prop):Prop:=(LN o.op=false/\kE C.P a.eval o.op/\∃v w',(execOp a.eval o).run C.P w=.ok (.value v) w'/\R v w')\/(LN o.op=true/\∃f args,Rk C a.eval o w (.enter f args) w/\Cl C f args w λe w'=>∃v,e=.returned v/\R v w')
section
variable{C:iJ}{ds:List Nat}{G:Nat->Value->World->Prop}{o:Oper}
theorem Rp.now(z:Rp w fx ds G ops n o a w')(hr:o.op=p->(execOp a.eval o).run C.P w'= .ok (.value v) Rb)(hR:R v Rb)(h:(ops[n]?).map (·.op)=some p:=by kernel_rfl)(hc:LN p=false:=by rfl)(ok:kE C.P a.eval p:=by exact nG):Gc C a o w' R:=by
 have e:o.op=p:=by rw[z.ho]at h;exact Option.some.inj h
 exact .inl ⟨e▸hc,e▸ok,v,Rb,hr e,hR⟩
theorem Rp.calls{xs:Array Operand}{ats:Array TypeId}{vs:Array Value}{Q:Value→World→Prop}(z:Rp w fx ds G ops n o a w')(hf:C.P.funcs[f]?=some fn)(hx:xs.map a.eval=vs)(hc:Cl C f vs w' λe Rb=>∃u,e=.returned u∧Q u Rb)(h:(ops[n]?).map (·.op)=some (.call {callee:=.value (.func f),args:=xs,argTypes:=ats}):=by rfl)(hn:(fn.name== "runtime.NumGoroutine")=false:=by kernel_rfl)(hb:fn.body.isNone=false:=by kernel_rfl):Gc C a o w' Q:=by
 have e:o.op=.call {callee:=.value (.func f),args:=xs,argTypes:=ats}:=by rw[z.ho]at h;exact Option.some.inj h
 exact .inr ⟨by rw[e];rfl,f,vs,mz e hx hf hn hb rfl,hc⟩
theorem uM{b:Frame}{k:List Item}{id:Nat}(hF:ay fx N df a)(ds:List Nat)(G:Nat->Value->World->Prop)(Sf:∀n v w w',G n v w->Bw w w'->G n v w')
 (rows:∀n o a w',n<ds.length->Rp w fx ds G ops n o a w'->Gc C a o w' λv Rb=>G n v Rb/\Bw w' Rb)
 (next:∀a w',Bw w w'->ay fx N df a->(∀m d,ds[m]?=some d->∃v,a.tmps[d]?=some v/\G m v w')->Rn C Goal (b.atR a k) cs w') (RX:C.P.follows .mixedOrders=true:=by kernel_rfl) (QY:ops.size=ds.length:=by kernel_rfl) (RB:fI ops ds (fx.map (·.1)) N=true:=by kernel_rfl) (hgd:ops.all (λo=>o.guard.isNone)=true:=by kernel_rfl) (QT:(fx.map (·.1)).Nodup:=by simp):Rn C Goal (b.atR a (.code (.region id ops true)::k)) cs w:=by
 refine tm (fx:=fx) (ds:=ds) (N:=N) (df:=df) (G:=G) RX RB Sf (λn o a w' hn ho hb _ Uq QQ=>?_)
  (λm a w'=>m=ops.size/\Bw w w'/\ay fx N df a/\∀m d,ds[m]?=some d->∃v,a.tmps[d]?=some v/\G m v w') (λa w' hG=>⟨QY.symm,hG.old,AP hG.defers hG.size hG.fixed,λm d hd=>hG.come m d hd trivial⟩) (λm o a w' rest hm ho hS hgo=>?_) (λa w' h=>next a w' h.2.1 h.2.2.1 h.2.2.2) hF.defers hF.size (hF.all QT)
 .have hw:Region.wanted o (yielded ops a.tmps)=true:=by
   obtain⟨h1,h2⟩:=Array.getElem?_eq_some_iff.1 ho;have:=(Array.all_eq_true.1 hgd) n h1;rw[h2,Option.isNone_iff_eq_none]at this;simp[Region.wanted,this]
  have z:∀w1,so C.pad w' w1->Rp w fx ds G ops n o a w1:=λw1 hp=>⟨ho,ab hb hb.size hp.below,λx u h=>aQ (Uq (x,u) (jR h)),λm d hd hg=>by
   obtain⟨v,h1,h2⟩:=QQ m d hd hg;exact⟨v,aQ h1,Sf m v w' w1 h2 hp.below⟩⟩
  have z0:Rp w fx ds G ops n o a w':=⟨ho,hb,λx u h=>aQ (Uq (x,u) (jR h)),λm d hd hg=>by
   obtain⟨v,h1,h2⟩:=QQ m d hd hg;exact⟨v,aQ h1,h2⟩⟩
  refine .inl ⟨hw,?_⟩;rcases rows n o a w' hn z0 with⟨hc,ok,_⟩|⟨_,f,args,h1,h2⟩
  .refine .inl ⟨gA ok,λw1 hp=>?_⟩;rcases rows n o a w1 hn (z w1 hp)with⟨_,_,v,Rb,q1,q2,q3⟩|⟨TT,_⟩
   .exact⟨v,Rb,q1,q2,ab hp.below hp.below.size q3⟩
   .rw[hc]at TT;cases TT
  .exact .inr ⟨f,args,h1,h2⟩
 .have:=(Array.getElem?_eq_some_iff.1 ho).1;omega
end

end Go.Proofs.YtkmoglhgkcnalaaGreatDoor
namespace Go.Proofs.YtkmoglhgkcnalaaGreatDoor.L1
open Go Go.Conc Go.RowKit Go.Proofs.YtkmoglhgkcnalaaGreatDoor
section
variable{o:Oper}{y:Operand}
theorem kG(hn:n<=65536)(QH:o.op=.makeSlice 83 x y)(hx:ev x=.int .i64 n)(hy:ev y=.int .i64 n):
 (execOp ev o).run prog w=.ok (.value (.sk w.heap.size n n)) (w.alloc (.cells (madeCells #[.int .u8 0] n) 5)):=by
 have h:=run_make_row' (P:=prog) 83 5 (.int .u8 0) 1 underlying83 k_ rfl .i64 .i64 n o_ o_ w;have e:execOp ev o=(do pure (.value (←Instr.makeSlice 83 (.int .i64 n) (.int .i64 n)))):=by simp only[execOp,QH,hx,hy]
 rw[e];simp[h]
end
def pX(n:Nat):ByteArray:=⟨(List.replicate n (0:UInt8)).toArray⟩
theorem eE(n:Nat):(pX n).size=n:=by show(List.replicate n (0:UInt8)).toArray.size=n;simp
theorem iK{g:Nat}{o:Oper}(QH:o.op=.convert 83 9 x)(hx:ev x=.sk g n n)(hc:w.heap[g]?=some (.cells (madeCells #[.int .u8 0] n) 5)):(execOp ev o).run prog w=.ok (.value (.string (pX n))) w:=by
 refine qL (l:=List.replicate n 0) QH (by rw[List.length_replicate];exact hx) λj hj=>?_;rw[i6]at hc;have h:=ak hc j;rw[h];have SV:j<n:=by simpa using hj
 simp[SV]
theorem Jq:f39.body=some (.seq (rG f39 0) (.seq (.seq (rG f39 1) (.cond (.tmp 5) (.seq (rG f39 2) .ret) .skip)) (.seq (rG f39 3) .ret))):=by kernel_rfl
theorem yH(s:ByteArray)(w:World):
 Cl kX 39 #[.string s] w λe w'=>∃r:ByteArray,e=.returned (.string r)/\r.size<=s.size+8192/\Bw w w':=by
 refine av (N:=14) func39 Jq λcs a hF=>?_
 iterate 4 refine a9 hF λa hF=>?_
 refine Rn.plain rfl (Rn.cond _ (hF.g 5) ?_);by_cases h:8192<=s.size
 .rw[decide_eq_true o_]
  iterate 2 refine a9 hF λa hF=>?_
  exact aL hF ⟨s,rfl,by omega,Below.refl _ _⟩
 rw[decide_eq_false o_];have e1:(8192:Int)-(s.size:Int)=((8192- s.size:Nat):Int):=by omega
 iterate 4 refine a9 hF λa hF=>?_
 rw[e1]at hF;refine bl hF (λo ho=>kG (n:=8192- s.size) o_ ho (hF.g 10) (hF.g 10)) λw1 a b1 c1 _ hF=>?_;refine af hF (λo ho=>iK ho (hF.g 11) c1) λa hF=>?_;refine af hF (λo ho=>cn ho (hF.g 7) (hF.g 12) (by rw[eE];omega)) λa hF=>?_;refine a9 hF λa hF=>?_;exact Rn.plain rfl (Rn.ends rfl (.inr ⟨_,rfl⟩) (Rn.now ⟨a,_,_,rfl,hF.defers,hF.slot 2 _ rfl,_,rfl,by rw[ByteArray.size_append,eE];omega,b1⟩))

theorem xB{s:Sc}(kd:wU s)(hs:s.seed.size<=140737488351232):CQ (dC dX s)/\(dC dX s).sh<=8/\1<=(dC dX s).n/\(dC dX s).n<=34*(8/(dC dX s).wd)/\(dC dX s).t<1000/\(dC dX s).c<1000/\(dC dX s).path.size<=1000/\(dC dX s).root.size<=1000:=by
 have ok:=kd.ok hs;have hps:(dC dX s).path.size=32*s.h:=lW dX s.seed _ s.h;have hrs:(dC dX s).root.size=32:=qK dX s.id s.seed _ _ (eH dX _) s.h;have h5:=ok.h;obtain⟨k1,k2,k3,k4,k5,k6,k7,k8⟩:=kd;refine⟨⟨ok.len,ok.id,ok.q,ok.h,ok.wd,ok.n⟩,?_,?_,?_,?_,?_,by omega,by omega⟩
 .show s.sh<=8;rcases k2 with e|e|e<;>rw[k6,e]<;>decide
 .show 1<=s.n;rcases k2 with e|e|e<;>rw[k5,e]<;>decide
 .show s.n<=34*(8/s.wd);rcases k2 with e|e|e<;>rw[k5,k4,e]<;>decide
 .show s.t<1000;omega
 .show s.c<1000;omega
def JZ(ch qi:Int)(seed:ByteArray)(ver en gap ex:Int)(body:ByteArray)(sa sw sc:Int)(sm:ByteArray)(aa aw aq:Int)(am:ByteArray):Array Value:=
 #[.int .i64 ch,.int .i64 qi,.string seed,.int .i64 ver,.int .i64 en,.int .i64 gap,.int .i64 ex,.string body,.int .i64 sa,.int .i64 sw,.int .i64 sc,.string sm,.int .i64 aa,.int .i64 aw,.int .i64 aq,.string am]
def wv(v:Int):Nat:=(v%18446744073709551616).toNat
theorem uT(v:Int):((wv v:Nat):Int)=v%18446744073709551616:=by unfold wv;omega
section
variable{o:Oper}{y:Operand}{u:TypeId}{m n:Int}
theorem jt(j jo:Nat)(hj:(j<9/\jo=j)\/(j=9/\jo=12))(QH:o.op=.fieldAddr 41 x j)(hx:ev x=.pk b 0):(execOp ev o).run prog w=.ok (.value (.pk b jo)) w:=by
 have e:execOp ev o=(do pure (.value (←Instr.fieldAt 41 (.pk b 0) j))):=by simp only[execOp,QH,hx]
 have h2:(do pure (.value (←Instr.fieldAt 41 (.pk b 0) j)):Sem Next).run prog w=.ok (.value (.pk b jo)) w:=by
  rcases hj with⟨hj,rfl⟩|⟨rfl,rfl⟩
  .rcases(by omega:jo=0\/jo=1\/jo=2\/jo=3\/jo=4\/jo=5\/jo=6\/jo=7\/jo=8)with rfl|rfl|rfl|rfl|rfl|rfl|rfl|rfl|rfl<;>kernel_rfl
  .kernel_rfl
 rw[e,h2]
theorem DT(j:Nat)(hj:j<2)(QH:o.op=.fieldAddr 23 x j)(hx:ev x=.pk b 12):(execOp ev o).run prog w=.ok (.value (.pk b (12+j))) w:=by
 have e:execOp ev o=(do pure (.value (←Instr.fieldAt 23 (.pk b 12) j))):=by simp only[execOp,QH,hx]
 have h2:(do pure (.value (←Instr.fieldAt 23 (.pk b 12) j)):Sem Next).run prog w=.ok (.value (.pk b (12+j))) w:=by
  rcases(by omega:j=0\/j=1)with rfl|rfl<;>kernel_rfl
 rw[e,h2]
theorem Of(j:Nat)(hj:j=2\/j=4)(QH:o.op=.fieldAddr 29 x j)(hx:ev x=.pk b 0):(execOp ev o).run prog w=.ok (.value (.pk b j)) w:=by
 have e:execOp ev o=(do pure (.value (←Instr.fieldAt 29 (.pk b 0) j))):=by simp only[execOp,QH,hx]
 have h2:(do pure (.value (←Instr.fieldAt 29 (.pk b 0) j)):Sem Next).run prog w=.ok (.value (.pk b j)) w:=by
  rcases hj with rfl|rfl<;>kernel_rfl
 rw[e,h2]
theorem DX{ch ver en gap ex sa sw sc aa aw aq:Int}{body sm am:ByteArray}(QH:o.op=.load 23 x)(hx:ev x=.pk b 8)(h:w.heap[b]?=some (.cells (JZ ch qi seed ver en gap ex body sa sw sc sm aa aw aq am) 41)):(execOp ev o).run prog w=.ok (.value (.agg #[.int .i64 sa,.int .i64 sw,.int .i64 sc,.string sm])) w:=by
 have h1:(isAgg 23).run prog w=.ok true w:=by kernel_rfl
 have hc:=ak h;simp[execOp,QH,hx,Instr.loadAt,loadVar,h1,loadCells,loadCellsFrom,Addr.add,hc,JZ,go_sem]
theorem HT(QH:o.op=.build 23 #[(0,x),(1,y)])(hx:ev x=.int .i64 m)(hy:ev y=.int .i64 n):(execOp ev o).run prog w=.ok (.value (.agg #[.int .i64 m,.int .i64 n,.int .i64 0,.string ⟨#[]⟩])) w:=by
 have e:execOp ev o=(do pure (.value (←Instr.build 23 #[(0,.int .i64 m),(1,.int .i64 n)]))):=by simp[execOp,QH,hx,hy]
 have h2:(do pure (.value (←Instr.build 23 #[(0,.int .i64 m),(1,.int .i64 n)])):Sem Next).run prog w=.ok (.value (.agg #[.int .i64 m,.int .i64 n,.int .i64 0,.string ⟨#[]⟩])) w:=by kernel_rfl
 rw[e,h2]
theorem pN(QH:o.op=.binOp .mul 3 x y u)(hx:ev x=.int .i64 m)(hy:ev y=.int .i64 n)(h: -9223372036854775808<=m*n/\m*n<9223372036854775808):(execOp ev o).run prog w=.ok (.value (.int .i64 (m*n))) w:=by
 have e:IntKind.i64.wrap (m*n)=m*n:=by rw[IntKind.wrap_i64];omega
 simp[execOp,QH,hx,hy,go_sem,e]
theorem HY(QH:o.op=.binOp .add 3 x y u)(hx:ev x=.int .i64 m)(hy:ev y=.int .i64 n):(execOp ev o).run prog w=.ok (.value (.int .i64 (IntKind.i64.wrap (m+n)))) w:=by
 simp[execOp,QH,hx,hy,go_sem]
end

def vT:ByteArray:=⟨#[76,78,84,76]⟩
theorem gQ:vT.size=4:=rfl
def PH(ver:Int)(sg:Nat)(en:Int)(at_ ln:Nat)(ex:Int)(key:ByteArray):ByteArray:=vT++ob (wv ver) 2++ob (wv sg) 4++ob (wv (4*(dR en 300:Nat))) 4++ob (wv at_) 4++ob (wv (IntKind.i64.wrap (ln+ex))) 4++key
theorem ET(ver:Int)(sg:Nat)(en:Int)(at_ ln:Nat)(ex:Int)(key:ByteArray):(PH ver sg en at_ ln ex key).size=22+key.size:=by
 simp only[PH,ByteArray.size_append,bR,gQ]
section
variable{ch ver en gap ex sa sw sc aa aw aq:Int}{body sm am:ByteArray}{b6:Nat}{bd key:ByteArray}{sg at_:Nat}
theorem Mf(UO:w.heap[b3]?=some (.cells (JZ ch qi seed ver en gap ex body sa sw sc sm aa aw aq am) 41))(Xi: -9223372036854775808<=en/\en<9223372036854775808)(hk:key.size<=3000)
 (hF:ay [(2,.pk b2 0),(3,.pk b3 0),(6,.pk b6 0),(7,.string bd),(8,.int .i64 sg),(9,.int .i64 at_),(10,.int .i64 ln),(11,.string key)] 110 [] a)
 (next:∀a w',(Bw w w'/\ay [(12,.string (PH ver sg en at_ ln ex key)),(2,.pk b2 0),(3,.pk b3 0),(6,.pk b6 0),(7,.string bd),(8,.int .i64 sg),(9,.int .i64 at_),(10,.int .i64 ln),(11,.string key)] 110 [] a)->Rn kX Goal (fr.atR a K) cs w'):
 Rn kX Goal (fr.atR a (.code (rD f16 9)::K)) cs w:=by
 have hp:=ib en (n:=300) d_;have l3:=(Array.getElem?_eq_some_iff.1 UO).1;refine bY hF ?_;refine Gx.q (v:=.pk b3 3) ?_ (y:=λo a w1 ho z=>(jt 3 3 d_ ho gx));refine Gx.q (v:=.int .i64 ver) ?_;refine Gx.k (v:=.string (ob (wv ver) 2)) func29 (λw1 hb _=>(iF ver (wv ver) 2 _ d_ (uT _))) ?_;refine Gx.q (v:=.string (vT++ob (wv ver) 2)) ?_ (y:=λo a w1 ho z=>(cn ho rfl gx (by simp only[bR,gQ];omega)));refine Gx.q ?_;refine Gx.k (v:=.string (ob (wv sg) 4)) func29 (λw1 hb _=>(iF sg (wv sg) 4 _ d_ (uT _))) ?_;refine Gx.q (v:=.string (vT++ob (wv ver) 2++ob (wv sg) 4)) ?_ (y:=λo a w1 ho z=>(cn ho gx gx (by simp only[ByteArray.size_append,bR,gQ];omega)));refine Gx.q (v:=.pk b3 4) ?_ (y:=λo a w1 ho z=>(jt 4 4 d_ ho gx));refine Gx.q (v:=.int .i64 en) ?_;refine Gx.k (v:=.int .i64 (dR en 300:Nat)) func17 (λw1 hb _=>((fR en 300 Xi d_ _).mono λ_ _ h=>⟨h.1,by rw[h.2];exact Below.refl _ _⟩)) ?_;refine Gx.q (v:=.int .i64 (4*(dR en 300:Nat))) ?_ (y:=λo a w1 ho z=>(pN ho rfl gx o_));refine Gx.k (v:=.string (ob (wv (4*(dR en 300:Nat))) 4)) func29 (λw1 hb _=>(iF (4*(dR en 300:Nat)) (wv (4*(dR en 300:Nat))) 4 _ d_ (uT _))) ?_;refine Gx.q (v:=.string (vT++ob (wv ver) 2++ob (wv sg) 4++ob (wv (4*(dR en 300:Nat))) 4)) ?_ (y:=λo a w1 ho z=>(cn ho gx gx (by simp only[ByteArray.size_append,bR,gQ];omega)));refine Gx.q ?_;refine Gx.k (v:=.string (ob (wv at_) 4)) func29 (λw1 hb _=>(iF at_ (wv at_) 4 _ d_ (uT _))) ?_;refine Gx.q (v:=.string (vT++ob (wv ver) 2++ob (wv sg) 4++ob (wv (4*(dR en 300:Nat))) 4++ob (wv at_) 4)) ?_ (y:=λo a w1 ho z=>(cn ho gx gx (by simp only[ByteArray.size_append,bR,gQ];omega)));refine Gx.q ?_;refine Gx.q (v:=.pk b3 6) ?_ (y:=λo a w1 ho z=>(jt 6 6 d_ ho gx));refine Gx.q (v:=.int .i64 ex) ?_;refine Gx.q (v:=.int .i64 (IntKind.i64.wrap (ln+ex))) ?_ (y:=λo a w1 ho z=>(HY (u:=3) ho gx gx));refine Gx.k (v:=.string (ob (wv (IntKind.i64.wrap (ln+ex))) 4)) func29 (λw1 hb _=>(iF (IntKind.i64.wrap (ln+ex)) (wv (IntKind.i64.wrap (ln+ex))) 4 _ d_ (uT _))) ?_;refine Gx.q (v:=.string (vT++ob (wv ver) 2++ob (wv sg) 4++ob (wv (4*(dR en 300:Nat))) 4++ob (wv at_) 4++ob (wv (IntKind.i64.wrap (ln+ex))) 4)) ?_ (y:=λo a w1 ho z=>(cn ho gx gx (by simp only[ByteArray.size_append,bR,gQ];omega)));refine Gx.q ?_;refine Gx.q (v:=.string (vT++ob (wv ver) 2++ob (wv sg) 4++ob (wv (4*(dR en 300:Nat))) 4++ob (wv at_) 4++ob (wv (IntKind.i64.wrap (ln+ex))) 4++key)) ?_ (y:=λo a w1 ho z=>(cn ho gx gx (by simp only[ByteArray.size_append,bR,gQ];omega)));refine Gx.q ?_;exact Gx.e λa w' hF hb _=>next a w' ⟨hb,hF.O⟩
theorem Ji(QL:KS.length=64)(QX:ip KS){cv:Array Value}{s:Sc}{text:ByteArray}(hX:Xn=⟨(de KS seed.data.toList).toArray⟩)(hXs:Xn.size=32)(ok:CQ s)(hsh:s.sh<=8)(SA:1<=s.n)(RV:s.n<=34*(8/s.wd))(ht:s.t<1000)(hc:s.c<1000)(RR:s.id.size=16)(hp:s.path.size<=1000)(Se:seed.size<=140737488351232)(htx:text.size<=10000)(hC:iX KS cv w)(Rx:w.heap[b2]?=some (.cells cv 26))(UO:w.heap[b3]?=some (.cells (JZ ch qi seed ver en gap ex body sa sw sc sm aa aw aq am) 41))(Re:w.heap[b6]?=some (.cells s.cells 31))
 (hF:ay [(2,.pk b2 0),(3,.pk b3 0),(6,.pk b6 0),(8,.int .i64 sg),(9,.int .i64 at_),(11,.string key),(13,.string text)] 110 [] a)
 (next:∀a w',(Bw w w'/\ay [(14,.string (Bl KS s Xn text)),(2,.pk b2 0),(3,.pk b3 0),(6,.pk b6 0),(8,.int .i64 sg),(9,.int .i64 at_),(11,.string key),(13,.string text)] 110 [] a)->Rn kX Goal (fr.atR a K) cs w'):
 Rn kX Goal (fr.atR a (.code (rD f16 11)::K)) cs w:=by
 refine bY hF ?_;refine Gx.q (v:=.agg cv) ?_;refine Gx.q (v:=.agg s.cells) ?_ (y:=λo a w1 ho z=>(mx ho gx ((z.b.block _ (Array.getElem?_eq_some_iff.1 Re).1).trans Re)));refine Gx.q (v:=.agg cv) ?_;refine Gx.q (v:=.pk b3 2) ?_ (y:=λo a w1 ho z=>(jt 2 2 d_ ho gx));refine Gx.q (v:=.string seed) ?_ (y:=λo a w1 ho z=>(an bN ho gx ((ak ((z.b.block _ (Array.getElem?_eq_some_iff.1 UO).1).trans UO) 2).trans rfl)).1);refine Gx.k (v:=.string Xn) func12 (λw1 hb _=>(kq (j0 KS QL QX cv seed _ (hC.mono hb) o_) (congrArg Value.string hX.symm))) ?_;refine Gx.q ?_;refine Gx.k (v:=.string (Bl KS s Xn text)) func11 (λw1 hb _=>(Dl QL QX s Xn text ok hsh SA RV ht hc hp o_ o_ _ (hC.mono hb))) ?_;refine Gx.q ?_;exact Gx.e λa w' hF hb _=>next a w' ⟨hb,hF.O⟩
end

def Ps(b3 sg at_ r N:Nat)(text sig sm:ByteArray)(sa sw sc:Int):Nat->Value->World->Prop
 |0,v,_=>v=.string text
 |1,v,_=>v=.int .i64 at_
 |2,v,_=>v=.int .i64 sg
 |3,v,_=>v=.int .i64 r
 |4,v,w=>∃g,v=.sk g r r/\w.heap[g]?=some (.cells (madeCells #[.int .u8 0] r) 5)
 |5,v,_=>v=.string (pX r)
 |6,v,_=>v=.string (text++pX r)
 |7,v,_=>v=.string sig
 |8,v,_=>v=.pk b3 8
 |9,v,_=>v=.agg #[.int .i64 sa,.int .i64 sw,.int .i64 sc,.string sm]
 |10,v,_=>∃t,v=.string t/\t.size<=sig.size+sm.size
 |_,v,_=>∃t,v=.string t/\t.size<=N
theorem Ps.mono{sg at_:Nat}{text sm:ByteArray}{sa sw sc:Int}(n:Nat)(v:Value)(w w':World)(h:Ps b3 sg at_ r N text sig sm sa sw sc n v w)(hb:Bw w w'):Ps b3 sg at_ r N text sig sm sa sw sc n v w':=by
 match n,h with
 |0,h|1,h|2,h|3,h|5,h|6,h|7,h|8,h|9,h|10,h=>exact h
 |4,h=>
  obtain⟨g,e,hc⟩:=h;exact⟨g,e,bk hb hc⟩
 |n+11,h=>exact h
def QF(b3 N:Nat)(t key:ByteArray)(aa aw:Int):Nat->Value->World->Prop
 |0,v,_=>v=.string t
 |1,v,_=>∃r,v=.string r/\r.size<=N
 |2,v,_=>v=.pk b3 12
 |3,v,_=>v=.pk b3 12
 |4,v,_=>v=.int .i64 aa
 |5,v,_=>v=.pk b3 12
 |6,v,_=>v=.pk b3 13
 |7,v,_=>v=.int .i64 aw
 |8,v,_=>v=.agg #[.int .i64 aa,.int .i64 aw,.int .i64 0,.string ⟨#[]⟩]
 |9,v,_=>∃r,v=.string r/\r.size<=N
 |10,v,_=>v=.string key
 |11,v,_=>∃r,v=.string r/\r.size<=N
 |_,v,_=>v=.string key
section
variable{ch ver en gap ex sa sw sc aa aw aq:Int}{body sm am:ByteArray}{key text t:ByteArray}{sg at_:Nat}
theorem Jh(UO:w.heap[b3]?=some (.cells (JZ ch qi seed ver en gap ex body sa sw sc sm aa aw aq am) 41))(Ur:at_=sg+r)(hr:r<=8)(htx:text.size<=10000)(Ro:sig.size<=10000)(hsm:sm.size<=1125899906842624)(hsa: -9223372036854775808<=sa/\sa<9223372036854775808)(hsc: -9223372036854775808<=sc/\sc<9223372036854775808)
 (hF:ay [(3,.pk b3 0),(8,.int .i64 sg),(9,.int .i64 at_),(11,.string key),(13,.string text),(14,.string sig)] 110 [] a)
 (next:∀a w' t,t.size<=20100+sm.size->Bw w w'->ay [(15,.string t),(3,.pk b3 0),(8,.int .i64 sg),(9,.int .i64 at_),(11,.string key),(13,.string text),(14,.string sig)] 110 [] a->Rn kX Goal (fr.atR a K) cs w'):
 Rn kX Goal (fr.atR a (.code (rD f16 12)::K)) cs w:=by
 have l3:=(Array.getElem?_eq_some_iff.1 UO).1;have e1:(at_:Int)-(sg:Int)=(r:Int):=by omega
 refine uM hF [87,88,89,90,91,92,93,94,95,96,97,98,15] (Ps b3 sg at_ r (20100+sm.size) text sig sm sa sw sc) Ps.mono (λn o a w' hn z=>?_) (λa w' hb hF hs=>?_)
 .match n,hn,z with
  |0,_,z=>exact z.now (p:=.move (.tmp 13)) (λe=>by rw[bT (.inl e),z.f 13]) ⟨rfl,Below.refl _ _⟩
  |1,_,z=>exact z.now (p:=.move (.tmp 9)) (λe=>by rw[bT (.inl e),z.f 9]) ⟨rfl,Below.refl _ _⟩
  |2,_,z=>exact z.now (p:=.move (.tmp 8)) (λe=>by rw[bT (.inl e),z.f 8]) ⟨rfl,Below.refl _ _⟩
  |3,_,z=>
   obtain⟨_,h1,rfl⟩:=z.k 1 (d:=88);obtain⟨_,h2,rfl⟩:=z.k 2 (d:=89);exact z.now (p:=.binOp .sub 3 (.tmp 88) (.tmp 89) 3) (λe=>lT e h1 h2 o_) ⟨by rw[e1];rfl,Below.refl _ _⟩ (ok:=.inl ⟨pl h1,pl h2⟩)
  |4,_,z=>
   obtain⟨_,h1,rfl⟩:=z.k 3 (d:=90);exact z.now (p:=.makeSlice 83 (.tmp 90) (.tmp 90)) (λe=>kG o_ e h1 h1) ⟨⟨_,rfl,aK _ _⟩,aD _ _⟩
  |5,_,z=>
   obtain⟨_,h1,g,rfl,hg⟩:=z.k 4 (d:=91);exact z.now (p:=.convert 83 9 (.tmp 91)) (λe=>iK e h1 hg) ⟨rfl,Below.refl _ _⟩ (ok:=⟨by kernel_rfl,pl h1⟩)
  |6,_,z=>
   obtain⟨_,h1,rfl⟩:=z.k 0 (d:=87);obtain⟨_,h2,rfl⟩:=z.k 5 (d:=92);exact z.now (p:=.binOp .add 9 (.tmp 87) (.tmp 92) 9) (λe=>cn e h1 h2 (by rw[eE];omega)) ⟨rfl,Below.refl _ _⟩ (ok:=.inl ⟨pl h1,pl h2⟩)
  |7,_,z=>exact z.now (p:=.move (.tmp 14)) (λe=>by rw[bT (.inl e),z.f 14]) ⟨rfl,Below.refl _ _⟩
  |8,_,z=>exact z.now (p:=.fieldAddr 41 (.tmp 3) 8) (λe=>jt 8 8 d_ e (z.f 3)) ⟨rfl,Below.refl _ _⟩
  |9,_,z=>
   obtain⟨_,h1,rfl⟩:=z.k 8 (d:=95);exact z.now (p:=.load 23 (.tmp 95)) (λe=>DX e h1 ((z.b.block _ l3).trans UO)) ⟨rfl,Below.refl _ _⟩
  |10,_,z=>
   obtain⟨_,h1,rfl⟩:=z.k 7 (d:=94);obtain⟨_,h2,rfl⟩:=z.k 9 (d:=96);exact z.calls func14 (xs:=#[.tmp 94,.tmp 96]) (vs:=#[.string sig,.agg #[.int .i64 sa,.int .i64 sw,.int .i64 sc,.string sm]]) (by simp[h1,h2]) ((ox sig sa sw sc sm o_ hsm hsa hsc w').mono λe Rb ⟨r,q1,q2,q3⟩=>⟨_,q1,⟨r,rfl,q2⟩,q3⟩)
  |11,_,z=>
   obtain⟨_,h1,rfl⟩:=z.k 6 (d:=93);obtain⟨_,h2,t,rfl,ht⟩:=z.k 10 (d:=97);exact z.now (p:=.binOp .add 9 (.tmp 93) (.tmp 97) 9) (λe=>cn e h1 h2 (by rw[ByteArray.size_append,eE];omega)) ⟨⟨_,rfl,by rw[ByteArray.size_append,ByteArray.size_append,eE];omega⟩,Below.refl _ _⟩ (ok:=.inl ⟨pl h1,pl h2⟩)
  |12,_,z=>
   obtain⟨_,h1,t,rfl,ht⟩:=z.k 11 (d:=98);exact z.now (p:=.assign (.tmp 98)) (λe=>by rw[bT (.inr e),h1]) ⟨⟨t,rfl,ht⟩,Below.refl _ _⟩
  |n+13,h,_=>exact absurd h s_
 .obtain⟨_,h1,t,rfl,ht⟩:=hs 12 15 rfl;exact next a w' t ht hb (hF.more h1)
theorem Jg(UO:w.heap[b3]?=some (.cells (JZ ch qi seed ver en gap ex body sa sw sc sm aa aw aq am) 41))(N:Nat)(hN:N<=1125899906842624)(ht:t.size+8192<=N)(haa: -9223372036854775808<=aa/\aa<9223372036854775808)
 (hF:ay [(3,.pk b3 0),(11,.string key),(15,.string t)] 110 [] a)
 (next:∀a w' r,r.size<=N->Bw w w'->ay [(4,.string r),(5,.string key)] 110 [] a->Rn kX Goal (fr.atR a K) cs w'):
 Rn kX Goal (fr.atR a (.code (rD f16 13)::K)) cs w:=by
 have l3:=(Array.getElem?_eq_some_iff.1 UO).1;refine uM hF [99,100,101,102,103,104,105,106,107,108,109,4,5] (QF b3 N t key aa aw) (λn v w w' h _=>?_) (λn o a w' hn z=>?_) (λa w' hb hF hs=>?_)
 .match n,h with
  |0,h|1,h|2,h|3,h|4,h|5,h|6,h|7,h|8,h|9,h|10,h|11,h=>exact h
  |n+12,h=>exact h
 .match n,hn,z with
  |0,_,z=>exact z.now (p:=.move (.tmp 15)) (λe=>by rw[bT (.inl e),z.f 15]) ⟨rfl,Below.refl _ _⟩
  |1,_,z=>
   obtain⟨_,h1,rfl⟩:=z.k 0 (d:=99);exact z.calls func39 (xs:=#[.tmp 99]) (vs:=#[.string t]) (by simp[h1]) ((yH t w').mono λe Rb ⟨r,q1,q2,q3⟩=>⟨_,q1,⟨r,rfl,by omega⟩,q3⟩)
  |2,_,z=>exact z.now (p:=.fieldAddr 41 (.tmp 3) 9) (λe=>jt 9 12 d_ e (z.f 3)) ⟨rfl,Below.refl _ _⟩
  |3,_,z=>
   obtain⟨_,h1,rfl⟩:=z.k 2 (d:=101);exact z.now (p:=.fieldAddr 23 (.tmp 101) 0) (λe=>DT 0 d_ e h1) ⟨rfl,Below.refl _ _⟩
  |4,_,z=>
   obtain⟨_,h1,rfl⟩:=z.k 3 (d:=102);exact z.now (p:=.load 3 (.tmp 102)) (λe=>(an (v:=.int .i64 aa) az e h1 ((ak ((z.b.block _ l3).trans UO) 12).trans rfl)).1) ⟨rfl,Below.refl _ _⟩
  |5,_,z=>exact z.now (p:=.fieldAddr 41 (.tmp 3) 9) (λe=>jt 9 12 d_ e (z.f 3)) ⟨rfl,Below.refl _ _⟩
  |6,_,z=>
   obtain⟨_,h1,rfl⟩:=z.k 5 (d:=104);exact z.now (p:=.fieldAddr 23 (.tmp 104) 1) (λe=>DT 1 d_ e h1) ⟨rfl,Below.refl _ _⟩
  |7,_,z=>
   obtain⟨_,h1,rfl⟩:=z.k 6 (d:=105);exact z.now (p:=.load 3 (.tmp 105)) (λe=>(an (v:=.int .i64 aw) az e h1 ((ak ((z.b.block _ l3).trans UO) 13).trans rfl)).1) ⟨rfl,Below.refl _ _⟩
  |8,_,z=>
   obtain⟨_,h1,rfl⟩:=z.k 4 (d:=103);obtain⟨_,h2,rfl⟩:=z.k 7 (d:=106);exact z.now (p:=.build 23 #[(0,.tmp 103),(1,.tmp 106)]) (λe=>HT e h1 h2) ⟨rfl,Below.refl _ _⟩
  |9,_,z=>
   obtain⟨_,h1,r,rfl,hr⟩:=z.k 1 (d:=100);obtain⟨_,h2,rfl⟩:=z.k 8 (d:=107);exact z.calls func14 (xs:=#[.tmp 100,.tmp 107]) (vs:=#[.string r,.agg #[.int .i64 aa,.int .i64 aw,.int .i64 0,.string ⟨#[]⟩]]) (by simp[h1,h2]) ((ox r aa aw 0 ⟨#[]⟩ o_ d_ haa d_ w').mono λe Rb ⟨r',q1,q2,q3⟩=>⟨_,q1,⟨r',rfl,Nat.le_trans q2 hr⟩,q3⟩)
  |10,_,z=>exact z.now (p:=.move (.tmp 11)) (λe=>by rw[bT (.inl e),z.f 11]) ⟨rfl,Below.refl _ _⟩
  |11,_,z=>
   obtain⟨_,h1,r,rfl,hr⟩:=z.k 9 (d:=108);exact z.now (p:=.assign (.tmp 108)) (λe=>by rw[bT (.inr e),h1]) ⟨⟨r,rfl,hr⟩,Below.refl _ _⟩
  |12,_,z=>
   obtain⟨_,h1,rfl⟩:=z.k 10 (d:=109);exact z.now (p:=.assign (.tmp 109)) (λe=>by rw[bT (.inr e),h1]) ⟨rfl,Below.refl _ _⟩
  |n+13,h,_=>exact absurd h s_
 .obtain⟨_,h1,r,rfl,hr⟩:=hs 11 4 rfl;obtain⟨_,h2,rfl⟩:=hs 12 5 rfl;exact next a w' r hr hb (((hF.more h2).more h1).only ⟨rfl,rfl,trivial⟩)
end

theorem Js:f16.body=some (.seq (rG f16 0) (.seq (rG f16 1) (.seq (rG f16 2) (.seq (.seq (rG f16 3) (.cond (.tmp 28) (rG f16 4) .skip)) (.seq (rG f16 5) (.seq (rG f16 6) (.seq (rG f16 7) (.seq (rG f16 8) (.seq (rD f16 9) (.seq (rG f16 10) (.seq (rD f16 11) (.seq (rD f16 12) (.seq (rD f16 13) .ret))))))))))))):=by kernel_rfl
theorem Cz{cv:Array Value}(ch qi:Int)(seed:ByteArray)(ver en gap ex:Int)(body:ByteArray)(sa sw sc:Int)(sm:ByteArray)(aa aw aq:Int)(am:ByteArray)(TS: -9223372036854775808<=ch/\ch<9223372036854775808)(U2: -9223372036854775808<=qi/\qi<9223372036854775808)(Xi: -9223372036854775808<=en/\en<9223372036854775808)(hgap: -9223372036854775808<=gap/\gap<9223372036854775808)(hsa: -9223372036854775808<=sa/\sa<9223372036854775808)(hsc: -9223372036854775808<=sc/\sc<9223372036854775808)(haa: -9223372036854775808<=aa/\aa<9223372036854775808)(Se:seed.size<=140737488351232)(hsm:sm.size<=140737488351232)(w:World)(hC:iX dX cv w):
 Cl kX 16 #[.agg cv,.agg (JZ ch qi seed ver en gap ex body sa sw sc sm aa aw aq am)] w λe w'=>∃r key:ByteArray,e=.returned (.tuple #[.string r,.string key])/\r.size<=281474976000000/\key.size<=3000/\Bw w w':=by
 refine cG (t:=4) (u:=5) func16 rfl λcs=>?_;refine bm (N:=110) func16 Js λa hF=>?_;refine cW hF λw0 a b0 c2 z0 hF=>?_;refine cW hF λw1 a b1 c3 _ hF=>?_;have c2:=(b1.block _ o_).trans c2;have B1:Bw w w1:=ab b0 b0.size b1;rw[z0]at hF c3;refine a9 hF λa hF=>?_;refine a9 hF λa hF=>?_;refine af hF (λo ho=>cc hC.two ho (hF.g 2) c2) λa hF=>?_;refine af hF (λo ho=>jt 0 0 d_ ho (hF.g 3)) λa hF=>?_;refine a9 hF λa hF=>?_;refine af hF (λo ho=>jt 1 1 d_ ho (hF.g 3)) λa hF=>?_;refine a9 hF λa hF=>?_;refine af hF (λo ho=>jt 2 2 d_ ho (hF.g 3)) λa hF=>?_;refine a9 hF λa hF=>?_;refine bf hF func9 (R:=λv w'=>∃s:Sc,wU s/\s.seed=seed/\v=.agg (dC dX s).cells/\Bw w1 w') ((vl dx mg ch qi seed TS U2 Se w1 (hC.mono B1)).mono λe w' ⟨s,h1,h2,h3,h4⟩=>⟨_,h3,s,h1,h2,rfl,h4⟩) λv w4 hv a hF=>?_;obtain⟨s,kd,rfl,rfl,R0⟩:=hv;have B4:Bw w w4:=ab B1 B1.size R0;have c2:=bk R0 c2;have c3:=bk R0 c3;refine bl hF (λo ho=>ue ho) λw5 a Rz h7 _ hF=>?_;refine aM hF (λo ho=>aJ (cells:=(dC dX s).cells) ho (hF.g 6) (hF.g 23) h7 lA rfl (by simp[Sc.cells,Value.oneCell'])) λa hF=>?_;have Re:=setRow_heap w5 w4.heap.size _ (dC dX s).cells _ _ h7;have SD:Bw w4 (w5.setRow w4.heap.size (dC dX s).cells):=Rz.trans (aU _ _ _ (Nat.le_refl _));revert Re SD;generalize w5.setRow w4.heap.size (dC dX s).cells=w6;intro Re SD;have B6:Bw w w6:=ab B4 B4.size SD;have c2:=bk SD c2;have c3:=bk SD c3;clear h7 Rz SD R0 B4 B1 b0 b1;obtain⟨f1,f2,f3,f4,f5,f6,f7,f8⟩:=xB kd Se;have RR:(dC dX s).id.size=16:=kd.id;refine af hF (λo ho=>jt 7 7 d_ ho (hF.g 3)) λa hF=>?_
 iterate 2 refine a9 hF λa hF=>?_
 have rest:∀(a:Act) (bd:ByteArray),bd.size<=600->ay [(7,.string bd),(2,.pk w.heap.size 0),(3,.pk (w.heap.size+1) 0),(6,.pk w4.heap.size 0)] 110 [] a->Rn kX (λg w'=>∃(a:Act) (k:List Item) (v v':Value),g=cQ {(base 16).atR a k with mode:=.returning} cs/\a.defers=[]/\a.tmps[4]?=some v/\a.tmps[5]?=some v'/\∃r key:ByteArray,Ending.returned (.tuple #[v,v'])=.returned (.tuple #[.string r,.string key])/\r.size<=281474976000000/\key.size<=3000/\Bw w w') ((base 16).atR a [.code (.seq (rG f16 5) (.seq (rG f16 6) (.seq (rG f16 7) (.seq (rG f16 8) (.seq (rD f16 9) (.seq (rG f16 10) (.seq (rD f16 11) (.seq (rD f16 12) (.seq (rD f16 13) .ret)))))))))]) cs w6:=by
  intro a bd Wn hF
  iterate 2 refine a9 hF λa hF=>?_
  refine oj hF 33 (.binOp .add 3 (.const (.int .i64 78)) (.tmp 32) 3) (λo ho=>ee ho rfl (hF.g 32) o_) λa hF=>?_;rw[show(78:Int)+(bd.size:Int)=((78+bd.size:Nat):Int)from by omega]at hF
  iterate 2 refine a9 hF λa hF=>?_
  refine af hF (λo ho=>jt 5 5 d_ ho (hF.g 3)) λa hF=>?_;refine a9 hF λa hF=>?_;refine Rn.pick hF 37 36 8 rfl hgap d_ λr hr a hF=>?_;refine a9 hF λa hF=>?_;rw[show((78+bd.size:Nat):Int)+(r:Int)=((78+bd.size+r:Nat):Int)from by omega]at hF;refine a9 hF λa hF=>?_;have hn:=f1.n;have hh:=f1.h
  iterate 3 refine a9 hF λa hF=>?_
  refine oj hF 42 (.binOp .mul 3 (.const (.int .i64 32)) (.tmp 41) 3) (λo ho=>pN ho rfl (hF.g 41) o_) λa hF=>?_;refine oj hF 43 (.binOp .add 3 (.const (.int .i64 40)) (.tmp 42) 3) (λo ho=>ee ho rfl (hF.g 42) o_) λa hF=>?_;refine oj hF 44 (.binOp .add 3 (.tmp 43) (.const (.int .i64 4)) 3) (λo ho=>ee ho (hF.g 43) rfl o_) λa hF=>?_
  iterate 3 refine a9 hF λa hF=>?_
  refine oj hF 48 (.binOp .mul 3 (.const (.int .i64 32)) (.tmp 47) 3) (λo ho=>pN ho rfl (hF.g 47) o_) λa hF=>?_;refine a9 hF λa hF=>?_;rw[show(40:Int)+32*((dC dX s).n:Int)+4+32*((dC dX s).h:Int)=((44+32*(dC dX s).n+32*(dC dX s).h:Nat):Int)from by omega]at hF;refine a9 hF λa hF=>?_;refine a9 hF λa hF=>?_;refine bH hF func10 ((IB (dC dX s) f5 f6 o_ f8 w6)) λw7 SP a hF=>?_;have Wj:(EN (dC dX s)).size<=3000:=by unfold EN;simp only[ByteArray.size_append,bR];omega
  have B7:Bw w w7:=ab B6 B6.size SP;have c2:=bk SP c2;have c3:=bk SP c3;have Re:=bk SP Re;refine a9 hF λa hF=>?_;refine Rn.plain rfl (Rn.plain rfl ?_);refine Mf c3 Xi Wj (hF.only ⟨rfl,rfl,rfl,rfl,rfl,rfl,rfl,rfl,trivial⟩) λa w8 ⟨VZ,hF⟩=>?_;have Y4:=ET ver (78+bd.size) en (78+bd.size+r) (44+32*(dC dX s).n+32*(dC dX s).h) ex (EN (dC dX s));revert Y4 Wj hF;generalize PH ver (78+bd.size) en (78+bd.size+r) (44+32*(dC dX s).n+32*(dC dX s).h) ex (EN (dC dX s))=hd;generalize EN (dC dX s)=key;intro Wj hF Y4;have B8:Bw w w8:=ab B7 B7.size VZ;have c2:=bk VZ c2;have c3:=bk VZ c3;have Re:=bk VZ Re
  iterate 4 refine a9 hF λa hF=>?_
  have htx:(hd++bd).size<=10000:=by rw[ByteArray.size_append];omega
  revert htx hF;generalize hd++bd=text;intro hF htx;refine Rn.plain rfl (Rn.plain rfl ?_);refine Ji (s:=dC dX s) (Xn:=⟨(de dX s.seed.data.toList).toArray⟩) dx mg rfl (cU dX _) f1 f2 f3 f4 f5 f6 RR f7 Se htx (hC.mono B8) c2 c3 Re (hF.only ⟨rfl,rfl,rfl,rfl,rfl,rfl,rfl,trivial⟩) λa w9 ⟨Xp,hF⟩=>?_;have hss:(Bl dX (dC dX s) ⟨(de dX s.seed.data.toList).toArray⟩ text).size<=10000:=by
   unfold Bl;simp only[ByteArray.size_append,bR,lx,cU];omega
  revert hss hF;generalize Bl dX (dC dX s) ⟨(de dX s.seed.data.toList).toArray⟩ text=sig;intro hF hss;have B9:Bw w w9:=ab B8 B8.size Xp;have c3:=bk Xp c3;refine Rn.plain rfl ?_;refine Jh (r:=r) c3 rfl o_ htx hss o_ hsa hsc (hF.only ⟨rfl,rfl,rfl,rfl,rfl,rfl,trivial⟩) λa V1 t ht hb10 hF=>?_;have B10:Bw w V1:=ab B9 B9.size hb10;have c3:=bk hb10 c3;refine Rn.plain rfl ?_;refine Jg c3 281474976000000 d_ o_ haa (hF.only ⟨rfl,rfl,rfl,trivial⟩) λa Xy r hr hb11 hF=>?_;exact dW hF ⟨r,key,rfl,hr,Wj,ab B10 B10.size hb11⟩
 iterate 2 refine a9 hF λa hF=>?_
 refine af hF (λo ho=>qP ho (hF.g 27) rfl) λa hF=>?_;refine Rn.plain rfl (Rn.cond _ (hF.g 28) ?_);by_cases h:600<body.size
 .rw[decide_eq_true o_];refine a9 hF λa hF=>?_;refine af hF (λo ho=>l0 (n:=600) ho (hF.g 29) rfl o_) λa hF=>?_;refine a9 hF λa hF=>?_;exact Rn.plain rfl (rest a _ (by rw[ByteArray.size_extract];omega) (hF.only ⟨rfl,rfl,rfl,rfl,trivial⟩))
 .rw[decide_eq_false o_];exact Rn.plain rfl (rest a body o_ (hF.only ⟨rfl,rfl,rfl,rfl,trivial⟩))

end Go.Proofs.YtkmoglhgkcnalaaGreatDoor.L1
namespace Go.Proofs.YtkmoglhgkcnalaaGreatDoor
open Go Go.Conc Go.RowKit Go.Proofs.YtkmoglhgkcnalaaGreatDoor.L1
def pV(x:Int):Prop:= -9223372036854775808<=x/\x<9223372036854775808
def CZ(x:Int):Prop:=0<=x/\x<65536
structure Im where
 ch:Int
 qi:Int
 seed:ByteArray
 ver:Int
 en:Int
 gap:Int
 ex:Int
 body:ByteArray
 sa:Int
 sw:Int
 sc:Int
 sm:ByteArray
 aa:Int
 aw:Int
 aq:Int
 am:ByteArray
def Im.cells(i:Im):Array Value:=JZ i.ch i.qi i.seed i.ver i.en i.gap i.ex i.body i.sa i.sw i.sc i.sm i.aa i.aw i.aq i.am
structure Im.Ok (i:Im):Prop where
 ch:pV i.ch
 qi:pV i.qi
 en:pV i.en
 gap:pV i.gap
 sa:pV i.sa
 sc:pV i.sc
 aa:pV i.aa
 seed:i.seed.size<=140737488351232
 sm:i.sm.size<=140737488351232
structure Mc where
 A:Im
 B:Im
 has:Int
 st:Int
 le:Int
 pu:Option Addr
 U:List Int
 qu:Nat
 py:Option Addr
 Y:List Int
 qy:Nat
 wd:Int
 bt:Int
 cut:Int
 kp:ByteArray
def Mc.cells(m:Mc):Array Value:=
 #[.int .i64 m.A.ch,.int .i64 m.A.qi,.string m.A.seed,.int .i64 m.A.ver,.int .i64 m.A.en,.int .i64 m.A.gap,.int .i64 m.A.ex,.string m.A.body,.int .i64 m.A.sa,.int .i64 m.A.sw,.int .i64 m.A.sc,.string m.A.sm,.int .i64 m.A.aa,.int .i64 m.A.aw,.int .i64 m.A.aq,.string m.A.am,
  .int .i64 m.B.ch,.int .i64 m.B.qi,.string m.B.seed,.int .i64 m.B.ver,.int .i64 m.B.en,.int .i64 m.B.gap,.int .i64 m.B.ex,.string m.B.body,.int .i64 m.B.sa,.int .i64 m.B.sw,.int .i64 m.B.sc,.string m.B.sm,.int .i64 m.B.aa,.int .i64 m.B.aw,.int .i64 m.B.aq,.string m.B.am,
  .int .i64 m.has,.int .i64 m.st,.int .i64 m.le,.slice m.pu m.U.length m.qu,.slice m.py m.Y.length m.qy,.int .i64 m.wd,.int .i64 m.bt,.int .i64 m.cut,.string m.kp]
structure Mc.Ok (m:Mc) (w:World):Prop where
 A:m.A.Ok
 B:m.B.Ok
 has:pV m.has
 st:pV m.st
 le:pV m.le
 use:cz w (.slice m.pu m.U.length m.qu) (aH m.U)
 us:∀x∈m.U,pV x
 who:cz w (.slice m.py m.Y.length m.qy) (aH m.Y)
 ys:∀x∈m.Y,pV x
 wd:pV m.wd
 bt:pV m.bt
 cut:pV m.cut
 kp:m.kp.size<=140737488351232
theorem Mc.Ok.below{m:Mc}(h:m.Ok w)(hb:Bw w w'):m.Ok w':=⟨h.A,h.B,h.has,h.st,h.le,h.use.below hb,h.us,h.who.below hb,h.ys,h.wd,h.bt,h.cut,h.kp⟩
theorem yi{c:Array Value}(h:(c.toList.drop i).take n=vs)(j:Nat)(u:Value)(hj:vs[j]?=some u):c[i+j]?=some u:=by
 rw[←h,List.getElem?_take]at hj;split at hj
 .rw[List.getElem?_drop]at hj;simpa using hj
 .cases hj
section
variable{o:Oper}{y z u v:Operand}{m:Mc}
theorem KY(QH:o.op=.load 41 x)(hx:ev x=.pk b 0)(h:w.heap[b]?=some (.cells m.cells 65)):(execOp ev o).run prog w=.ok (.value (.agg m.A.cells)) w:=
 gi (vs:=m.A.cells.toList) QH hx h rfl rfl k_ (yi (n:=16) rfl)
theorem KX(QH:o.op=.load 41 x)(hx:ev x=.pk b 16)(h:w.heap[b]?=some (.cells m.cells 65)):(execOp ev o).run prog w=.ok (.value (.agg m.B.cells)) w:=
 gi (vs:=m.B.cells.toList) QH hx h rfl rfl k_ (yi (n:=16) rfl)
theorem xF(QH:o.op=.load 65 x)(hx:ev x=.pk b 0)(h:w.heap[b]?=some (.cells m.cells 65)):(execOp ev o).run prog w=.ok (.value (.agg m.cells)) w:=
 gi (vs:=m.cells.toList) QH hx h rfl rfl k_ (yi (n:=41) rfl)
theorem Ii(QH:o.op=.buildSlice 24 7 #[(0,.const (.int .i64 255)),(1,.const (.int .i64 3855)),(2,.const (.int .i64 13107)),(3,.const (.int .i64 21845)),(4,.const (.int .i64 0)),(5,.const (.int .i64 65535)),(6,.const (.int .i64 254))])(he:∀v,ev (.const v)=v):(execOp ev o).run prog w=.ok (.value (.sk w.heap.size 7 7)) (w.alloc (.cells #[.int .i64 255,.int .i64 3855,.int .i64 13107,.int .i64 21845,.int .i64 0,.int .i64 65535,.int .i64 254] 3)):=by
 have e:execOp ev o=(do pure (.value (←Instr.buildSlice 24 7 #[(0,.int .i64 255),(1,.int .i64 3855),(2,.int .i64 13107),(3,.int .i64 21845),(4,.int .i64 0),(5,.int .i64 65535),(6,.int .i64 254)]))):=by simp[execOp,QH,he]
 have h2:(do pure (.value (←Instr.buildSlice 24 7 #[(0,.int .i64 255),(1,.int .i64 3855),(2,.int .i64 13107),(3,.int .i64 21845),(4,.int .i64 0),(5,.int .i64 65535),(6,.int .i64 254)])):Sem Next).run prog w=.ok (.value (.sk w.heap.size 7 7)) (w.alloc (.cells #[.int .i64 255,.int .i64 3855,.int .i64 13107,.int .i64 21845,.int .i64 0,.int .i64 65535,.int .i64 254] 3)):=by kernel_rfl
 rw[e,h2]
theorem mV{p q r s:Int}(QH:o.op=.buildSlice 24 4 #[(0,.const (.int .i64 p)),(1,.const (.int .i64 q)),(2,.const (.int .i64 r)),(3,.const (.int .i64 s))])(he:∀v,ev (.const v)=v):(execOp ev o).run prog w=.ok (.value (.sk w.heap.size 4 4)) (w.alloc (.cells #[.int .i64 p,.int .i64 q,.int .i64 r,.int .i64 s] 3)):=by
 have e:execOp ev o=(do pure (.value (←Instr.buildSlice 24 4 #[(0,.int .i64 p),(1,.int .i64 q),(2,.int .i64 r),(3,.int .i64 s)]))):=by simp[execOp,QH,he]
 have h2:(do pure (.value (←Instr.buildSlice 24 4 #[(0,.int .i64 p),(1,.int .i64 q),(2,.int .i64 r),(3,.int .i64 s)])):Sem Next).run prog w=.ok (.value (.sk w.heap.size 4 4)) (w.alloc (.cells #[.int .i64 p,.int .i64 q,.int .i64 r,.int .i64 s] 3)):=by kernel_rfl
 rw[e,h2]
theorem Ih{p q:Int}(QH:o.op=.buildSlice 24 5 #[(0,x),(1,y),(2,z),(3,u),(4,v)])(hx:ev x=.int .i64 p)(hy:ev y=.int .i64 p)(hz:ev z=.int .i64 q)(hu:ev u=.int .i64 q)(hv:ev v=.int .i64 q):(execOp ev o).run prog w=.ok (.value (.sk w.heap.size 5 5)) (w.alloc (.cells #[.int .i64 p,.int .i64 p,.int .i64 q,.int .i64 q,.int .i64 q] 3)):=by
 have e:execOp ev o=(do pure (.value (←Instr.buildSlice 24 5 #[(0,.int .i64 p),(1,.int .i64 p),(2,.int .i64 q),(3,.int .i64 q),(4,.int .i64 q)]))):=by simp[execOp,QH,hx,hy,hz,hu,hv]
 have h2:(do pure (.value (←Instr.buildSlice 24 5 #[(0,.int .i64 p),(1,.int .i64 p),(2,.int .i64 q),(3,.int .i64 q),(4,.int .i64 q)])):Sem Next).run prog w=.ok (.value (.sk w.heap.size 5 5)) (w.alloc (.cells #[.int .i64 p,.int .i64 p,.int .i64 q,.int .i64 q,.int .i64 q] 3)):=by kernel_rfl
 rw[e,h2]
theorem Em{a c d f:Nat}(QH:o.op=.buildSlice 58 5 #[(0,x),(1,y),(2,z),(3,u),(4,v)])(hx:ev x=.sk a 4 4)(hy:ev y=.sk b 4 4)(hz:ev z=.sk c 4 4)(hu:ev u=.sk d 4 4)(hv:ev v=.sk f 4 4):(execOp ev o).run prog w=.ok (.value (.sk w.heap.size 5 5)) (w.alloc (.cells #[.sk a 4 4,.sk b 4 4,.sk c 4 4,.sk d 4 4,.sk f 4 4] 24)):=by
 have e:execOp ev o=(do pure (.value (←Instr.buildSlice 58 5 #[(0,.sk a 4 4),(1,.sk b 4 4),(2,.sk c 4 4),(3,.sk d 4 4),(4,.sk f 4 4)]))):=by simp[execOp,QH,hx,hy,hz,hu,hv]
 have h2:(do pure (.value (←Instr.buildSlice 58 5 #[(0,.sk a 4 4),(1,.sk b 4 4),(2,.sk c 4 4),(3,.sk d 4 4),(4,.sk f 4 4)])):Sem Next).run prog w=.ok (.value (.sk w.heap.size 5 5)) (w.alloc (.cells #[.sk a 4 4,.sk b 4 4,.sk c 4 4,.sk d 4 4,.sk f 4 4] 24)):=by kernel_rfl
 rw[e,h2]
end
theorem zm{p:Option Addr}{q:Nat}{U:List Int}(hv:cz w (.slice p U.length q) (aH U))(hU:∀x∈U,pV x)(k:Nat):Cl kX 80 #[.slice p U.length q,.int .i64 (k:Int)] w λe w'=>∃v,e=.returned v/\(∃x,v=.int .i64 x/\pV x)/\w'=w:=by
 refine av (L:=[.slice p U.length q,.int .i64 (k:Int)]) func80 rfl λcs a hF=>?_
 iterate 5 refine a9 hF λ_ hF=>?_
 by_cases hk:k<U.length
 .refine aN true hF ?_ (hq:=decide_eq_true o_);obtain⟨q0,c0,e0,hp⟩:=hv;injection e0 with e1 _ e2;subst e1 e2;obtain⟨ad,rfl,hc⟩:=hp k (.int .i64 U[k]) (by simp[aH,hk])
  iterate 2 refine a9 hF λ_ hF=>?_
  refine a9 hF (hy:=by intro o ho;exact(bJ (e:=3) k_ (λw=>by kernel_rfl) ho gx gx hk).1) λ_ hF=>?_;refine a9 hF (hy:=by intro o ho;exact(an az ho gx hc).1) λ_ hF=>?_;refine a9 hF λ_ hF=>?_;exact aL hF ⟨_,rfl,⟨_,rfl,hU _ (List.getElem_mem hk)⟩,rfl⟩
 .refine aN false hF ?_ (hq:=decide_eq_false o_);refine a9 hF λ_ hF=>?_;exact aL hF ⟨_,rfl,⟨0,rfl,by unfold pV;omega⟩,rfl⟩
theorem Fx{n:Int}(hn:pV n):Cl kX 79 #[.int .i64 n] w λe w'=>∃v,e=.returned v/\(∃x,v=.int .i64 x/\CZ x)/\Bw w w':=by
 refine av (L:=[.int .i64 n]) func79 rfl λcs a hF=>?_;refine a9 hF λ_ hF=>?_;refine bl hF (λo ho=>Ii ho λ_=>rfl) λw1 _ b1 c1 z1 hF=>?_
 iterate 5 refine a9 hF λ_ hF=>?_
 refine fY hF func17 (fR n 7 hn d_ w1) λ_ hF=>?_;have QK:=ib n (n:=7) d_;have hv:∃x,(#[.int .i64 255,.int .i64 3855,.int .i64 13107,.int .i64 21845,.int .i64 0,.int .i64 65535,.int .i64 254]:Array Value)[0+dR n 7]?=some (.int .i64 x)/\CZ x:=by
  revert QK;generalize dR n 7=r;intro QK;obtain rfl|rfl|rfl|rfl|rfl|rfl|rfl:r=0\/r=1\/r=2\/r=3\/r=4\/r=5\/r=6:=by omega
  all_goals exact⟨_,rfl,by unfold CZ;omega⟩
 obtain⟨x,hx,hW⟩:=hv;refine a9 hF (hy:=by intro o ho;exact kV ho gx gx rfl k_ o_) λ_ hF=>?_;refine a9 hF (hy:=by intro o ho;exact kr ho gx c1 hx (λ_=>by kernel_rfl)) λ_ hF=>?_;refine a9 hF λ_ hF=>?_;exact aL hF ⟨_,rfl,⟨x,rfl,hW⟩,b1⟩

def LA(f:Func):Code:=.seq (.seq (rG f 15) (.cond (.tmp 64) .skip (.exit 2))) (.seq (.block 3 (rG f 17)) (rG f 16))
def PR(f:Func):Code:=.seq (rG f 14) (.block 2 (.loop (LA f)))
def ED(f:Func):Code:=.seq (.seq (rG f 5) (.cond (.tmp 30) .skip (.exit 0))) (.seq (.block 1 (.seq (rG f 7) (.seq (rG f 8) (.seq (rG f 9) (.seq (.seq (rG f 10) (.cond (.tmp 55) (rG f 11) .skip)) (.seq (.seq (rG f 12) (.cond (.tmp 61) (rG f 13) .skip)) (PR f))))))) (rG f 6))
def Ez(f:Func):Code:=.seq (rG f 18) (.seq (rD f 19) (.seq (rG f 20) .ret))
theorem Ml:f52.body=some (.seq (rG f52 0) (.seq (rG f52 1) (.seq (rG f52 2) (.seq (rG f52 3) (.seq (.seq (rG f52 4) (.block 0 (.loop (ED f52)))) (Ez f52)))))):=by kernel_rfl
structure FP (w:World) (gb:Nat) (m:Mc) (lv:Value) (X:List Int) (w':World):Prop where
 old:Bw w w'
 box:w'.heap[gb]?=some (.cells m.cells 65)
 row:w'.ownsRow w.heap.size 3 1 lv X.length (aH X)
 all:∀x∈X,CZ x
theorem FP.below{m:Mc}{X:List Int}(h:FP w gb m lv X w')(hb:Bw w' Rb):FP w gb m lv X Rb:=⟨ab h.old h.old.size hb,bk hb h.box,b_ h.row hb,h.all⟩
theorem FP.app{g k q:Nat}{m:Mc}{X nw:List Int}(h:FP w gb m lv X w')(hX:X.length<=1000)(hn:nw.length<=100)(hc:∃cur:Array Value,w'.heap[g]?=some (.cells cur 3)/\∀(i:Nat) x,nw[i]?=some x->cur[i]?=some (Value.int .i64 x))(hw:∀x∈nw,CZ x)(hx:ev (.tmp k)=lv)(hy:ev (.tmp j)=.sk g nw.length q)(o:Oper)(QH:o.op=.call {callee:=.builtin .append,args:=#[.tmp k,.tmp j],argTypes:=#[24,24]}):
 ∀e':Nat,∃v' Rb,(execOp ev o).run prog {w' with drawn:=e'}= .ok (.value v') Rb/\FP w gb m v' (X++nw) Rb:=λe'=>by
 obtain⟨cur,hg,Tz⟩:=hc;obtain⟨v',Rb,h1,h2,h3,h4⟩:=kP (t:=24) (z:=.int .i64 0) (bytes:=8) (m:=nw.length) (news:=aH nw) k_ k_ rfl h.row (λi u hu=>by
  have hi:i<nw.length:=by have:=(List.getElem?_eq_some_iff.1 hu).1;simpa[aH]using this
  rw[Addr.add_mid,Nat.zero_add,ak hg,Tz i nw[i] (List.getElem?_eq_getElem hi),←hu];simp[aH,hi]) (iH nw) (by simp[aH]) hx hy (by unfold maxLen;omega) o_ h.old.size o QH e'
 refine⟨v',Rb,h1,h.old.trans h3,(h4.block gb (ar h.box) (eL h.row h.box d_)).trans h.box,?_,λx hx=>(List.mem_append.1 hx).elim (h.all x) (hw x)⟩;rw[List.length_append,show aH (X++nw)=aH X++aH nw from by simp[aH]];exact h2
section
variable{m:Mc}{a b hh:ByteArray}{k:Nat}
theorem D4(Y4:hh.size=32)(hk:k<4)
 (nt:∀aa w' lv X,FP w gb m lv X w'->X.length=5+20*(k+1)->ay [(1,.string a),(2,.string b),(3,.pk gb 0),(9,lv),(10,.int .i64 k)] 91 [] aa->Rn kX Goal ((base 52).atR aa K) cs w'):
 ∀(n i:Nat) (lv:Value) (X:List Int) (w':World) (aa:Act),16- i=n->i<=16->FP w gb m lv X w'->X.length=9+20*k+i->ay [(1,.string a),(2,.string b),(3,.pk gb 0),(9,lv),(10,.int .i64 k),(12,.string hh),(13,.int .i64 i)] 91 [] aa->Rn kX Goal ((base 52).atR aa (.code (LA f52):: .inLoop (LA f52):: .inBlock 2::K)) cs w':=by
 intro n;induction n with
 |zero=>
  intro i lv X w' aa hn hi H hX hF;obtain rfl:i=16:=by omega
  refine a9 hF λ_ hF=>?_;refine a9 hF (v:=.bool false) (hy:=by intro o ho;rw[(iq (m:=(16:Nat)) (n:=(16:Nat)) ho gx rfl).1];rfl) λ_ hF=>?_;refine aN false hF ?_;exact Rn.plain rfl (nt _ _ lv X H o_ (hF.only ⟨rfl,rfl,rfl,rfl,rfl,trivial⟩))
 |succ n ih=>
  intro i lv X w' aa hn hi H hX hF;refine a9 hF λ_ hF=>?_;refine a9 hF λ_ hF=>?_;refine aN true hF ?_ (hq:=decide_eq_true o_)
  iterate 3 refine a9 hF λ_ hF=>?_
  refine a9 hF (v:=.int .i64 ((2*i:Nat):Int)) (hy:=by intro o ho;exact vm (m:=2) (n:=i) ho rfl gx o_) λ_ hF=>?_;refine fY hF func37 (jv hh (2*i) 2 w' d_ o_ o_) λ_ hF=>?_;have U5:CZ (cM (bO hh.data.toList (2*i) (2*i+2))):=by
   have hl:=eP hh.data.toList (2*i) (2*i+2) (by have:hh.data.toList.length=hh.size:=Array.length_toList;omega);exact i4 _ 2 o_
  generalize cM (bO hh.data.toList (2*i) (2*i+2))=x at hF U5;refine bl hF (λo ho=>kw ho (hF.g 71)) λw2 _ b2 c2 z2 hF=>?_;refine L1.dF hF (λo QH=>(H.below b2).app (nw:=[(x:Int)]) o_ s_ ⟨_,c2,λi y hy=>by
   rcases i with _|i
   .cases hy;rfl
   .simp at hy⟩ (by simpa using U5) (hF.g 67) (hF.g 72) o QH) λv3 w3 H3 _ hF=>?_
  refine a9 hF λ_ hF=>?_;refine a9 hF λ_ hF=>?_;refine a9 hF λ_ hF=>?_;refine a9 hF λ_ hF=>?_;exact Rn.plain rfl (Rn.plain rfl (ih (i+1) v3 _ w3 _ o_ o_ H3 (by simp;omega) (hF.only ⟨rfl,rfl,rfl,rfl,rfl,rfl,rfl,trivial⟩)))
def JK:Nat->List Int
 |0=>[4080,4080,61455,61455]
 |1=>[61455,61455,61455,61455]
 |2=>[4080,4080,4080,4080]
 |3=>[4080,61455,61455,61455]
 |_=>[4080,4080,0,0]
theorem tD(r:Nat):(JK r).length=4:=by unfold JK;split<;>rfl
theorem Gz(r:Nat):∀x∈JK r,CZ x:=by
 unfold JK CZ;split<;>simp<;>omega
theorem xm(hm:m.Ok w)(has:a.size=32)(hbs:b.size=32)
 (nt:∀aa w' lv X,FP w gb m lv X w'->X.length=85->ay [(3,.pk gb 0),(9,lv)] 91 [] aa->Rn kX Goal ((base 52).atR aa [.code (Ez f52)]) cs w'):
 ∀(n k:Nat) (lv:Value) (X:List Int) (w':World) (aa:Act),4- k=n->k<=4->FP w gb m lv X w'->X.length=5+20*k->ay [(1,.string a),(2,.string b),(3,.pk gb 0),(9,lv),(10,.int .i64 k)] 91 [] aa->Rn kX Goal ((base 52).atR aa [.code (ED f52),.inLoop (ED f52),.inBlock 0,.code (Ez f52)]) cs w':=by
 intro n;induction n with
 |zero=>
  intro k lv X w' aa hn hk H hX hF;obtain rfl:k=4:=by omega
  refine a9 hF λ_ hF=>?_;refine a9 hF (v:=.bool false) (hy:=by intro o ho;rw[(iq (m:=(4:Nat)) (n:=(4:Nat)) ho gx rfl).1];rfl) λ_ hF=>?_;refine aN false hF ?_;exact Rn.plain rfl (nt _ _ lv X H hX (hF.only ⟨rfl,rfl,trivial⟩))
 |succ n ih=>
  intro k lv X w' aa hn hk H hX hF;have V9:k<4:=by omega
  refine a9 hF λ_ hF=>?_;refine a9 hF λ_ hF=>?_;refine aN true hF ?_ (hq:=decide_eq_true o_);refine bl hF (λo ho=>mV ho λ_=>rfl) λw1 _ b1 c1 z1 hF=>?_;refine bl hF (λo ho=>mV ho λ_=>rfl) λw2 _ b2 c2 z2 hF=>?_;refine bl hF (λo ho=>mV ho λ_=>rfl) λw3 _ b3 c3 z3 hF=>?_;refine bl hF (λo ho=>mV ho λ_=>rfl) λw4 _ b4 c4 z4 hF=>?_;refine bl hF (λo ho=>mV ho λ_=>rfl) λw5 _ b5 c5 z5 hF=>?_;refine bl hF (λo ho=>Em ho (hF.g 33) (hF.g 34) (hF.g 35) (hF.g 36) (hF.g 37)) λw6 _ b6 c6 z6 hF=>?_;have d1:=bk b6 (bk b5 (bk b4 (bk b3 (bk b2 c1))));have d2:=bk b6 (bk b5 (bk b4 (bk b3 c2)));have d3:=bk b6 (bk b5 (bk b4 c3));have d4:=bk b6 (bk b5 c4);have d5:=bk b6 c5;have H6:=(((((H.below b1).below b2).below b3).below b4).below b5).below b6
  iterate 3 refine a9 hF λ_ hF=>?_
  have hbx:=H6.box
  iterate 3 refine a9 hF λ_ hF=>?_
  refine bf hF func80 (zm (hm.use.below H6.old) hm.us k) λv w7 hv _ hF=>?_;obtain⟨⟨x,rfl,hx⟩,rfl⟩:=hv;refine fY hF func17 (fR x 5 hx d_ w7) λ_ hF=>?_;have QK:=ib x (n:=5) d_;generalize dR x 5=r at hF QK;obtain⟨g,Y6,cur,hg2,hg3⟩:∃g,(#[.sk w'.heap.size 4 4,.sk w1.heap.size 4 4,.sk w2.heap.size 4 4,.sk w3.heap.size 4 4,.sk w4.heap.size 4 4]:Array Value)[0+r]?=some (.sk g 4 4)/\∃cur:Array Value,w7.heap[g]?=some (.cells cur 3)/\∀(i:Nat) y,(JK r)[i]?=some y->cur[i]?=some (Value.int .i64 y):=by
   have four:∀{p q s t:Int} (i:Nat) (y:Int),([p,q,s,t]:List Int)[i]?=some y->(#[.int .i64 p,.int .i64 q,.int .i64 s,.int .i64 t]:Array Value)[i]?=some (Value.int .i64 y):=λ{p q s t} i y h=>by
    rcases i with _|_|_|_|i
    .cases h;rfl
    .cases h;rfl
    .cases h;rfl
    .cases h;rfl
    .simp at h
   obtain rfl|rfl|rfl|rfl|rfl:r=0\/r=1\/r=2\/r=3\/r=4:=by omega
   .exact⟨_,rfl,_,d1,four⟩
   .exact⟨_,rfl,_,d2,four⟩
   .exact⟨_,rfl,_,d3,four⟩
   .exact⟨_,rfl,_,d4,four⟩
   .exact⟨_,rfl,_,d5,four⟩
  refine a9 hF (hy:=by intro o ho;exact kV ho gx gx rfl k_ o_) λ_ hF=>?_;refine a9 hF (hy:=by intro o ho;exact kr ho gx c6 Y6 (λ_=>by kernel_rfl)) λ_ hF=>?_;refine L1.dF hF (λo QH=>H6.app (nw:=JK r) o_ (by rw[tD];decide) ⟨cur,hg2,hg3⟩ (Gz r) (hF.g 39) (by rw[tD];exact hF.g 47) o QH) λv8 w8 H8 _ hF=>?_;refine a9 hF λ_ hF=>?_;have hX8:(X++JK r).length=9+20*k:=by rw[List.length_append,tD];omega
  generalize X++JK r=X8 at H8 hX8;refine bl hF (λo ho=>kG (n:=32) d_ ho rfl rfl) λw9 _ b9 c9 z9 hF=>?_;refine a9 hF (hy:=by intro o ho;exact iK ho gx c9) λ_ hF=>?_;refine a9 hF λ_ hF=>?_;have H9:=H8.below b9;have hbx9:=H9.box;have inner:∀{aa:Act} {hh:ByteArray},hh.size=32->ay [(12,.string hh),(1,.string a),(2,.string b),(3,.pk gb 0),(9,v8),(10,.int .i64 k)] 91 [] aa->Rn kX Goal ((base 52).atR aa [.code (PR f52),.inBlock 1,.code (rG f52 6),.inLoop (ED f52),.inBlock 0,.code (Ez f52)]) cs w9:=λ{aa hh} Y4 hF=>by
   refine a9 hF λ_ hF=>?_;refine Rn.plain rfl (Rn.plain rfl (Rn.plain rfl (D4 (a:=a) (b:=b) Y4 V9 (λaa V1 lv X H hX hF=>?_) 16 0 v8 X8 w9 _ rfl o_ H9 o_ (hF.only ⟨rfl,rfl,rfl,rfl,rfl,rfl,rfl,trivial⟩))))
   iterate 3 refine a9 hF λ_ hF=>?_
   exact Rn.plain rfl (Rn.plain rfl (ih (k+1) lv X V1 _ o_ o_ H hX (hF.only ⟨rfl,rfl,rfl,rfl,rfl,trivial⟩)))
  have second:∀{aa:Act} {hh:ByteArray},hh.size=32->ay [(12,.string hh),(1,.string a),(2,.string b),(3,.pk gb 0),(9,v8),(10,.int .i64 k)] 91 [] aa->Rn kX Goal ((base 52).atR aa [.code (.seq (.seq (rG f52 12) (.cond (.tmp 61) (rG f52 13) .skip)) (PR f52)),.inBlock 1,.code (rG f52 6),.inLoop (ED f52),.inBlock 0,.code (Ez f52)]) cs w9:=λ{aa hh} Y4 hF=>by
   iterate 3 refine a9 hF λ_ hF=>?_
   refine bf hF func80 (zm (hm.who.below H9.old) hm.ys k) λv V1 hv _ hF=>?_;obtain⟨⟨y,rfl,hy⟩,rfl⟩:=hv;refine a9 hF λ_ hF=>?_;by_cases hy1:y=1
   .refine aN true hF ?_ (hq:=by simp[hy1])
    iterate 2 refine a9 hF λ_ hF=>?_
    exact Rn.plain rfl (inner hbs (hF.only ⟨rfl,rfl,rfl,rfl,rfl,rfl,trivial⟩))
   .refine aN false hF ?_ (hq:=by simp[hy1]);exact Rn.plain rfl (inner Y4 (hF.only ⟨rfl,rfl,rfl,rfl,rfl,rfl,trivial⟩))
  iterate 3 refine a9 hF λ_ hF=>?_
  refine bf hF func80 (zm (hm.who.below H9.old) hm.ys k) λv V1 hv _ hF=>?_;obtain⟨⟨y,rfl,hy⟩,rfl⟩:=hv;refine a9 hF λ_ hF=>?_;by_cases hy0:y=0
  .refine aN true hF ?_ (hq:=by simp[hy0])
   iterate 2 refine a9 hF λ_ hF=>?_
   exact Rn.plain rfl (second has (hF.only ⟨rfl,rfl,rfl,rfl,rfl,rfl,trivial⟩))
  .refine aN false hF ?_ (hq:=by simp[hy0]);exact Rn.plain rfl (second (eE 32) (hF.only ⟨rfl,rfl,rfl,rfl,rfl,rfl,trivial⟩))
end

theorem NX{x y:Int}(hx:CZ x)(hy:CZ y):CZ (bits .xor .i64 x y):=by
 obtain⟨a,rfl⟩:=Int.eq_ofNat_of_zero_le hx.1;obtain⟨b,rfl⟩:=Int.eq_ofNat_of_zero_le hy.1;have h1:=hx.2;have h2:=hy.2;rw[oN _ _ o_ o_];have:=Nat.xor_lt_two_pow (x:=a) (y:=b) (n:=16) o_ o_;exact⟨by omega,by omega⟩
section
variable{m:Mc}{a b:ByteArray}
theorem AT(hm:m.Ok w)(has:a.size=32)(hbs:b.size=32):Cl kX 52 #[.agg m.cells,.string a,.string b] w λe w'=>∃v,e=.returned v/\∃g cap W,v=.sk g 85 cap/\dP W/\ft w' g W/\w.heap.size<=g/\Bw w w':=by
 refine av (N:=91) (L:=[.agg m.cells,.string a,.string b]) func52 Ml λcs _ hF=>?_;refine cW hF λw1 _ b1 c1 z1 hF=>?_;refine a9 hF λ_ hF=>?_
 iterate 2 refine a9 hF λ_ hF=>?_
 refine bf hF func79 (Fx hm.st) λv w2 hv _ hF=>?_;obtain⟨⟨s,rfl,hs⟩,b2⟩:=hv;have c2:=bk b2 c1
 iterate 3 refine a9 hF λ_ hF=>?_
 refine fY hF func17 (fR m.le 17 hm.le d_ w2) λ_ hF=>?_;have QK:=ib m.le (n:=17) d_;generalize dR m.le 17=r at hF QK;have hp:(1:Int)<=2^r/\(2:Int)^r<=65536:=by
  have h1:=Nat.pow_le_pow_right (n:=2) d_ (show r<=16 by omega);have h2:=Nat.pow_pos (n:=r) (show 0<2 by decide);have e:((2^r:Nat):Int)=(2:Int)^r:=by simp
  rw[←e];omega
 refine a9 hF (v:=.int .i64 (2^r)) (hy:=by intro o ho;rw[gk (m:=1) (k:=r) ho rfl gx o_ (by rw[Int.one_mul];omega),Int.one_mul]) λ_ hF=>?_;refine a9 hF (v:=.int .i64 (2^r- 1)) (hy:=by intro o ho;exact lT ho gx rfl o_) λ_ hF=>?_;generalize XI:(2:Int)^r=x0 at hF hp
 iterate 6 refine a9 hF λ_ hF=>?_
 refine bl hF (λo ho=>Ih ho (hF.g 23) (hF.g 24) (hF.g 25) (hF.g 26) (hF.g 27)) λw3 _ b3 c3 z3 hF=>?_;have c3':=bk b3 c2;have h1s:=b1.size;have h2s:=b2.size
 iterate 2 refine a9 hF λ_ hF=>?_
 have H3:FP w w.heap.size m (.sk w2.heap.size 5 5) [s,s,x0- 1,x0- 1,x0- 1] w3:=by
  refine⟨ab (ab b1 b1.size b2) o_ b3,c3',⟨rfl,.inr ⟨w2.heap.size,5,_,rfl,by omega,c3,by simp,by simp[maxLen],rfl,rfl⟩⟩,?_⟩;intro x hx;simp only[List.mem_cons,List.not_mem_nil,or_false]at hx;rcases hx with rfl|rfl|rfl|rfl|rfl
  .exact hs
  .exact hs
  all_goals exact⟨by omega,by omega⟩
 refine Rn.plain rfl (Rn.plain rfl (Rn.plain rfl (xm (a:=a) (b:=b) hm has hbs (λ_ w4 lv X H4 hX hF=>?_) 4 0 _ _ w3 _ rfl o_ H3 rfl (hF.only ⟨rfl,rfl,rfl,rfl,rfl,trivial⟩))));obtain⟨g,cap,rfl,hg,cur,Ue,Tz⟩:=vZ H4.row o_;rw[hX]at hF;have bx4:=H4.box
 iterate 4 refine a9 hF λ_ hF=>?_
 refine fY hF func17 (fR m.wd 85 hm.wd d_ w4) λ_ hF=>?_;have VR:=ib m.wd (n:=85) d_;generalize dR m.wd 85=k at hF VR;refine a9 hF λ_ hF=>?_;have hk:=Tz k X[k] (List.getElem?_eq_getElem o_);have hWk:=H4.all X[k] (List.getElem_mem _);have hlt5:=ib m.bt (n:=65536) d_;refine AK 11 hF ?_
 iterate 4 refine Gx.q ?_
 refine Gx.q ?_ (y:=λo a w ho z=>bS k k_ ho gx gx VR);refine Gx.q ?_ (y:=λo a w ho z=>kr ho gx (bk z.b Ue) (by rw[Nat.zero_add];exact hk) (λ_=>by kernel_rfl));refine Gx.q ?_;refine Gx.q ?_ (v:=.int .i64 m.bt) (y:=λo a w ho z=>kr ho gx (bk z.b bx4) rfl (λ_=>by kernel_rfl));refine Gx.k (v:=.int .i64 (dR m.bt 65536:Nat)) func17 (λw1 _ _=>(fR m.bt 65536 hm.bt d_ w1).mono λ_ _ h=>⟨h.1,by rw[h.2];exact Below.refl _ _⟩) ?_;refine Gx.q ?_ (v:=.int .i64 (bits .xor .i64 X[k] (dR m.bt 65536:Nat))) (y:=λo a w ho z=>tX ho gx gx);refine Gx.q ?_ (y:=λo a w ho z=>bS k k_ ho gx gx VR);refine Gx.e λ_ w5 hF b5 _ rest next=>?_
 have c5:=bk b5 Ue;have Wj:k<cur.size:=(Array.getElem?_eq_some_iff.1 hk).1;have hWx:CZ (bits .xor .i64 X[k] (dR m.bt 65536:Nat)):=NX hWk ⟨by omega,by omega⟩;generalize bits .xor .i64 X[k] (dR m.bt 65536:Nat)=y at hF hWx;refine aM hF (λo ho=>cI (v:=.int .i64 y) rfl rfl k_ ho (hF.g 89) (hF.g 88) c5 (by rw[Nat.zero_add];exact Wj)) λ_ hF=>next _ _ ?_
 rw[Nat.zero_add];have x6:=bE (w:=w5) g (cur.setIfInBounds k (.int .i64 y)) 3;have c6:=aW (cs:=cur.setIfInBounds k (.int .i64 y)) (t:=3) c5
 iterate 2 refine a9 hF λ_ hF=>?_
 have h4s:=H4.old.size;have X6:Ex (λ_=>False) w (put w5 g (cur.setIfInBounds k (.int .i64 y)) 3):=((ai H4.old).trans (ai (X:=λ_=>False) b5) λ_ _ e=>e).trans x6 λb hb e=>by omega
 refine aL hF ⟨_,rfl,g,cap,X.set k y,rfl,⟨by simp[hX],λi hi=>?_⟩,⟨_,c6,λi x hx=>?_⟩,hg,X6.os,X6.tape,X6.output,X6.size,λb hb=>X6.block b hb λe=>e⟩
 .have R5:i<(X.set k y).length:=by simp[hX,hi]
  rw[List.getD_eq_getElem?_getD,List.getElem?_eq_getElem R5,Option.getD_some,List.getElem_set];split
  .exact hWx
  .exact H4.all _ (List.getElem_mem _)
 .rw[List.getElem?_set]at hx;rw[Array.getElem?_setIfInBounds];split at hx
  .rename_i e;subst e;rw[if_pos rfl,if_pos Wj];split at hx
   .cases hx;rfl
   .cases hx
  .rename_i e;rw[if_neg e];exact Tz i x hx
end

theorem BI(c:Int)(n:Nat)(hc:pV c)(w:World):Cl kX 17 #[.int .i64 c,.int .i64 (n:Int)] w λe w'=>∃v,e=.returned v/\(∃r:Nat,v=.int .i64 r/\r<=n)/\w'=w:=by
 by_cases hn:0<n
 .exact(nP c n hc hn w).mono λ_ _ ⟨r,h1,h2,h3⟩=>⟨_,h1,⟨r,rfl,by omega⟩,h3⟩
 .obtain rfl:n=0:=by omega
  refine av (L:=[.int .i64 c,.int .i64 ((0:Nat):Int)]) func17 rfl λcs a hF=>?_
  iterate 3 refine a9 hF λ_ hF=>?_
  refine aN true hF ?_;refine a9 hF λ_ hF=>?_;exact aL hF ⟨_,rfl,⟨0,rfl,by omega⟩,rfl⟩
theorem uE{C:iJ}{R:Ending->World->Prop}{t u s:Tmp}(hf:C.P.funcs[f]?=some fn)(Ru:fn.results=#[.tmp t,.tmp u,.tmp s])
 (h:∀cs,Rn C (λg w'=>∃(a:Act) (k:List Item) (x y z:Value),g=cQ {(base f).atR a k with mode:=.returning} cs/\a.defers=[]/\a.tmps[t]?=some x/\a.tmps[u]?=some y/\a.tmps[s]?=some z/\R (.returned (.tuple #[x,y,z])) w') (Frame.enter C.P f args .normal) cs w):Cl C f args w R:=by
 refine eQ hf λcs L hG=>h cs L λfr cs' w' ⟨a,k,x,y,z,e,h1,h2,h3,h4,h5⟩=>hG _ _ _ ⟨a,k,_,e,h1,?_,h5⟩;have e1:a.tmps[t]?.getD undef=x:=by rw[h2];rfl
 have e2:a.tmps[u]?.getD undef=y:=by rw[h3];rfl
 have e3:a.tmps[s]?.getD undef=z:=by rw[h4];rfl
 simp[results,Ru,e1,e2,e3]
theorem Fz{cv:Array Value}{i:Im}(h:i.Ok)(w:World)(hC:iX dX cv w):Cl kX 16 #[.agg cv,.agg i.cells] w λe w'=>∃v,e=.returned v/\(∃r key:ByteArray,v=.tuple #[.string r,.string key]/\r.size<=281474976000000/\key.size<=3000)/\Bw w w':=
 (Cz i.ch i.qi i.seed i.ver i.en i.gap i.ex i.body i.sa i.sw i.sc i.sm i.aa i.aw i.aq i.am h.ch h.qi h.en h.gap h.sa h.sc h.aa h.seed h.sm w hC).mono λ_ _ ⟨r,key,h1,h2,h3,h4⟩=>⟨_,h1,⟨r,key,rfl,h2,h3⟩,h4⟩
section
variable{m:Mc}{hb:Nat}
structure NW (w:World) (m:Mc) (hb hq tb tq g2 g3:Nat) (w':World):Prop where
 old:Bw w w'
 box:w'.heap[g2]?=some (.cells m.cells 65)
 cst:w'.heap[g3]?=some (.cells #[.sk hb 8 hq,.sk tb 64 tq] 26)
theorem NW.below{g2 g3:Nat}(h:NW w m hb hq tb tq g2 g3 w')(b:Bw w' Rb):NW w m hb hq tb tq g2 g3 Rb:=⟨ab h.old h.old.size b,bk b h.box,bk b h.cst⟩
def Qq(f:Func):Code:=.seq (rG f 7) (.seq (.seq (rG f 8) (.cond (.tmp 43) (rG f 9) .skip)) (.seq (rD f 10) .ret))
def Qr(f:Func):Code:=.seq (.seq (rG f 5) (.cond (.tmp 35) (rG f 6) .skip)) (Qq f)
theorem MQ:f51.body=some (.seq (rG f51 0) (.seq (rG f51 1) (.seq (rG f51 2) (.seq (.seq (rG f51 3) (.cond (.tmp 29) (rG f51 4) .skip)) (Qr f51))))):=by kernel_rfl
abbrev Qg(w:World)(cs:List Frame)(g:Goroutine)(w':World):Prop:=∃(a:Act) (k:List Item) (x y z:Value),g=cQ {(base 51).atR a k with mode:=.returning} cs/\a.defers=[]/\a.tmps[4]?=some x/\a.tmps[5]?=some y/\a.tmps[6]?=some z/\∃v,Ending.returned (.tuple #[x,y,z])=.returned v/\(∃s a b:ByteArray,v=.tuple #[.string s,.string a,.string b]/\s.size<4611686018427387904/\a.size=32/\b.size=32)/\Bw w w'
theorem E_(hm:m.Ok w)(hC:iX dX #[.sk hb 8 hq,.sk tb 64 tq] w){g2 g3:Nat}(H:NW w m hb hq tb tq g2 g3 w'){s1 s2 k1 k2:ByteArray}(h1:s1.size<=281474976000000)(h2:s2.size<=281474976000000)(WS:k1.size<=3000)(UN:k2.size<=3000)(hF:ay [(2,.pk g2 0),(3,.pk g3 0),(7,.string s1),(8,.string k1),(9,.string s2),(10,.string k2)] 58 [] a):
 Rn kX (Qg w cs) ((base 51).atR a [.code (Qq f51)]) cs w':=by
 have bx:=H.box;have cx:=H.cst;have fin:∀{a:Act} {s:ByteArray},s.size<4611686018427387904->ay [(11,.string s),(3,.pk g3 0),(8,.string k1),(10,.string k2)] 58 [] a->Rn kX (Qg w cs) ((base 51).atR a [.code (.seq (rD f51 10) .ret)]) cs w':=λ{a s} hs hF=>by
  refine oZ hF ?_;refine Gx.q ?_;refine Gx.q ?_ (y:=λo a w ho z=>cc ⟨_,_,rfl⟩ ho gx (bk z.b cx));refine Gx.q ?_;refine Gx.k (v:=.string ⟨(de dX k1.data.toList).toArray⟩) func12 (λw1 QM _=>j0 dX dx mg _ k1 w1 (hC.mono (ab H.old H.old.size QM)) o_) ?_;refine Gx.q ?_ (y:=λo a w ho z=>cc ⟨_,_,rfl⟩ ho gx (bk z.b cx));refine Gx.q ?_;refine Gx.k (v:=.string ⟨(de dX k2.data.toList).toArray⟩) func12 (λw1 QM _=>j0 dX dx mg _ k2 w1 (hC.mono (ab H.old H.old.size QM)) o_) ?_
  iterate 3 refine Gx.q ?_
  refine Gx.e λa w1 hF b1 _=>?_;exact Rn.ends rfl (.inr ⟨_,rfl⟩) (Rn.now ⟨a,_,_,_,_,rfl,hF.defers,hF.slot 4 _ rfl,hF.slot 5 _ rfl,hF.slot 6 _ rfl,_,rfl,⟨s,_,_,rfl,hs,cU _ _,cU _ _⟩,ab H.old H.old.size b1⟩)
 iterate 2 refine a9 hF λ_ hF=>?_
 refine a9 hF (v:=.string (s1++s2)) (hy:=by intro o ho;exact cn ho gx gx o_) λ_ hF=>?_;have hs12:(s1++s2).size<=562949952000000:=by rw[ByteArray.size_append];omega
 generalize s1++s2=s at hF hs12
 iterate 3 refine a9 hF λ_ hF=>?_
 refine a9 hF (v:=.bool (decide (m.cut>0))) (hy:=by intro o ho;exact qP ho gx rfl) λ_ hF=>?_;by_cases hc:m.cut>0
 .refine aN true hF ?_ (hq:=decide_eq_true hc)
  iterate 5 refine a9 hF λ_ hF=>?_
  refine bf hF func17 (BI m.cut s.size hm.cut w') λv w2 hv _ hF=>?_;obtain⟨⟨r,rfl,hr⟩,rfl⟩:=hv;refine a9 hF (hy:=by intro o ho;exact pH ho gx gx k_ hr) λ_ hF=>?_;refine a9 hF λ_ hF=>?_;exact Rn.plain rfl (fin (by rw[ByteArray.size_extract];omega) (hF.only ⟨rfl,rfl,rfl,rfl,trivial⟩))
 .refine aN false hF ?_ (hq:=decide_eq_false hc);exact Rn.plain rfl (fin o_ (hF.only ⟨rfl,rfl,rfl,rfl,trivial⟩))
theorem K4(h:n<=8192):(pX n).size<=281474976000000:=by rw[eE];omega
theorem C8(hm:m.Ok w)(hC:iX dX #[.sk hb 8 hq,.sk tb 64 tq] w):Cl kX 51 #[.agg m.cells,.agg #[.sk hb 8 hq,.sk tb 64 tq]] w λe w'=>∃v,e=.returned v/\(∃s a b:ByteArray,v=.tuple #[.string s,.string a,.string b]/\s.size<4611686018427387904/\a.size=32/\b.size=32)/\Bw w w':=by
 refine uE (t:=4) (u:=5) (s:=6) func51 rfl λcs=>?_;refine bm (N:=58) (L:=[.agg m.cells,.agg #[.sk hb 8 hq,.sk tb 64 tq]]) func51 MQ λa hF=>?_;refine cW hF λw1 _ b1 c1 z1 hF=>?_;refine cW hF λw2 _ b2 c2 z2 hF=>?_;have H2:NW w m hb hq tb tq w.heap.size w1.heap.size w2:=⟨ab b1 b1.size b2,bk b2 c1,c2⟩;have c1:=H2.box
 iterate 3 refine a9 hF λ_ hF=>?_
 refine a9 hF (hy:=by intro o ho;exact cc ⟨_,_,rfl⟩ ho gx c2) λ_ hF=>?_;refine a9 hF λ_ hF=>?_;refine a9 hF (hy:=by intro o ho;exact KY ho gx c1) λ_ hF=>?_;refine bf hF func16 (Fz hm.A w2 (hC.mono H2.old)) λv w3 hv _ hF=>?_;obtain⟨⟨s1,k1,rfl,SR,WS⟩,b3⟩:=hv;have H3:=H2.below b3;have c3:=H3.box;have d3:=H3.cst
 iterate 5 refine a9 hF λ_ hF=>?_
 refine a9 hF (hy:=by intro o ho;exact cc ⟨_,_,rfl⟩ ho gx d3) λ_ hF=>?_;refine a9 hF λ_ hF=>?_;refine a9 hF (hy:=by intro o ho;exact KX ho gx c3) λ_ hF=>?_;refine bf hF func16 (Fz hm.B w3 (hC.mono H3.old)) λv w4 hv _ hF=>?_;obtain⟨⟨s2,k2,rfl,TC,UN⟩,b4⟩:=hv;have H4:=H3.below b4;have c4:=H4.box
 iterate 5 refine a9 hF λ_ hF=>?_
 have five:∀{a:Act} {w5:World} {s1:ByteArray},s1.size<=281474976000000->NW w m hb hq tb tq w.heap.size w1.heap.size w5->ay [(7,.string s1),(2,.pk w.heap.size 0),(3,.pk w1.heap.size 0),(8,.string k1),(9,.string s2),(10,.string k2)] 58 [] a->Rn kX (Qg w cs) ((base 51).atR a [.code (Qr f51)]) cs w5:=λ{a w5 s1} SR H5 hF=>by
  have c5:=H5.box
  iterate 2 refine a9 hF λ_ hF=>?_
  refine a9 hF (v:=.int .i64 (bits .and .i64 m.has 2)) (hy:=by intro o ho;exact cV ho gx gx rfl) λ_ hF=>?_;refine a9 hF (v:=.bool (bits .and .i64 m.has 2==0)) (hy:=by intro o ho;exact cV ho gx gx rfl) λ_ hF=>?_;cases VJ:(bits .and .i64 m.has 2==0)with
  |true=>
   refine aN true hF ?_ (hq:=VJ);refine bl hF (λo ho=>kG (n:=8192) d_ ho rfl rfl) λw6 _ b6 c6 z6 hF=>?_;refine a9 hF (hy:=by intro o ho;exact iK ho gx c6) λ_ hF=>?_;refine a9 hF λ_ hF=>?_;exact Rn.plain rfl (E_ hm hC (H5.below b6) SR (K4 (Nat.le_refl _)) WS UN (hF.only ⟨rfl,rfl,rfl,rfl,rfl,rfl,trivial⟩))
  |false=>
   refine aN false hF ?_ (hq:=VJ);exact Rn.plain rfl (E_ hm hC H5 SR TC WS UN (hF.only ⟨rfl,rfl,rfl,rfl,rfl,rfl,trivial⟩))
 iterate 2 refine a9 hF λ_ hF=>?_
 refine a9 hF (v:=.int .i64 (bits .and .i64 m.has 1)) (hy:=by intro o ho;exact cV ho gx gx rfl) λ_ hF=>?_;refine a9 hF (v:=.bool (bits .and .i64 m.has 1==0)) (hy:=by intro o ho;exact cV ho gx gx rfl) λ_ hF=>?_;cases hq1:(bits .and .i64 m.has 1==0)with
 |true=>
  refine aN true hF ?_ (hq:=hq1);refine bl hF (λo ho=>kG (n:=8192) d_ ho rfl rfl) λw6 _ b6 c6 z6 hF=>?_;refine a9 hF (hy:=by intro o ho;exact iK ho gx c6) λ_ hF=>?_;refine a9 hF λ_ hF=>?_;exact Rn.plain rfl (five (K4 (Nat.le_refl _)) (H4.below b6) (hF.only ⟨rfl,rfl,rfl,rfl,rfl,rfl,trivial⟩))
 |false=>
  refine aN false hF ?_ (hq:=hq1);exact Rn.plain rfl (five SR H4 (hF.only ⟨rfl,rfl,rfl,rfl,rfl,rfl,trivial⟩))
end

def JF(B hb hq tb tq pb:Nat)(w:World):Prop:=∃lb cb fb fq rb fr Rq wb qw kb qk L W K,dP W/\ir w pb lb cb fb fq rb fr Rq wb qw kb qk hb hq tb tq dX W K L false 0 false 0 (.slice none 0 0) (.slice none 0 0) [] []/\(B<=pb/\B<=lb/\B<=cb/\B<=fb/\B<=rb/\B<=fr/\B<=wb/\B<=kb)
theorem JF.below{hb:Nat}(h:JF B hb hq tb tq pb w)(b:Bw w w'):JF B hb hq tb tq pb w':=
 let ⟨lb,cb,fb,fq,rb,fr,Rq,wb,qw,kb,qk,L,W,K,h1,h2,h3⟩:=h
 ⟨lb,cb,fb,fq,rb,fr,Rq,wb,qw,kb,qk,L,W,K,h1,h2.below b,h3⟩
theorem ft.below{g:Nat}{W:List Int}(h:ft w g W)(b:Bw w w'):ft w' g W:=h.keep (ai (X:=λ_=>False) b) (λe=>e)
def Pr(B hb hq tb tq:Nat)(m:Mc)(s a b kp:ByteArray):Nat->Value->World->Prop
 |0,v,_=>v=.agg #[.sk hb 8 hq,.sk tb 64 tq]
 |1,v,_=>v=.string s
 |2,v,_=>v=.agg m.cells
 |3,v,_=>v=.string a
 |4,v,_=>v=.string b
 |5,v,w=>∃g cap W,v=.sk g 85 cap/\dP W/\ft w g W
 |6,v,_=>v=.string kp
 |7,v,_=>v=.string (kp.extract 0 16)
 |8,v,w=>∃pb,v=.tuple #[.pk pb 0,.bool true]/\JF B hb hq tb tq pb w
 |9,v,w=>∃pb,v=.pk pb 0/\JF B hb hq tb tq pb w
 |10,v,_=>v=.bool true
 |11,v,w=>∃pb,v=.pk pb 0/\JF B hb hq tb tq pb w
 |_,v,_=>v=.bool true
theorem Pr.mono{hb:Nat}{m:Mc}{s a b:ByteArray}(n:Nat)(v:Value)(w w':World)(h:Pr B hb hq tb tq m s a b kp n v w)(Sk:Bw w w'):Pr B hb hq tb tq m s a b kp n v w':=by
 match n,h with
 |0,h|1,h|2,h|3,h|4,h|6,h|7,h|10,h=>exact h
 |5,h=>
  obtain⟨g,cap,W,e,h1,h2⟩:=h;exact⟨g,cap,W,e,h1,ft.below h2 Sk⟩
 |8,h=>
  obtain⟨pb,e,h1⟩:=h;exact⟨pb,e,h1.below Sk⟩
 |9,h=>
  obtain⟨pb,e,h1⟩:=h;exact⟨pb,e,h1.below Sk⟩
 |11,h=>
  obtain⟨pb,e,h1⟩:=h;exact⟨pb,e,h1.below Sk⟩
 |n+12,h=>exact h
section
variable{m:Mc}{hb:Nat}
theorem Ew(hm:m.Ok w)(hh:ft w hb H0)(ht:ft w tb dX):Cl kX 24 #[.agg m.cells,.agg #[.sk hb 8 hq,.sk tb 64 tq]] w λe w'=>∃v,e=.returned v/\(∃pb,v=.tuple #[.pk pb 0,.bool true]/\JF w.heap.size hb hq tb tq pb w')/\Bw w w':=by
 have hC:iX dX #[.sk hb 8 hq,.sk tb 64 tq] w:=⟨hb,hq,tb,tq,rfl,hh.rng,hh.lt,ht.rng,ht.lt⟩;refine cG (t:=4) (u:=5) func24 rfl λcs=>?_;refine bm (N:=35) (L:=[.agg m.cells,.agg #[.sk hb 8 hq,.sk tb 64 tq]]) func24 rfl λa hF=>?_;refine cW hF λw1 _ b1 c1 z1 hF=>?_;refine cW hF λw2 _ b2 c2 z2 hF=>?_;have c1:=bk b2 c1;have B2:=ab b1 b1.size b2
 iterate 2 refine a9 hF λ_ hF=>?_
 refine a9 hF (hy:=by intro o ho;exact xF ho gx c1) λ_ hF=>?_;refine a9 hF (hy:=by intro o ho;exact cc ⟨_,_,rfl⟩ ho gx c2) λ_ hF=>?_;refine bf hF func51 (C8 (hm.below B2) (hC.mono B2)) λv w3 hv _ hF=>?_;obtain⟨⟨s,a,b,rfl,hs,ha,QN⟩,b3⟩:=hv;have c1:=bk b3 c1;have c2:=bk b3 c2;have B3:=ab B2 B2.size b3
 iterate 10 refine a9 hF λ_ hF=>?_
 refine gD (λkp a' w'=>w'=w3/\kp.size<=140737488351300/\ay [(2,.pk w.heap.size 0),(3,.pk w1.heap.size 0),(6,.string s),(7,.string a),(8,.string b),(9,.string kp)] 35 [] a') (λkp:ByteArray=>16- kp.size) m.kp ⟨rfl,by have:=hm.kp;omega,hF.only ⟨rfl,rfl,rfl,rfl,rfl,rfl,trivial⟩⟩ ?_;clear hF;intro kp a' w' ⟨Uv,Wj,hF⟩ ih;subst Uv
 iterate 3 refine a9 hF λ_ hF=>?_
 by_cases QK:kp.size<16
 .refine aN true hF ?_ (hq:=decide_eq_true o_);refine a9 hF λ_ hF=>?_;refine a9 hF (v:=.string (kp++⟨#[5]⟩)) (hy:=by intro o ho;exact cn ho gx rfl (by show kp.size+1<=_;omega)) λ_ hF=>?_;refine a9 hF λ_ hF=>?_;have e1:(kp++⟨#[5]⟩).size=kp.size+1:=by rw[ByteArray.size_append];rfl
  exact fZ (ih (kp++⟨#[5]⟩) _ _ ⟨rfl,by omega,hF.only ⟨rfl,rfl,rfl,rfl,rfl,rfl,trivial⟩⟩ o_)
 refine aN false hF ?_ (hq:=decide_eq_false o_);clear ih;have hF:=hF.only (G:=[(2,.pk w.heap.size 0),(3,.pk w1.heap.size 0),(6,.string s),(7,.string a),(8,.string b),(9,.string kp)]) ⟨rfl,rfl,rfl,rfl,rfl,rfl,trivial⟩;refine jG 8 _ ?_;refine uM (fx:=[(2,.pk w.heap.size 0),(3,.pk w1.heap.size 0),(6,.string s),(7,.string a),(8,.string b),(9,.string kp)]) hF [24,25,26,27,28,29,30,31,32,33,34,4,5] (Pr w.heap.size hb hq tb tq m s a b kp) Pr.mono (λn o a' w4 hn z=>?_) (λa' w4 R0 hF hs=>?_)
 .have B4:=ab B3 B3.size z.b
  match n,hn,z with
  |0,_,z=>exact z.now (p:=.load 26 (.tmp 3)) (λe=>cc ⟨_,_,rfl⟩ e (z.f 3) (bk z.b c2)) ⟨rfl,Below.refl _ _⟩
  |1,_,z=>exact z.now (p:=.move (.tmp 6)) (λe=>BG e (z.f 6)) ⟨rfl,Below.refl _ _⟩
  |2,_,z=>exact z.now (p:=.load 65 (.tmp 2)) (λe=>xF e (z.f 2) (bk z.b c1)) ⟨rfl,Below.refl _ _⟩
  |3,_,z=>exact z.now (p:=.move (.tmp 7)) (λe=>BG e (z.f 7)) ⟨rfl,Below.refl _ _⟩
  |4,_,z=>exact z.now (p:=.move (.tmp 8)) (λe=>BG e (z.f 8)) ⟨rfl,Below.refl _ _⟩
  |5,_,z=>
   obtain⟨_,h1,rfl⟩:=z.k 2 (d:=26);obtain⟨_,h2,rfl⟩:=z.k 3 (d:=27);obtain⟨_,h3,rfl⟩:=z.k 4 (d:=28);exact z.calls func52 (xs:=#[.tmp 26,.tmp 27,.tmp 28]) (vs:=#[.agg m.cells,.string a,.string b]) (by simp[h1,h2,h3]) ((AT (hm.below B4) ha QN).mono λ_ _ ⟨v,h1,g,cap,W,h2,h3,h4,_,h6⟩=>⟨v,h1,⟨g,cap,W,h2,h3,h4⟩,h6⟩)
  |6,_,z=>exact z.now (p:=.move (.tmp 9)) (λe=>BG e (z.f 9)) ⟨rfl,Below.refl _ _⟩
  |7,_,z=>
   obtain⟨_,h1,rfl⟩:=z.k 6 (d:=30);exact z.now (p:=.slice 9 (.tmp 30) none (some (.const (.int .i64 16))) none) (λe=>pH (n:=16) e h1 rfl k_ o_) ⟨rfl,Below.refl _ _⟩
  |8,_,z=>
   obtain⟨_,h1,rfl⟩:=z.k 0 (d:=24);obtain⟨_,h2,rfl⟩:=z.k 1 (d:=25);obtain⟨_,h3,g,cap,W,rfl,hW,hg⟩:=z.k 5 (d:=29);obtain⟨_,h4,rfl⟩:=z.k 7 (d:=31);have h4s:=B4.size;exact z.calls func21 (xs:=#[.tmp 24,.tmp 25,.tmp 29,.tmp 31]) (vs:=#[.agg #[.sk hb 8 hq,.sk tb 64 tq],.string s,.sk g 85 cap,.string (kp.extract 0 16)]) (by simp[h1,h2,h3,h4]) ((CH hs (by rw[ByteArray.size_extract];omega) hW hg (ft.below hh B4) (ft.below ht B4)).mono λ_ _ ⟨v,h1,pb,lb,cb,fb,fq,rb,fr,Rq,wb,qw,kb,qk,h2,h3⟩=>⟨v,h1,⟨pb,h2,lb,cb,fb,fq,rb,fr,Rq,wb,qw,kb,qk,_,_,_,hW,h3.both,by have:=h3.at';omega⟩,h3.below⟩)
  |9,_,z=>
   obtain⟨_,h1,pb,rfl,hM⟩:=z.k 8 (d:=32);exact z.now (p:=.extract (.tmp 32) 0) (λe=>j1 e h1 rfl) ⟨⟨pb,rfl,hM⟩,Below.refl _ _⟩
  |10,_,z=>
   obtain⟨_,h1,pb,rfl,hM⟩:=z.k 8 (d:=32);exact z.now (p:=.extract (.tmp 32) 1) (λe=>j1 e h1 rfl) ⟨rfl,Below.refl _ _⟩
  |11,_,z=>
   obtain⟨_,h1,pb,rfl,hM⟩:=z.k 9 (d:=33);exact z.now (p:=.assign (.tmp 33)) (λe=>tZ e h1) ⟨⟨pb,rfl,hM⟩,Below.refl _ _⟩
  |12,_,z=>
   obtain⟨_,h1,rfl⟩:=z.k 10 (d:=34);exact z.now (p:=.assign (.tmp 34)) (λe=>tZ e h1) ⟨rfl,Below.refl _ _⟩
  |n+13,h,_=>exact absurd h s_
 .obtain⟨_,h1,pb,rfl,hM⟩:=hs 11 4 rfl;obtain⟨_,h2,rfl⟩:=hs 12 5 rfl;exact Rn.ends rfl (.inr ⟨_,rfl⟩) (Rn.now ⟨a',_,_,_,rfl,hF.defers,h1,h2,_,rfl,⟨pb,rfl,hM⟩,ab B3 B3.size R0⟩)
end

theorem wP{w2:World}(h:Below B w w1)(hB:B<=w1.heap.size)(hx:Ex X w1 w2)(hX:∀b,X b->B<=b):Below B w w2:=
 ⟨hx.os.trans h.os,hx.tape.trans h.tape,hx.output.trans h.output,Nat.le_trans h.size hx.size,λb hb=>(hx.block b o_ λe=>by have:=hX b e;omega).trans (h.block b hb)⟩
theorem JP{p:Option Addr}{q:Nat}{G:List Int}(h:cz w (.slice p G.length q) (aH G))(a:Addr)(hp:p=some a)(hG:G≠[]):a.block<w.heap.size:=by
 obtain⟨p',q',e,hc⟩:=h;injection e with e1;have h0:0<G.length:=List.length_pos_iff.2 hG;obtain⟨b,h1,h2⟩:=hc 0 (.int .i64 G[0]) (by simp[aH,h0]);rw[←e1,hp]at h1;cases h1;unfold World.cell? at h2;rw[JA]at h2;split at h2
 .exact(Array.getElem?_eq_some_iff.1 ‹_›).1
 .cases h2
structure G5 (B hb hq tb tq pb:Nat) (n:Nat) (w:World):Prop where
 it:∃lb cb fb fq rb fr Rq wb qw kb qk L W K on sl rs lv mv ls ms,dP W/\ir w pb lb cb fb fq rb fr Rq wb qw kb qk hb hq tb tq dX W K L on sl on rs lv mv ls ms/\(on=true->rs=sl)/\ms.length=n/\(B<=pb/\B<=lb/\B<=cb/\B<=fb/\B<=rb/\B<=fr/\B<=wb/\B<=kb)/\(∀b,lv.ownBlock=some b->B<=b)/\(∀b,mv.ownBlock=some b->B<=b)
theorem JF.mid{B' hb:Nat}(h:JF B' hb hq tb tq pb w)(hB:B<=B'):G5 B hb hq tb tq pb 0 w:=by
 obtain⟨lb,cb,fb,fq,rb,fr,Rq,wb,qw,kb,qk,L,W,K,h1,h2,h3⟩:=h;exact⟨lb,cb,fb,fq,rb,fr,Rq,wb,qw,kb,qk,L,W,K,false,0,0,_,_,_,_,h1,h2,(λ_=>rfl),rfl,by omega,(λb e=>by cases e),(λb e=>by cases e)⟩
section
variable{hb:Nat}
theorem G5.boot{p:Option Addr}{q:Nat}{G:List Int}(h:G5 B hb hq tb tq pb n w)(h0:0<B)(hBw:B<=w.heap.size)(hT:w.rangeAt 0 0 (aC dX))(hG:G.length<=17592186043904)(Uf:∀x∈G,x<9223372036854775808)(hv:cz w (.slice p G.length q) (aH G))(hp:∀a:Addr,p=some a->G≠[]->a.block<B):
 Cl kX 23 #[.pk pb 0,.slice p G.length q] w λe w'=>e=.returned (.bool true)/\G5 B hb hq tb tq pb n w'/\Below B w w':=by
 obtain⟨lb,cb,fb,fq,rb,fr,Rq,wb,qw,kb,qk,L,W,K,on,sl,rs,lv,mv,ls,ms,hW,hBo,hr,hn,hl,Xd,hmv⟩:=h;refine(P8 HZ dx mg hW hBo o_ hT hG Uf hv λa e QQ=>by have:=hp a e QQ;omega).mono λe w' ⟨e1,K',VC,S8,Xz,h1,h2,hx⟩=>⟨e1,⟨lb,cb,fb,fq,rb,fr,Rq,wb,qw,kb,qk,L,W,K',VC,S8,Xz,lv,mv,ls,ms,hW,h1,h2,hn,hl,Xd,hmv⟩,wP (Below.refl _ _) hBw hx λb e=>?_⟩;rcases e with e|e|e<;>omega
theorem G5.looked(h:G5 B hb hq tb tq pb n w)(hBw:B<=w.heap.size)(hn:n<=1000):Cl kX 22 #[.pk pb 0] w λe w'=>e=.returned (.bool true)/\G5 B hb hq tb tq pb (n+8) w'/\Below B w w':=by
 obtain⟨lb,cb,fb,fq,rb,fr,Rq,wb,qw,kb,qk,L,W,K,on,sl,rs,lv,mv,ls,ms,hW,hBo,hr,hm,hl,Xd,hmv⟩:=h;refine(yq hW.1 hBo o_).mono λe w' ⟨e1,TV,TU,Uh,Ug,h1,h2,k1,k2,_,hx⟩=>⟨e1,⟨lb,cb,fb,fq,rb,fr,Rq,wb,qw,kb,qk,L,W,K,on,sl,rs,TV,TU,Uh,Ug,hW,h1,hr,by omega,hl,λb hb=>(k1 b hb).elim (Xd b) λh=>by omega,λb hb=>(k2 b hb).elim (hmv b) λh=>by omega⟩,wP (Below.refl _ _) hBw hx λb e=>?_⟩;rcases e with e|e|e
 .omega
 .exact Xd b e
 .exact hmv b e
end
theorem MU:Tryz.f6.body=some (.seq (rG Tryz.f6 0) (.seq (rG Tryz.f6 1) (.seq (rG Tryz.f6 2) (.seq (.seq (rG Tryz.f6 3) (.cond (.tmp 29) (.seq (rG Tryz.f6 4) .ret) .skip)) (.seq (rG Tryz.f6 5) (.seq (rG Tryz.f6 6) (.seq (rG Tryz.f6 7) (.seq (rG Tryz.f6 8) (.seq (rG Tryz.f6 9) .ret))))))))):=by kernel_rfl
section
variable{m:Mc}{p1 p2:Option Addr}{q1 q2:Nat}{G1 G2:List Int}
theorem CC(hm:m.Ok w)(hT:w.rangeAt 0 0 (aC dX))(h0:0<w.heap.size)(hG1:G1.length<=17592186043904)(hG1':∀x∈G1,pV x)(RH:cz w (.slice p1 G1.length q1) (aH G1))(Uf:G2.length<=17592186043904)(hG2':∀x∈G2,pV x)(V3:cz w (.slice p2 G2.length q2) (aH G2))(cs:List Frame):
 Rn kX (λg w'=>∃(a:Act) (k:List Item) (v:Value),g=cQ {(base 6).atR a k with mode:=.returning} cs/\a.defers=[]/\a.tmps[6]?=some v/\(v=.bool true/\Bw w w')) (Frame.enter prog 6 #[.agg m.cells,.slice p1 G1.length q1,.slice p2 G2.length q2] .normal) cs w:=by
 refine bm (N:=50) (L:=[.agg m.cells,.slice p1 G1.length q1,.slice p2 G2.length q2]) func6 MU λa hF=>?_;refine cW hF λw1 _ b1 c1 z1 hF=>?_;refine a9 hF λ_ hF=>?_;refine bf (R:=λv w'=>∃hb kb,v=.agg #[.sk hb 8 8,.sk kb 64 64]/\w'.heap[hb]?=some (.cells (aP H0).toArray 3)/\w'.heap[kb]?=some (.cells (aP dX).toArray 3)/\Bw w1 w') hF func8 ((tV w1).mono λ_ _ ⟨hb,kb,h1,_,_,h2,h3,h4⟩=>⟨_,h1,hb,kb,rfl,h2,h3,h4⟩) λv w2 hv _ hF=>?_;obtain⟨hb,tb,rfl,hh2,ht2,b2⟩:=hv;have hh2:ft w2 hb H0:=⟨_,hh2,λi x hx=>by simpa[aP]using hx⟩;have ht2:ft w2 tb dX:=⟨_,ht2,λi x hx=>by simpa[aP]using hx⟩;have B2:=ab b1 b1.size b2;have c1:=bk b2 c1;refine Rn.am hF λg3 w3 _ h3 b3 c3 z3 hF=>?_;refine Rn.st hF (hy:=by intro o ho;exact dZ (vs:=#[.sk hb 8 8,.sk tb 64 64]) ho gx gx c3 k_ rfl (by simp[Value.oneCell'])) λw4 _ hp hF=>?_;have b4:Bw w2 w4:=b3.trans (hp.below h3);have c4:=hp.here;have B4:=ab B2 B2.size b4;have hh4:=ft.below hh2 b4;have ht4:=ft.below ht2 b4;have c1:=bk b4 c1;refine a9 hF (hy:=by intro o ho;exact xF ho gx c1) λ_ hF=>?_;refine a9 hF (hy:=by intro o ho;exact cc ⟨_,_,rfl⟩ ho gx c4) λ_ hF=>?_;refine bf hF func24 (Ew (hm.below B4) hh4 ht4) λv w5 hv _ hF=>?_;obtain⟨⟨pb,rfl,hM⟩,b5⟩:=hv;have B5:=ab B4 B4.size b5;have Uk:=B4.size;have We:=B5.size;have M5:G5 w.heap.size hb 8 tb 64 pb 0 w5:=hM.mid Uk
 iterate 5 refine a9 hF λ_ hF=>?_
 obtain⟨lb,cb,fb,fq,rb,fr,Rq,wb,qw,kb,qk,L,W,K,on,sl,rs,lv,mv,ls,ms,_,hBo,_⟩:=M5.it;have hpr:=hBo.pr
 iterate 6 refine a9 hF λ_ hF=>?_
 refine a9 hF (v:=.pk lb 0) (hy:=by intro o ho;exact kr ho gx hpr rfl (λ_=>by kernel_rfl)) λ_ hF=>?_;refine a9 hF (v:=.bool false) (hy:=by intro o ho;exact L3 ho gx rfl) λ_ hF=>?_;refine a9 hF (v:=.bool false) (hy:=by intro o ho;exact iw ho gx gx) λ_ hF=>?_;refine aN false hF ?_;have tab:∀{w':World},Bw w w'->w'.rangeAt 0 0 (aC dX):=λhb j v hv=>aR hb (hT j v hv)
 iterate 2 refine a9 hF λ_ hF=>?_
 refine bH hF func23 (M5.boot h0 We (tab B5) hG1 (λx hx=>(hG1' x hx).2) (RH.below B5) (JP RH)) λw6 ⟨M6,b6⟩ _ hF=>?_;have B6:=B5.trans b6
 iterate 2 refine a9 hF λ_ hF=>?_
 refine bH hF func22 (M6.looked B6.size o_) λw7 ⟨M7,b7⟩ _ hF=>?_;have B7:=B6.trans b7
 iterate 3 refine a9 hF λ_ hF=>?_
 refine bH hF func23 (M7.boot h0 B7.size (tab B7) Uf (λx hx=>(hG2' x hx).2) (V3.below B7) (JP V3)) λw8 ⟨M8,b8⟩ _ hF=>?_;have B8:=B7.trans b8
 iterate 2 refine a9 hF λ_ hF=>?_
 refine bH hF func22 (M8.looked B8.size o_) λw9 ⟨M9,b9⟩ _ hF=>?_;have B9:=B8.trans b9
 iterate 4 refine a9 hF λ_ hF=>?_
 refine a9 hF (v:=.bool true) (hy:=by intro o ho;exact dI ho gx gx) λ_ hF=>?_
 iterate 2 refine a9 hF λ_ hF=>?_
 refine a9 hF (v:=.bool true) (hy:=by intro o ho;exact dI ho gx gx) λ_ hF=>?_
 iterate 2 refine a9 hF λ_ hF=>?_
 refine a9 hF (v:=.bool true) (hy:=by intro o ho;exact dI ho gx gx) λ_ hF=>?_;refine a9 hF λ_ hF=>?_;exact aL hF ⟨rfl,B9⟩
end

end Go.Proofs.YtkmoglhgkcnalaaGreatDoor
namespace Go.Proofs.YtkmoglhgkcnalaaGreatDoor
open Go Go.ChangeShapes Go.WideShapes Go.ChangeAt Go.Proofs.YtkmoglhgkcnalaaGreatDoor.L1
theorem iv{z:Int}(h:(Lit.int .i64 z).wf=true):pV z:=by
 have h1:IntKind.i64.min= -9223372036854775808:=rfl;have h2:IntKind.i64.max=9223372036854775807:=rfl;simp[Lit.wf,h1,h2]at h;unfold pV;omega
section
variable{H:Type}{enc:TypeId×Value->H}{W:World}{base:Nat}{spare:Nat->Bool}{held:Bool}
theorem cw:prog.cellsOf 23=4:=by kernel_rfl
theorem Qt:prog.cellsOf 41=16:=by kernel_rfl
theorem QD:prog.cellsOf 65=41:=by kernel_rfl
theorem ci:prog.cellsOf 3=1:=by kernel_rfl
theorem Cq:prog.cellsOf 9=1:=by kernel_rfl
theorem Qs:prog.cellsOf 24=1:=by kernel_rfl
theorem ss{c0 c1 c2 c3:Value}{x:DataW H×List MemPlace}(hf:DataW.trod enc prog W base spare held n 23 [c0,c1,c2,c3]=some x):
 ∃(a b c:Int) (m:ByteArray),[c0,c1,c2,c3]=[.int .i64 a,.int .i64 b,.int .i64 c,.string m]/\x=(.agg [.lit (.int .i64 a),.lit (.int .i64 b),.lit (.int .i64 c),.lit (.string m.data.toList)],[])/\(Lit.int .i64 a).wf=true/\(Lit.int .i64 b).wf=true/\(Lit.int .i64 c).wf=true:=by
 obtain⟨xs,n,rfl,hx,_,hl,hp⟩:=DataW.trod_struct underlying23 hf
 match xs,hl with
 |[y0,y1,y2,y3],_=>
  have e0:DataW.trod enc prog W base spare held n 3 (([c0,c1,c2,c3].drop 0).take (prog.cellsOf 3))=some y0:=hp 0 _ rfl;have e1:DataW.trod enc prog W base spare held n 3 (([c0,c1,c2,c3].drop 1).take (prog.cellsOf 3))=some y1:=hp 1 _ rfl;have e2:DataW.trod enc prog W base spare held n 3 (([c0,c1,c2,c3].drop 2).take (prog.cellsOf 3))=some y2:=hp 2 _ rfl;have e3:DataW.trod enc prog W base spare held n 9 (([c0,c1,c2,c3].drop 3).take (prog.cellsOf 9))=some y3:=hp 3 _ rfl;rw[ci]at e0 e1 e2;rw[Cq]at e3;obtain⟨x,q0,r0,w0⟩:=DataW.trod_int underlying3 e0;obtain⟨y,q1,r1,w1⟩:=DataW.trod_int underlying3 e1;obtain⟨z,q2,r2,w2⟩:=DataW.trod_int underlying3 e2;obtain⟨m,q3,r3,w3⟩:=DataW.trod_string underlying9 e3;simp only[List.drop,List.take,List.cons.injEq,and_true]at q0 q1 q2 q3;subst q0 q1 q2 q3 r0 r1 r2 r3;simp only[List.map_cons,List.map_nil,List.flatMap_cons,List.flatMap_nil,List.append_nil]at hx;exact⟨x,y,z,m,rfl,hx,w0,w1,w2⟩
def PG(H:Type)(i:Im):DataW H:=.agg [.lit (.int .i64 i.ch),.lit (.int .i64 i.qi),.lit (.string i.seed.data.toList),.lit (.int .i64 i.ver),.lit (.int .i64 i.en),.lit (.int .i64 i.gap),.lit (.int .i64 i.ex),.lit (.string i.body.data.toList),.agg [.lit (.int .i64 i.sa),.lit (.int .i64 i.sw),.lit (.int .i64 i.sc),.lit (.string i.sm.data.toList)],.agg [.lit (.int .i64 i.aa),.lit (.int .i64 i.aw),.lit (.int .i64 i.aq),.lit (.string i.am.data.toList)]]
theorem wh{fuel:Nat}{c0 c1 c2 c3 c4 c5 c6 c7 c8 c9 Vo UG Vm Vl Vk Vj:Value}{x:DataW H×List MemPlace}(hf:DataW.trod enc prog W base spare held fuel 41 [c0,c1,c2,c3,c4,c5,c6,c7,c8,c9,Vo,UG,Vm,Vl,Vk,Vj]=some x):
 ∃i:Im,[c0,c1,c2,c3,c4,c5,c6,c7,c8,c9,Vo,UG,Vm,Vl,Vk,Vj]=[.int .i64 i.ch,.int .i64 i.qi,.string i.seed,.int .i64 i.ver,.int .i64 i.en,.int .i64 i.gap,.int .i64 i.ex,.string i.body,.int .i64 i.sa,.int .i64 i.sw,.int .i64 i.sc,.string i.sm,.int .i64 i.aa,.int .i64 i.aw,.int .i64 i.aq,.string i.am]/\x=(PG H i,[])/\(Lit.int .i64 i.ch).wf=true/\(Lit.int .i64 i.qi).wf=true/\(Lit.int .i64 i.en).wf=true/\(Lit.int .i64 i.gap).wf=true/\(Lit.int .i64 i.sa).wf=true/\(Lit.int .i64 i.sc).wf=true/\(Lit.int .i64 i.aa).wf=true:=by
 obtain⟨xs,n,rfl,hx,_,hl,hp⟩:=DataW.trod_struct underlying41 hf
 match xs,hl with
 |[y0,y1,y2,y3,y4,y5,y6,y7,y8,y9],_=>
  have e0:DataW.trod enc prog W base spare held n 3 (([c0,c1,c2,c3,c4,c5,c6,c7,c8,c9,Vo,UG,Vm,Vl,Vk,Vj].drop 0).take (prog.cellsOf 3))=some y0:=hp 0 _ rfl;rw[ci]at e0;have e1:DataW.trod enc prog W base spare held n 3 (([c0,c1,c2,c3,c4,c5,c6,c7,c8,c9,Vo,UG,Vm,Vl,Vk,Vj].drop 1).take (prog.cellsOf 3))=some y1:=hp 1 _ rfl;rw[ci]at e1;have e2:DataW.trod enc prog W base spare held n 9 (([c0,c1,c2,c3,c4,c5,c6,c7,c8,c9,Vo,UG,Vm,Vl,Vk,Vj].drop 2).take (prog.cellsOf 9))=some y2:=hp 2 _ rfl;rw[Cq]at e2;have e3:DataW.trod enc prog W base spare held n 3 (([c0,c1,c2,c3,c4,c5,c6,c7,c8,c9,Vo,UG,Vm,Vl,Vk,Vj].drop 3).take (prog.cellsOf 3))=some y3:=hp 3 _ rfl;rw[ci]at e3;have e4:DataW.trod enc prog W base spare held n 3 (([c0,c1,c2,c3,c4,c5,c6,c7,c8,c9,Vo,UG,Vm,Vl,Vk,Vj].drop 4).take (prog.cellsOf 3))=some y4:=hp 4 _ rfl;rw[ci]at e4;have e5:DataW.trod enc prog W base spare held n 3 (([c0,c1,c2,c3,c4,c5,c6,c7,c8,c9,Vo,UG,Vm,Vl,Vk,Vj].drop 5).take (prog.cellsOf 3))=some y5:=hp 5 _ rfl;rw[ci]at e5;have e6:DataW.trod enc prog W base spare held n 3 (([c0,c1,c2,c3,c4,c5,c6,c7,c8,c9,Vo,UG,Vm,Vl,Vk,Vj].drop 6).take (prog.cellsOf 3))=some y6:=hp 6 _ rfl;rw[ci]at e6;have e7:DataW.trod enc prog W base spare held n 9 (([c0,c1,c2,c3,c4,c5,c6,c7,c8,c9,Vo,UG,Vm,Vl,Vk,Vj].drop 7).take (prog.cellsOf 9))=some y7:=hp 7 _ rfl;rw[Cq]at e7;have e8:DataW.trod enc prog W base spare held n 23 (([c0,c1,c2,c3,c4,c5,c6,c7,c8,c9,Vo,UG,Vm,Vl,Vk,Vj].drop 8).take (prog.cellsOf 23))=some y8:=hp 8 _ rfl;rw[cw]at e8;have e9:DataW.trod enc prog W base spare held n 23 (([c0,c1,c2,c3,c4,c5,c6,c7,c8,c9,Vo,UG,Vm,Vl,Vk,Vj].drop 12).take (prog.cellsOf 23))=some y9:=hp 9 _ rfl;rw[cw]at e9;obtain⟨ch,q0,r0,w0⟩:=DataW.trod_int underlying3 e0;obtain⟨qi,q1,r1,w1⟩:=DataW.trod_int underlying3 e1;obtain⟨seed,q2,r2,w2⟩:=DataW.trod_string underlying9 e2;obtain⟨ver,q3,r3,w3⟩:=DataW.trod_int underlying3 e3;obtain⟨en,q4,r4,w4⟩:=DataW.trod_int underlying3 e4;obtain⟨gap,q5,r5,w5⟩:=DataW.trod_int underlying3 e5;obtain⟨ex,q6,r6,w6⟩:=DataW.trod_int underlying3 e6;obtain⟨body,q7,r7,w7⟩:=DataW.trod_string underlying9 e7;obtain⟨sa,sw,sc,sm,q8,r8,u8,v8,w8⟩:=ss e8;obtain⟨aa,aw,aq,am,q9,r9,u9,v9,w9⟩:=ss e9;simp only[List.drop,List.take,List.cons.injEq,and_true]at q0 q1 q2 q3 q4 q5 q6 q7 q8 q9;obtain⟨s1,s2,s3,s4⟩:=q8;obtain⟨t1,t2,t3,t4⟩:=q9;subst q0 q1 q2 q3 q4 q5 q6 q7 s1 s2 s3 s4 t1 t2 t3 t4 r0 r1 r2 r3 r4 r5 r6 r7 r8 r9;simp only[List.map_cons,List.map_nil,List.flatMap_cons,List.flatMap_nil,List.append_nil]at hx;exact⟨⟨ch,qi,seed,ver,en,gap,ex,body,sa,sw,sc,sm,aa,aw,aq,am⟩,rfl,hx,w0,w1,w4,w5,u8,w8,u9⟩
theorem un{fuel:Nat}{cs:List Value}{x:DataW H×List MemPlace}(h:DataW.trod enc prog W base (λ_=>true) held fuel 24 cs=some x):
 ∃(p:Option Addr) (B:List Int) (q:Nat),cs=[.slice p B.length q]/\cz W (.slice p B.length q) (aH B)/\(∀z∈B,(Lit.int .i64 z).wf=true)/\∀N,(∀n∈DataW.weights prog 24 x.1,n<=N)->B.length*8<=N:=by
 rcases open_ints underlying24 underlying3 ci h with⟨e,_⟩|⟨a,len,cap,zs,e,_,hl,_,hz,hx,hc,hwf⟩
 .subst e;exact⟨none,[],0,rfl,⟨none,0,rfl,λi u h=>by simp[aH]at h⟩,λz h=>(by simp at h),λN _=>by simp⟩
 .subst e;rw[if_pos rfl]at hz;have hlen:(zs.take len).length=len:=by rw[List.length_take];omega
  refine⟨some a,zs.take len,cap,by rw[hlen],⟨some a,cap,by simp[aH],λi u hi=>⟨a,rfl,?_⟩⟩,λz h=>hwf z (List.mem_of_mem_take h),λN h=>?_⟩
  .have R5:i<len:=(by have:=(List.getElem?_eq_some_iff.1 hi).1;simp[aH]at this;omega);rw[hc i o_,←hi];simp[aH,R5,List.getD,show i<zs.length by omega]
  .have hb:prog.bytesOf 3=8:=(by kernel_rfl);rw[hx]at h;have:=h ((min len zs.length+(zs.length- len))*8) (by simp[DataW.weights,lits,underlying24,hb]);simp;omega
theorem BN{r:Go.Reach}{b0:Nat}{d:DataW H}{ps:List MemPlace}(TF:Value.okWide prog W r b0 65 v)(hd:DataW.Trod enc prog W base (λ_=>true) held 65 v d ps):
 ∃(m:Mc) (du dy:DataW H),v=.agg m.cells/\d=.agg [PG H m.A,PG H m.B,.lit (.int .i64 m.has),.lit (.int .i64 m.st),.lit (.int .i64 m.le),du,dy,.lit (.int .i64 m.wd),.lit (.int .i64 m.bt),.lit (.int .i64 m.cut),.lit (.string m.kp.data.toList)]/\((m.A.seed.size<=140737488351232/\m.A.sm.size<=140737488351232/\m.B.seed.size<=140737488351232/\m.B.sm.size<=140737488351232/\m.kp.size<=140737488351232)->m.Ok W):=by
 obtain⟨cs,rfl,QY⟩:=okWide_struct underlying65 TF;rw[QD]at QY;obtain⟨l⟩:=cs
 match l,QY with
 |VA::Vy::Vx::Vv::Vu::Vt::Vs::Vr::Vq::Vp::Tu::Tt::Ts::Tr::Tq::Tp::To::Tn::Tm::Tk::Tj::Ti::Tg::Tf::Te::Td::Tc::Ta::T9::T8::T7::T6::T5::T4::T3::T2::T1::T0::S_::SZ::SY::[],_=>
  obtain⟨fuel,hf⟩:=hd;obtain⟨xs,n,rfl,hx,_,hl,hp⟩:=DataW.trod_struct underlying65 hf
  match xs,hl with
  |[y0,y1,y2,y3,y4,y5,y6,y7,y8,y9,y10],_=>
   have e0:DataW.trod enc prog W base (λ_=>true) held n 41 (([VA,Vy,Vx,Vv,Vu,Vt,Vs,Vr,Vq,Vp,Tu,Tt,Ts,Tr,Tq,Tp,To,Tn,Tm,Tk,Tj,Ti,Tg,Tf,Te,Td,Tc,Ta,T9,T8,T7,T6,T5,T4,T3,T2,T1,T0,S_,SZ,SY].drop 0).take (prog.cellsOf 41))=some y0:=hp 0 _ rfl;rw[Qt]at e0;have e1:DataW.trod enc prog W base (λ_=>true) held n 41 (([VA,Vy,Vx,Vv,Vu,Vt,Vs,Vr,Vq,Vp,Tu,Tt,Ts,Tr,Tq,Tp,To,Tn,Tm,Tk,Tj,Ti,Tg,Tf,Te,Td,Tc,Ta,T9,T8,T7,T6,T5,T4,T3,T2,T1,T0,S_,SZ,SY].drop 16).take (prog.cellsOf 41))=some y1:=hp 1 _ rfl;rw[Qt]at e1;have e2:DataW.trod enc prog W base (λ_=>true) held n 3 (([VA,Vy,Vx,Vv,Vu,Vt,Vs,Vr,Vq,Vp,Tu,Tt,Ts,Tr,Tq,Tp,To,Tn,Tm,Tk,Tj,Ti,Tg,Tf,Te,Td,Tc,Ta,T9,T8,T7,T6,T5,T4,T3,T2,T1,T0,S_,SZ,SY].drop 32).take (prog.cellsOf 3))=some y2:=hp 2 _ rfl;rw[ci]at e2;have e3:DataW.trod enc prog W base (λ_=>true) held n 3 (([VA,Vy,Vx,Vv,Vu,Vt,Vs,Vr,Vq,Vp,Tu,Tt,Ts,Tr,Tq,Tp,To,Tn,Tm,Tk,Tj,Ti,Tg,Tf,Te,Td,Tc,Ta,T9,T8,T7,T6,T5,T4,T3,T2,T1,T0,S_,SZ,SY].drop 33).take (prog.cellsOf 3))=some y3:=hp 3 _ rfl;rw[ci]at e3;have e4:DataW.trod enc prog W base (λ_=>true) held n 3 (([VA,Vy,Vx,Vv,Vu,Vt,Vs,Vr,Vq,Vp,Tu,Tt,Ts,Tr,Tq,Tp,To,Tn,Tm,Tk,Tj,Ti,Tg,Tf,Te,Td,Tc,Ta,T9,T8,T7,T6,T5,T4,T3,T2,T1,T0,S_,SZ,SY].drop 34).take (prog.cellsOf 3))=some y4:=hp 4 _ rfl;rw[ci]at e4;have e5:DataW.trod enc prog W base (λ_=>true) held n 24 (([VA,Vy,Vx,Vv,Vu,Vt,Vs,Vr,Vq,Vp,Tu,Tt,Ts,Tr,Tq,Tp,To,Tn,Tm,Tk,Tj,Ti,Tg,Tf,Te,Td,Tc,Ta,T9,T8,T7,T6,T5,T4,T3,T2,T1,T0,S_,SZ,SY].drop 35).take (prog.cellsOf 24))=some y5:=hp 5 _ rfl;rw[Qs]at e5;have e6:DataW.trod enc prog W base (λ_=>true) held n 24 (([VA,Vy,Vx,Vv,Vu,Vt,Vs,Vr,Vq,Vp,Tu,Tt,Ts,Tr,Tq,Tp,To,Tn,Tm,Tk,Tj,Ti,Tg,Tf,Te,Td,Tc,Ta,T9,T8,T7,T6,T5,T4,T3,T2,T1,T0,S_,SZ,SY].drop 36).take (prog.cellsOf 24))=some y6:=hp 6 _ rfl;rw[Qs]at e6;have e7:DataW.trod enc prog W base (λ_=>true) held n 3 (([VA,Vy,Vx,Vv,Vu,Vt,Vs,Vr,Vq,Vp,Tu,Tt,Ts,Tr,Tq,Tp,To,Tn,Tm,Tk,Tj,Ti,Tg,Tf,Te,Td,Tc,Ta,T9,T8,T7,T6,T5,T4,T3,T2,T1,T0,S_,SZ,SY].drop 37).take (prog.cellsOf 3))=some y7:=hp 7 _ rfl;rw[ci]at e7;have e8:DataW.trod enc prog W base (λ_=>true) held n 3 (([VA,Vy,Vx,Vv,Vu,Vt,Vs,Vr,Vq,Vp,Tu,Tt,Ts,Tr,Tq,Tp,To,Tn,Tm,Tk,Tj,Ti,Tg,Tf,Te,Td,Tc,Ta,T9,T8,T7,T6,T5,T4,T3,T2,T1,T0,S_,SZ,SY].drop 38).take (prog.cellsOf 3))=some y8:=hp 8 _ rfl;rw[ci]at e8;have e9:DataW.trod enc prog W base (λ_=>true) held n 3 (([VA,Vy,Vx,Vv,Vu,Vt,Vs,Vr,Vq,Vp,Tu,Tt,Ts,Tr,Tq,Tp,To,Tn,Tm,Tk,Tj,Ti,Tg,Tf,Te,Td,Tc,Ta,T9,T8,T7,T6,T5,T4,T3,T2,T1,T0,S_,SZ,SY].drop 39).take (prog.cellsOf 3))=some y9:=hp 9 _ rfl;rw[ci]at e9;have e10:DataW.trod enc prog W base (λ_=>true) held n 9 (([VA,Vy,Vx,Vv,Vu,Vt,Vs,Vr,Vq,Vp,Tu,Tt,Ts,Tr,Tq,Tp,To,Tn,Tm,Tk,Tj,Ti,Tg,Tf,Te,Td,Tc,Ta,T9,T8,T7,T6,T5,T4,T3,T2,T1,T0,S_,SZ,SY].drop 40).take (prog.cellsOf 9))=some y10:=hp 10 _ rfl;rw[Cq]at e10;obtain⟨A,q0,r0,a1,a2,a3,a4,a5,a6,a7⟩:=wh e0;obtain⟨B,q1,r1,b1,b2,b3,b4,b5,b6,b7⟩:=wh e1;obtain⟨has,q2,r2,w2⟩:=DataW.trod_int underlying3 e2;obtain⟨st,q3,r3,w3⟩:=DataW.trod_int underlying3 e3;obtain⟨le,q4,r4,w4⟩:=DataW.trod_int underlying3 e4;obtain⟨pu,U,qu,q5,s5,u5,_⟩:=un e5;obtain⟨py,Y,qy,q6,s6,u6,_⟩:=un e6;obtain⟨wd,q7,r7,w7⟩:=DataW.trod_int underlying3 e7;obtain⟨bt,q8,r8,w8⟩:=DataW.trod_int underlying3 e8;obtain⟨cut,q9,r9,w9⟩:=DataW.trod_int underlying3 e9;obtain⟨kp,q10,r10,V1⟩:=DataW.trod_string underlying9 e10;simp only[List.drop,List.take,List.cons.injEq,and_true]at q0 q1 q2 q3 q4 q5 q6 q7 q8 q9 q10;obtain⟨g0,g1,g2,g3,g4,g5,g6,g7,g8,g9,g10,g11,W9,g13,g14,g15⟩:=q0;obtain⟨h0,h1,h2,h3,h4,h5,h6,h7,h8,h9,h10,h11,h12,h13,h14,h15⟩:=q1;subst g0 g1 g2 g3 g4 g5 g6 g7 g8 g9 g10 g11 W9 g13 g14 g15 h0 h1 h2 h3 h4 h5 h6 h7 h8 h9 h10 h11 h12 h13 h14 h15 q2 q3 q4 q5 q6 q7 q8 q9 q10;obtain⟨du,pl5⟩:=y5;obtain⟨dy,pl6⟩:=y6;subst r0 r1 r2 r3 r4 r7 r8 r9 r10;simp only[Prod.mk.injEq,List.map_cons,List.map_nil]at hx;refine⟨⟨A,B,has,st,le,pu,U,qu,py,Y,qy,wd,bt,cut,kp⟩,du,dy,rfl,hx.1,λhz=>⟨⟨iv a1,iv a2,iv a3,iv a4,iv a5,iv a6,iv a7,hz.1,hz.2.1⟩,⟨iv b1,iv b2,iv b3,iv b4,iv b5,iv b6,iv b7,hz.2.2.1,hz.2.2.2.1⟩,iv w2,iv w3,iv w4,s5,λx hx=>iv (u5 x hx),s6,λx hx=>iv (u6 x hx),iv w7,iv w8,iv w9,hz.2.2.2.2⟩⟩
end

end Go.Proofs.YtkmoglhgkcnalaaGreatDoor
