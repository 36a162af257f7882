/- A part of what the last text of the claim imports: texts laid together, without remarks and blanks, by a program. -/
import Derived.Lib.Repeat
import Derived.Room.MakeNoZero
import Derived.Lib.FrozenHead
import Derived.Lib.UnsafeStr
import Derived.StillTail
import Derived.Conc.CrowdStepC2
import Derived.Conc.CrowdRun
import Derived.Test.YtkmoglhgkcnalaaGreatDoorBwn1
set_option maxHeartbeats 16000000
set_option maxRecDepth 100000
set_option linter.all false
open Go.Proofs.Tryz
open Go
variable{B C N Wg b b7 b9 cp i j m n r:Nat}{F:List (Nat×Value)}{Goal:Goroutine->World->Prop}{KS:List Int}{P:Program}{QS R:Value->World->Prop}{RO V V0:Nat->Prop}{W0 w w' w0 w1 wE wL wR QI:World}{a:Act}{ad:Addr}{args cur first:Array Value}{c st':Int}{cf fr:Frame}{cs:List Frame}{d:Tmp}{df ds:List Deferred}{es:Array Event}{ev:Operand->Value}{f:FuncId}{fn:Func}{g':Goroutine}{gd:Option (Nat×Bool)}{k':List Item}{ops:Array Oper}{p:Op}{rest:List Nat}{t' ty:TypeId}{v:Value}{x:Operand}
namespace Go.Proofs.YtkmoglhgkcnalaaGreatDoor
open Go Go.Conc Go.RowKit
section
variable{p:Bool}{A:Ax}
theorem CX(H:List Int)(j:Nat)(h:j<H.length):(aC H).toArray[0+j]?=some (.int .u32 (H.getD j 0)):=by
 rw[Nat.zero_add,List.getElem?_toArray];simp[aC,h]
def CO(KS:List Int)(c:Array Value):Prop:=∀(j:Nat) (v:Value),(aC KS)[j]?=some v->c[j]?=some v
theorem PT{c:Array Value}(h:CO KS c)(j:Nat)(hj:j<KS.length):c[0+j]?=some (.int .u32 (KS.getD j 0)):=by
 have:=CX KS j hj;rw[Nat.zero_add,List.getElem?_toArray]at this;rw[Nat.zero_add];exact h j _ this
theorem LU(x:Int):bits .xor .u32 (if IntKind.u32.signed=true then-1 else IntKind.u32.max) x=bits .xor .u32 4294967295 x:=by
 rw[show(if IntKind.u32.signed=true then-1 else IntKind.u32.max)=(4294967295:Int)from by decide]
theorem BU{cK:Array Value}{tK:TypeId}{zK:Nat×Nat}(H KS:List Int)(B:List UInt8)(hH:H.length=8)(hB:B.length=64)(w:World)(hK:w.heap[0]?=some (.cells cK tK zK))(Xm:CO KS cK)(QL:KS.length=64):
 Cl (cX prog p A) 131 #[.agg (aC H).toArray,.agg (aZ B).toArray] w λe w'=>e=.returned (.agg (aC (lZ KS H B)).toArray)/\Bw w w':=by
 refine ce (n:=8) func131 rfl rfl rfl k_ λcs=>bm (L:=[.agg (aC H).toArray,.agg (aZ B).toArray]) func131 rfl λa hF=>?_;have h0:0<w.heap.size:=(Array.getElem?_eq_some_iff.1 hK).1;refine Rn.am hF λgh w1 _ hgh QM R9 Wz hF=>?_;refine Rn.am hF λgb w2 _ SL QN Rh hz2 hF=>?_;refine Rn.am hF λgr w3 _ Ud QW RN hz3 hF=>?_;have SR:=QM.size;have TC:=QN.size;have Uw:=QW.size
 replace Rh:w3.heap[gb]?=some (.cells (aZ B).toArray 164):=bk QW Rh
 refine a9 hF (hy:=by intro o ho;exact gi (vs:=aZ B) ho gx Rh rfl rfl (by rw[bQ,hB];kernel_rfl) (λj u h=>by simpa using h)) λ_ hF=>?_;refine gJ hF func162 (tJ B hB _) λw4 _ R0 hF=>?_;have Uk:=R0.size;obtain⟨S,hS⟩:∃S,S=bF B 64:=⟨_,rfl⟩;have hSl:S.length=64:=by rw[hS];exact bG B 64
 rw[←hS]at hF;refine Rn.am hF λgs w5 _ hgs Rz TA hz5 hF=>?_;have We:=Rz.size
 replace R9:w5.heap[gh]?=some (.cells (aC H).toArray 163):=bk Rz (bk R0 (bk QW (bk QN R9)))
 replace RN:w5.heap[gr]?=some (.cells (List.replicate 8 (.int .u32 0)).toArray 163):=bk Rz (bk R0 RN)
 have hb:Bw w w5:=ab (ab (ab (ab QM SR QN) o_ QW) o_ R0) o_ Rz;have hl:(aC S).length=64:=by rw[aT,hSl]
 refine Rn.st hF (hy:=by intro o ho;exact dZ (vs:=(aC S).toArray) ho gx gx TA (by rw[List.size_toArray,hl];kernel_rfl) hl.symm (by simpa using iT _)) λw6 _ hp hF=>?_
 replace R9:=hp.keep R9 o_
 replace RN:=hp.keep RN o_
 have TA:=hp.here
 replace hb:=hb.trans (hp.below o_)
 replace hK:=(hb.block 0 h0).trans hK
 clear hp QM QN QW R0 Rz Rh;have x0:=CX H 0 o_;have x1:=CX H 1 o_;have x2:=CX H 2 o_;have x3:=CX H 3 o_;have x4:=CX H 4 o_;have x5:=CX H 5 o_;have x6:=CX H 6 o_;have x7:=CX H 7 o_
 replace hF:ay [(2,.pk gh 0),(4,.pk gr 0),(5,.pk gs 0)] f131.ntmps [] _:=hF.O
 refine oZ hF ?_
 iterate 24 refine Gx.q ?_
 refine Gx.e λ_ w7 hF SP _=>?_
 replace R9:=bk SP R9
 replace RN:=bk SP RN
 replace TA:=bk SP TA
 replace hK:=bk SP hK
 replace hb:=ab hb hb.size SP
 clear x0 x1 x2 x3 x4 x5 x6 x7 SP;refine a9 hF λ_ hF=>?_;refine gD (λk a w'=>k<=64/\Bw w w'/\w'.heap[0]?=some (.cells cK tK zK)/\w'.heap[gh]?=some (.cells (aC H).toArray 163)/\w'.heap[gr]?=some (.cells (List.replicate 8 (.int .u32 0)).toArray 163)/\w'.heap[gs]?=some (.cells (aC S).toArray 214)/\ay [(2,.pk gh 0),(4,.pk gr 0),(5,.pk gs 0),(6,.int .u32 (cC KS S H k).a),(7,.int .u32 (cC KS S H k).b),(8,.int .u32 (cC KS S H k).c),(9,.int .u32 (cC KS S H k).d),(10,.int .u32 (cC KS S H k).e),(11,.int .u32 (cC KS S H k).f),(12,.int .u32 (cC KS S H k).g),(13,.int .u32 (cC KS S H k).h),(37,.int .i64 (k:Int))] f131.ntmps [] a) (λk=>64- k) 0 ⟨by omega,hb,hK,R9,RN,TA,hF.O⟩ ?_;clear hF hb R9 RN TA hK;intro k a w' ⟨hk,hb,hK,R9,RN,TA,hF⟩ ih;refine a9 hF λ_ hF=>?_;by_cases QK:k<64
 .refine aN true hF ?_;have y1:=PT Xm k o_;have y2:=CX S k o_;have e1:cC KS S H (k+1)=(cC KS S H k).next (KS.getD k 0) (S.getD k 0):=rfl;generalize cC KS S H k=s at hF e1;generalize KS.getD k 0=kk at y1 e1;generalize S.getD k 0=ww at y2 e1
  iterate 2 refine a9 hF λ_ hF=>?_
  refine oZ hF ?_
  iterate 2 refine Gx.q ?_
  refine Gx.k func163 (λw _ _=>(qo _ 6 11 25 w o_ o_ o_ o_ o_ o_).bel) ?_
  iterate 19 refine Gx.q ?_
  refine Gx.e λ_ w7 hF SP _=>?_;rw[LU]at hF
  replace hF:ay [(2,.pk gh 0),(4,.pk gr 0),(5,.pk gs 0),(6,.int .u32 s.a),(7,.int .u32 s.b),(8,.int .u32 s.c),(9,.int .u32 s.d),(10,.int .u32 s.e),(11,.int .u32 s.f),(12,.int .u32 s.g),(13,.int .u32 s.h),(15,.int .u32 (s.t kk ww)),(37,.int .i64 (k:Int))] f131.ntmps [] _:=hF.O
  refine a9 hF λ_ hF=>?_;refine fY hF func163 (qo _ 2 13 22 _ o_ o_ o_ o_ o_ o_) λ_ hF=>?_
  iterate 13 refine a9 hF λ_ hF=>?_
  iterate 20 refine a9 hF λ_ hF=>?_
  iterate 2 refine a9 hF λ_ hF=>?_
  exact fZ (ih (k+1) _ _ ⟨QK,ab hb hb.size SP,bk SP hK,bk SP R9,bk SP RN,bk SP TA,by rw[e1];exact hF.O⟩ o_)
 .have Y3:k=64:=by omega
  subst Y3;refine aN false hF ?_;have eG:lZ KS H B=eM H (cC KS S H 64).list 8:=by rw[lZ,EV,hS]
  generalize cC KS S H 64=G at hF eG
  iterate 8 refine a9 hF λ_ hF=>?_
  refine a9 hF (hy:=by intro o ho;exact eA (.agg (aC G.list).toArray) ho (gB hF rfl) (λ_=>by kernel_rfl)) λ_ hF=>?_;refine a9 hF λ_ hF=>?_;refine gD (λk a w'=>k<=8/\Bw w w'/\w'.heap[gh]?=some (.cells (aC (eM H G.list k)).toArray 163)/\w'.heap[gr]?=some (.cells (List.replicate 8 (.int .u32 0)).toArray 163)/\ay [(2,.pk gh 0),(4,.pk gr 0),(96,.agg (aC G.list).toArray),(97,.int .i64 (k:Int))] f131.ntmps [] a) (λk=>8- k) 0 ⟨by omega,hb,by rw[vQ H _ hH];exact R9,RN,hF.O⟩ ?_;clear hF hb R9 RN TA hK ih;intro k a w' ⟨hk,hb,R9,RN,hF⟩ ih;refine a9 hF λ_ hF=>?_;have WN:=mW H G.list k;have XW:=aT (eM H G.list k);by_cases QK:k<8
  .refine aN true hF ?_;have y0:(aC (eM H G.list k)).toArray[0+k]?=some (.int .u32 (H.getD k 0)):=(by rw[Nat.zero_add,List.getElem?_toArray];exact BW H G.list k QK);have y1:(aC G.list).toArray[k]?=some (.int .u32 (G.list.getD k 0)):=by have:=CX G.list k QK;rwa [Nat.zero_add]at this
   iterate 10 refine a9 hF λ_ hF=>?_
   refine Rn.st hF λw2 _ hp hF=>?_;have h3:=hp.here;rw[List.setIfInBounds_toArray,Nat.zero_add,BV H G.list k _ rfl]at h3
   iterate 2 refine a9 hF λ_ hF=>?_
   exact fZ (ih (k+1) _ _ ⟨QK,hb.trans (hp.below o_),h3,hp.keep RN o_,hF.O⟩ o_)
  .have hk8:k=8:=(by omega);subst hk8;refine aN false hF ?_;rw[←eG]at R9 WN XW;refine a9 hF (hy:=by intro o ho;exact gi (vs:=aC (lZ KS H B)) ho gx R9 rfl rfl (by rw[XW,WN];kernel_rfl) (λj u h=>by simpa using h)) λ_ hF=>?_;refine Rn.st hF (hy:=by intro o ho;exact dZ (vs:=(aC (lZ KS H B)).toArray) ho gx gx RN (by rw[List.size_toArray,XW,WN];kernel_rfl) (XW.trans WN).symm (by simpa using iT _)) λw3 _ hp hF=>?_;refine AL hF hp.here (by rw[List.size_toArray,XW,WN]) ?_;exact⟨rfl,hb.trans (hp.below o_)⟩
end

end Go.Proofs.YtkmoglhgkcnalaaGreatDoor
namespace Go.Proofs.YtkmoglhgkcnalaaGreatDoor
open Go.RowKit
def H0:List Int:=[1779033703,3144134277,1013904242,2773480762,1359893119,2600822924,528734635,1541459225]
def bW(KS:List Int)(L:List UInt8):Nat->List Int
 |0=>H0
 |n+1=>lZ KS (bW KS L n) ((L.drop (64*n)).take 64)
theorem cT(KS:List Int)(L:List UInt8)(n:Nat):(bW KS L n).length=8:=by
 cases n with
 |zero=>rfl
 |succ n=>exact oL _ _ _
theorem jg(KS:List Int)(L p:List UInt8):∀n,64*n<=L.length->bW KS (L++p) n=bW KS L n
 |0,_=>rfl
 |n+1,h=>by
  rw[bW,bW,jg KS L p n o_,List.drop_append_of_le_length o_,List.take_append_of_le_length (by simp;omega)]
def jy(blk q:List UInt8)(h:Nat):List UInt8:=blk.take h++q++blk.drop (h+q.length)
theorem mM(blk q:List UInt8)(h:Nat)(hb:blk.length=64)(hq:h+q.length<=64):(jy blk q h).length=64:=by
 simp[jy,hb];omega
theorem qY(blk q:List UInt8)(h:Nat)(hb:blk.length=64)(hq:h+q.length<=64):(jy blk q h).take (h+q.length)=blk.take h++q:=by
 rw[jy,List.take_append_of_le_length (by simp;omega),List.take_of_length_le (by simp;omega)]
theorem Bf(blk L q:List UInt8)(hb:blk.length=64)(ht:blk.take (L.length%64)=L.drop (64*(L.length/64)))(hq:L.length%64+q.length<64):
 (L++q).length/64=L.length/64/\(L++q).length%64=L.length%64+q.length/\
 (jy blk q (L.length%64)).take ((L++q).length%64)=(L++q).drop (64*((L++q).length/64)):=by
 have h1:(L++q).length/64=L.length/64:=by simp;omega
 have h2:(L++q).length%64=L.length%64+q.length:=by simp;omega
 refine⟨h1,h2,?_⟩;rw[h1,h2,qY _ _ _ hb o_,ht,List.drop_append_of_le_length o_]
theorem Bg(KS:List Int)(blk L q:List UInt8)(hb:blk.length=64)(ht:blk.take (L.length%64)=L.drop (64*(L.length/64)))(hq:L.length%64+q.length=64):
 (L++q).length/64=L.length/64+1/\(L++q).length%64=0/\(L++q).drop (64*((L++q).length/64))=[]/\
 bW KS (L++q) ((L++q).length/64)=lZ KS (bW KS L (L.length/64)) (jy blk q (L.length%64)):=by
 have h1:(L++q).length/64=L.length/64+1:=by simp;omega
 have h2:(L++q).length%64=0:=by simp;omega
 refine⟨h1,h2,?_,?_⟩
 .rw[h1,List.drop_eq_nil_iff];simp;omega
 .rw[h1,bW,jg _ _ _ _ o_]
  congr 1
  have e:(jy blk q (L.length%64)).take 64=blk.take (L.length%64)++q:=by
   have:=qY blk q (L.length%64) hb o_
   rwa [hq]at this
  rw[List.take_of_length_le (by rw[mM _ _ _ hb o_];omega)]at e;rw[e,ht,List.drop_append_of_le_length o_,List.take_of_length_le (by simp;omega)]

end Go.Proofs.YtkmoglhgkcnalaaGreatDoor
namespace Go.Proofs.YtkmoglhgkcnalaaGreatDoor
open Go Go.Conc Go.RowKit
def eO(H:List Int)(blk:List UInt8)(n:Nat):List Value:=aC H++(aZ blk++[.int .u64 (n:Int)])
def BR:List Value:=eO H0 (List.replicate 64 0) 0
theorem wx(H:List Int)(blk:List UInt8)(n:Nat):∀v∈eO H blk n,v.oneCell'=true:=by
 intro v hv;simp only[eO,List.mem_append,List.mem_singleton]at hv;rcases hv with hv|hv|rfl
 .exact iT _ v hv
 .exact rO _ v hv
 .rfl
section
variable{H M:List Int}{blk q:List UInt8}{h:Nat}
theorem fX(hH:H.length=8)(hb:blk.length=64):(eO H blk n).length=73:=by simp[eO,aT,bQ,hH,hb]
theorem Ft(hH:H.length=8)(hb:blk.length=64):(eO H blk n).set 72 (.int .u64 (m:Int))=eO H blk m:=by
 rw[eO,eO,List.set_append_right _ _ (by rw[aT];omega),List.set_append_right _ _ (by rw[aT,bQ];omega)];simp[aT,bQ,hH,hb]
theorem wy(hH:H.length=8)(hb:blk.length=64):(eO H blk n).toArray[0+72]?=some (.int .u64 (n:Int)):=by
 simp[eO,aT,bQ,hH,hb]
theorem rL(j:Nat)(u:Value)(hu:(aC H)[j]?=some u):(eO H blk n).toArray[0+0+j]?=some u:=by
 have hj:=(List.getElem?_eq_some_iff.1 hu).1;rw[List.getElem?_toArray,eO,List.getElem?_append_left o_,←hu]
 congr 1
 omega
theorem yW(hH:H.length=8)(j:Nat)(u:Value)(hu:(aZ blk)[j]?=some u):(eO H blk n).toArray[0+8+j]?=some u:=by
 have hj:=(List.getElem?_eq_some_iff.1 hu).1;rw[List.getElem?_toArray,eO,List.getElem?_append_right (by rw[aT];omega),List.getElem?_append_left (by rw[aT];omega),←hu,aT]
 congr 1
 omega
theorem Co(hH:H.length=8)(hb:blk.length=64)(hq:h+q.length<=64):((eO H blk n).take (0+8+h)++aZ q++(eO H blk n).drop (0+8+h+q.length))=eO H (jy blk q h) n:=by
 have e1:(eO H blk n).take (0+8+h)=aC H++aZ (blk.take h):=by
  rw[eO,List.take_append,List.take_of_length_le (by rw[aT];omega),aT,hH,List.take_append,bQ,show 0+8+h- 8=h from by omega,show h- blk.length=0 from by omega];simp[aZ]
 have e2:(eO H blk n).drop (0+8+h+q.length)=aZ (blk.drop (h+q.length))++[.int .u64 (n:Int)]:=by
  rw[eO,List.drop_append,List.drop_of_length_le (by rw[aT];omega),aT,hH,List.drop_append,bQ,show 0+8+h+q.length- 8=h+q.length from by omega,show h+q.length- blk.length=0 from by omega];simp[aZ]
 rw[e1,e2,eO,jy];simp[aZ]
theorem Fu(hH:H.length=8):((eO H blk n).take (0+0)++aC M++(eO H blk n).drop (0+0+8))=eO M blk n:=by
 rw[eO,List.drop_append,List.drop_of_length_le (by rw[aT];omega),aT,hH];simp[eO]
end
structure Dg (w:World) (b:Nat) (T:TypeId) (KS:List Int) (L blk:List UInt8) (n:Nat):Prop where
 cells:w.heap[b]?=some (.cells (eO (bW KS L (L.length/64)) blk n).toArray T)
 len:blk.length=64
 tail:blk.take (L.length%64)=L.drop (64*(L.length/64))
section
variable{p:Bool}{A:Ax}
theorem Ie(w:World):Cl (cX prog p A) 110 #[] w λe w'=>e=.returned (.agg BR.toArray)/\Bw w w':=by
 refine ce (n:=73) func110 rfl rfl rfl k_ λcs=>bm (L:=[]) func110 rfl λa hF=>?_;have hl:BR.length=73:=fX rfl s_;refine Rn.am hF λg w1 _ hg QM R9 Wz hF=>?_;refine a9 hF (hy:=by intro o ho;exact eA (.agg (aC H0).toArray) ho (gB hF rfl) (λ_=>by kernel_rfl)) λ_ hF=>?_;refine a9 hF (hy:=by intro o ho;exact eA (.agg BR.toArray) ho (gB hF rfl) (λ_=>by kernel_rfl)) λ_ hF=>?_;refine Rn.st hF (hy:=by intro o ho;exact dZ (vs:=BR.toArray) ho gx gx R9 (by rw[List.size_toArray,hl];kernel_rfl) hl.symm (wx _ _ _)) λw2 _ hp hF=>?_;refine AL hF hp.here (by rw[List.size_toArray,hl]) ?_;exact⟨rfl,QM.trans (hp.below hg)⟩
theorem GD(rest:List UInt8)(n:Nat):(ByteArray.mk rest.toArray).extract n (ByteArray.mk rest.toArray).size=⟨(rest.drop n).toArray⟩:=by
 apply ByteArray.ext;have e:(ByteArray.mk rest.toArray).size=rest.length:=by show rest.toArray.size=_;simp
 rw[e];simp;exact List.take_of_length_le s_
theorem sr{cK:Array Value}{T tK:TypeId}{zK:Nat×Nat}(KS:List Int)(L blk:List UInt8)(s:ByteArray)(w:World)(b:Nat)(hD:Dg w b T KS L blk L.length)(hK:w.heap[0]?=some (.cells cK tK zK))(Xm:CO KS cK)(QL:KS.length=64)(hb0:0≠b)(hlen:L.length+s.size<=4611686018427387904):
 Cl (cX prog p A) 111 #[.pk b 0,.string s] w λe w'=>e=.returned (.tuple #[])/\pW b w w'/\∃RU,Dg w' b T KS (L++s.data.toList) RU (L.length+s.size):=by
 refine lE (L:=[.pk b 0,.string s]) func111 rfl λcs a hF=>?_;have hH:=cT KS L (L.length/64);have hc:=hD.cells;have hg:=wy (n:=L.length) hH hD.len;have Y8:=fX (n:=L.length) hH hD.len
 iterate 17 refine a9 hF λ_ hF=>?_
 refine Rn.st hF λw1 _ hp hF=>?_;have h1:=hp.here;rw[List.setIfInBounds_toArray,Nat.zero_add,Ft hH hD.len]at h1;refine gD (λ(q:List UInt8×List UInt8) a w'=>∃RU,s.data.toList=q.1++q.2/\pW b w w'/\Dg w' b T KS (L++q.1) RU (L.length+s.size)/\ay [(0,.pk b 0),(1,.string ⟨q.2.toArray⟩),(4,.int .i64 (((L++q.1).length%64:Nat):Int))] f111.ntmps [] a) (λq=>q.2.length) ([],s.data.toList) ⟨blk,rfl,hp.but,⟨by rw[List.append_nil];exact h1,hD.len,by rw[List.append_nil];exact hD.tail⟩,hF.only ⟨rfl,rfl,by rw[List.append_nil];rfl,trivial⟩⟩ ?_;clear hF hp h1 Y8 hg hc hH hD;intro⟨q,rest⟩ a w' ⟨RU,hq,hB,hD,hF⟩ ih;have QY:(ByteArray.mk rest.toArray).size=rest.length:=by show rest.toArray.size=_;simp
 replace hF:ay [(0,.pk b 0),(1,.string ⟨rest.toArray⟩),(4,.int .i64 (((L++q).length%64:Nat):Int))] f111.ntmps [] a:=hF
 replace hD:Dg w' b T KS (L++q) RU (L.length+s.size):=hD
 replace hq:s.data.toList=q++rest:=hq
 iterate 3 refine a9 hF λ_ hF=>?_
 rw[QY]at hF;by_cases hr:rest=[]
 .refine aN false hF ?_ (hq:=by simp[hr]);refine tr hF ?_;exact⟨rfl,hB,RU,by rw[hq,hr,List.append_nil];exact hD⟩
 .have XS:0<rest.length:=List.length_pos_iff.2 hr;refine aN true hF ?_ (hq:=by rw[decide_eq_true_eq];omega);have hH:=cT KS (L++q) ((L++q).length/64);have hc:=hD.cells;have Y8:=fX (n:=L.length+s.size) hH hD.len;obtain⟨h,hh⟩:∃h,h=(L++q).length%64:=⟨_,rfl⟩;have hm:h<64:=by omega
  rw[←hh]at hF;obtain⟨n,hn⟩:∃n,n=min rest.length (64- h):=⟨_,rfl⟩;have QK:(rest.take n).length=n:=by simp;omega
  iterate 6 refine a9 hF λ_ hF=>?_
  refine FT hF hc (hy:=by intro o ho;exact nL (n:=n) ho gx gx rfl k_ hc (by rw[QY];exact hn.symm) (by rw[List.size_toArray,Y8];exact om)) λw2 _ hp hF=>?_;have e:=Co (n:=L.length+s.size) (q:=rest.take n) (h:=h) hH hD.len o_;rw[QK]at e;have h2:=hp.here.trans (congrArg (λl=>some (Obj.cells l.toArray T)) e)
  replace hB:=hB.trans hp.but
  replace hF:ay [(0,.pk b 0),(1,.string ⟨rest.toArray⟩),(4,.int .i64 (h:Int)),(31,.int .i64 (n:Int))] f111.ntmps [] _:=hF.O
  clear hp e
  iterate 4 refine a9 hF λ_ hF=>?_
  rw[GD]at hF
  iterate 7 refine a9 hF λ_ hF=>?_
  have WZ:(jy RU (rest.take n) h).length=64:=mM _ _ _ hD.len o_;by_cases hfull:h+n=64
  .refine aN true hF ?_ (hq:=by rw[decide_eq_true_eq];omega);obtain⟨t1,t2,t3,t4⟩:=Bg KS RU (L++q) (rest.take n) hD.len hD.tail o_;rw[←hh]at t4;have U8:=hB.keep hK hb0;have hb:b<w2.heap.size:=(Array.getElem?_eq_some_iff.1 h2).1;have WN:=oL KS (bW KS (L++q) ((L++q).length/64)) (jy RU (rest.take n) h);generalize bW KS (L++q) ((L++q).length/64)=FF at hH h2 t4 WN;generalize jy RU (rest.take n) h=BB at WZ h2 t4 WN;refine AK 12 hF ?_
   iterate 4 refine Gx.q ?_
   refine Gx.q (y:=by intro o a w ho z;exact gi (vs:=aC FF) ho gx (bk z.b h2) rfl rfl (by rw[aT,hH];kernel_rfl) (λj u hu=>rL j u hu)) ?_
   iterate 3 refine Gx.q ?_
   refine Gx.q (y:=by intro o a w ho z;exact gi (vs:=aZ BB) ho gx (bk z.b h2) rfl rfl (by rw[bQ,WZ];kernel_rfl) (λj u hu=>yW hH j u hu)) ?_;refine Gx.k func131 (λw3 QW _=>BU FF KS BB hH WZ w3 (bk QW U8) Xm QL) ?_
   iterate 2 refine Gx.q ?_
   refine Gx.e λ_ w3 hF QW _ r next=>?_
   have h3:=bk QW h2;have V6:(aC (lZ KS FF BB)).toArray.size=8:=(by rw[List.size_toArray,aT,WN]);refine Rn.st hF (hy:=by intro o ho;exact Kv (vs:=(aC (lZ KS FF BB)).toArray) ho gx gx h3 (by rw[V6,List.size_toArray,fX hH WZ];decide) (by rw[V6];kernel_rfl) (iT _)) λw4 a hp hF=>next a w4 ?_
   have h4:=hp.here;rw[V6]at h4
   replace h4:=h4.trans (congrArg (λl=>some (Obj.cells l.toArray T)) (Fu (M:=lZ KS FF BB) hH))
   refine a9 hF λ_ hF=>?_;refine fZ (ih (q++rest.take n,rest.drop n) _ _ ⟨BB,by rw[hq];simp,(hB.trans (lG QW)).trans hp.but,⟨?_,WZ,?_⟩,hF.only ⟨rfl,rfl,?_,trivial⟩⟩ (by simp;omega))
   .rw[←List.append_assoc,t4];exact h4
   .rw[←List.append_assoc,t2,t3];rfl
   .rw[←List.append_assoc,t2];rfl
  .refine aN false hF ?_ (hq:=by rw[decide_eq_false_iff_not];omega);obtain⟨t1,t2,t3⟩:=Bf RU (L++q) (rest.take n) hD.len hD.tail o_;refine fZ (ih (q++rest.take n,rest.drop n) _ _ ⟨jy RU (rest.take n) h,by rw[hq];simp,hB,⟨?_,WZ,?_⟩,hF.only ⟨rfl,rfl,?_,trivial⟩⟩ (by simp;omega))
   .rw[←List.append_assoc,t1,jg _ _ _ _ o_];exact h2
   .rw[←List.append_assoc,hh];exact t3
   .rw[←List.append_assoc,t2,QK,←hh];rfl
end

def ic(L:List UInt8):List UInt8:=[128]++Lib.repeatL [0] ((119- L.length%64)%64)++bX (8*L.length) 8
def vG(H:List Int)(i:Nat):UInt8:=UInt8.ofNat (H.getD (i/4) 0/2^(24- 8*(i%4))).toNat
def de(KS:List Int)(L:List UInt8):List UInt8:=(List.range 32).map (vG (bW KS (L++ic L) ((L++ic L).length/64)))
def a_(H:List Int)(k:Nat):List Value:=aZ ((List.range k).map (vG H))++List.replicate (32- k) (.int .u8 0)
theorem oH(H:List Int)(k:Nat)(h:k<=32):(a_ H k).length=32:=by simp[a_,aZ];omega
theorem vI(H:List Int)(k:Nat)(h:k<32)(v:Int)(hv:v=((vG H k).toNat:Int)):(a_ H k).set k (.int .u8 v)=a_ H (k+1):=by
 subst hv;rw[a_,a_,show 32- k=(32-(k+1))+1 from by omega,List.replicate_succ,List.range_succ,List.map_append,aZ,aZ,List.map_append,List.set_append_right _ _ s_];simp
theorem vJ(H:List Int):a_ H 32=aZ ((List.range 32).map (vG H)):=by simp[a_]
theorem lL(KS:List Int)(L:List UInt8)(n i:Nat):0<=(bW KS L n).getD i 0:=by
 cases n with
 |zero=>
  by_cases h:i<8
  .have:i=0\/i=1\/i=2\/i=3\/i=4\/i=5\/i=6\/i=7:=(by omega);rcases this with rfl|rfl|rfl|rfl|rfl|rfl|rfl|rfl<;>(rw[bW];decide)
  .rw[List.getD_eq_getElem?_getD,List.getElem?_eq_none (by rw[cT];omega)];exact Int.le_refl _
 |succ n=>
  rw[bW,lZ,eM];by_cases h:i<8
  .rw[List.getD_eq_getElem?_getD,List.getElem?_map,List.getElem?_range h];simp only[Option.map_some,Option.getD_some,h,if_true];exact wrap_u32_nonneg _
  .rw[List.getD_eq_getElem?_getD,List.getElem?_eq_none (by simp;omega)];exact Int.le_refl _
theorem vF(H:List Int)(k:Nat)(x:Int)(hx:H.getD (k/4) 0=x)(h0:0<=x):x/2^(24- 8*(k%4))%256=((vG H k).toNat:Int):=by
 rw[vG,hx];obtain⟨m,rfl⟩:=Int.eq_ofNat_of_zero_le h0;have e:((m:Int)/2^(24- 8*(k%4)))=((m/2^(24- 8*(k%4)):Nat):Int):=by
  rw[Int.natCast_ediv,Int.natCast_pow];rfl
 rw[e,Int.toNat_natCast];simp
section
variable{p:Bool}{A:Ax}
def Qc(P:Program)(p:Bool)(A:Ax):Prop:=∀(c:Nat) (w:World),c<=64->Cl (cX P p A) 133 #[.string ⟨#[0]⟩,.int .i64 c] w λe w'=>e=.returned (.string ⟨(Lib.repeatL [0] c).toArray⟩)/\Bw w w'
theorem GA{cK:Array Value}{tK:TypeId}{zK:Nat×Nat}(hR:Qc prog p A)(KS:List Int)(L blk:List UInt8)(w:World)(Sj:blk.length=64)(htl:blk.take (L.length%64)=L.drop (64*(L.length/64)))(hK:w.heap[0]?=some (.cells cK tK zK))(Xm:CO KS cK)(QL:KS.length=64)(hlen:L.length<=576460752303423488):
 Cl (cX prog p A) 112 #[.agg (eO (bW KS L (L.length/64)) blk L.length).toArray] w λe w'=>e=.returned (.string ⟨(de KS L).toArray⟩)/\Bw w w':=by
 refine av (L:=[.agg (eO (bW KS L (L.length/64)) blk L.length).toArray]) func112 rfl λcs a hF=>?_;have h0:0<w.heap.size:=(Array.getElem?_eq_some_iff.1 hK).1;have hH:=cT KS L (L.length/64);have hg:=wy (n:=L.length) hH Sj;refine Rn.am hF λg w1 _ hgg QM R9 Wz hF=>?_
 replace R9:w1.heap[g]?=some (.cells (eO (bW KS L (L.length/64)) blk L.length).toArray 166):=R9
 replace hF:ay [(1,.pk g 0)] f112.ntmps [] _:=hF.O
 iterate 4 refine a9 hF λ_ hF=>?_
 refine gJ hF func132 (Gu (8*L.length) _) λw2 _ QN hF=>?_;have Rh:=bk QN R9;have SR:=QM.size;have TC:=QN.size;have hO:(bX (8*L.length) 8).length=8:=bB 8 _;have RI:(ByteArray.mk (bX (8*L.length) 8).toArray).size=8:=by show(bX (8*L.length) 8).toArray.size=8;simp[bB]
 generalize hOO:bX (8*L.length) 8=O at hF hO RI
 iterate 8 refine a9 hF λ_ hF=>?_
 rw[RI]at hF
 iterate 6 refine a9 hF λ_ hF=>?_
 replace hF:ay [(1,.pk g 0),(3,.string ⟨O.toArray⟩),(22,.int .i64 (((119- L.length%64)%64:Nat):Int))] f112.ntmps [] _:=hF.O
 refine gJ hF func133 (hR ((119- L.length%64)%64) _ o_) λw3 _ QW hF=>?_;have RN:=bk QW Rh;have Uw:=QW.size;have hRl:(Lib.repeatL [0] ((119- L.length%64)%64)).length=(119- L.length%64)%64:=by rw[Lib.repeatL_length];simp
 generalize hRR:Lib.repeatL [0] ((119- L.length%64)%64)=Z at hF hRl;have hsd:(ByteArray.mk #[128]++ByteArray.mk Z.toArray++ByteArray.mk O.toArray).data.toList=ic L:=by
  rw[ic,hRR,hOO];simp
 have hz0:(ByteArray.mk #[128]).size=1:=rfl;have Ss:(ByteArray.mk Z.toArray).size=Z.length:=by show Z.toArray.size=_;simp
 have hza:=ByteArray.size_append (a:=ByteArray.mk #[128]) (b:=ByteArray.mk Z.toArray);have hzb:=ByteArray.size_append (a:=ByteArray.mk #[128]++ByteArray.mk Z.toArray) (b:=ByteArray.mk O.toArray)
 iterate 3 refine a9 hF λ_ hF=>?_
 have hb13:=ab (ab QM SR QN) o_ QW;have W5:=(hb13.block 0 h0).trans hK;refine bf (R:=λ_ w'=>pW g w3 w'/\∃RU,Dg w' g 166 KS (L++ic L) RU (L.length+(ByteArray.mk #[128]++ByteArray.mk Z.toArray++ByteArray.mk O.toArray).size)) hF func111 ((sr KS L blk (ByteArray.mk #[128]++ByteArray.mk Z.toArray++ByteArray.mk O.toArray) w3 g ⟨RN,Sj,htl⟩ W5 Xm QL o_ o_).mono λe w' ⟨h1,h2,RU,h3⟩=>⟨_,h1,h2,RU,by rw[←hsd];exact h3⟩) λ_ w4 ⟨Ry,blk4,hD4⟩ _ hF=>?_
 replace hF:ay [(1,.pk g 0)] f112.ntmps [] _:=hF.O
 refine Rn.am hF λgo w5 _ hgo Rz TA hz5 hF=>?_;have Ue:=bk Rz hD4.cells;have hHl:(bW KS (L++ic L) ((L++ic L).length/64)).length=8:=cT _ _ _;have Un:=λi=>lL KS (L++ic L) ((L++ic L).length/64) i;have eS:de KS L=(List.range 32).map (vG (bW KS (L++ic L) ((L++ic L).length/64))):=rfl;generalize bW KS (L++ic L) ((L++ic L).length/64)=H at hHl Ue Un eS;have Uk:=Ry.size;have hb:Bw w w5:=ab (hb13.trans (Ry.below hgg o_)) o_ Rz
 iterate 4 refine a9 hF λ_ hF=>?_
 refine gD (λk a w'=>k<=32/\Bw w w'/\w'.heap[g]?=some (.cells (eO H blk4 (L.length+(ByteArray.mk #[128]++ByteArray.mk Z.toArray++ByteArray.mk O.toArray).size)).toArray 166)/\w'.heap[go]?=some (.cells (a_ H k).toArray 5)/\ay [(1,.pk g 0),(6,.sk go 32 32),(30,.int .i64 ((32:Nat):Int)),(31,.int .i64 (k:Int))] f112.ntmps [] a) (λk=>32- k) 0 ⟨by omega,hb,Ue,TA,hF.O⟩ ?_;clear hF hb Ue TA Rz hD4 RN Rh R9;intro k a w' ⟨hk,hb,Ue,TA,hF⟩ ih;refine a9 hF λ_ hF=>?_;by_cases QK:k<32
 .refine aN true hF ?_;have hol:=oH H k hk;have y0:(eO H blk4 (L.length+(ByteArray.mk #[128]++ByteArray.mk Z.toArray++ByteArray.mk O.toArray).size)).toArray[0+0+k/4]?=some (.int .u32 (H.getD (k/4) 0)):=rL _ _ (by have:=CX H (k/4) o_;rwa [Nat.zero_add,List.getElem?_toArray]at this)
  iterate 16 refine a9 hF λ_ hF=>?_
  refine Rn.st hF λw6 _ hp hF=>?_;have h6:=hp.here;rw[List.setIfInBounds_toArray,Nat.zero_add,vI H k QK _ (by rw[IntKind.wrap_u8,←vF H k _ rfl (Un _)];congr 3;show min (24- 8*(k%4)) 32=_;omega)]at h6
  iterate 2 refine a9 hF λ_ hF=>?_
  exact fZ (ih (k+1) _ _ ⟨QK,hb.trans (hp.below o_),hp.keep Ue o_,h6,hF.O⟩ o_)
 .have hk32:k=32:=by omega
  subst hk32;refine aN false hF ?_;rw[vJ,←eS]at TA;refine a9 hF λ_ hF=>?_;refine a9 hF (hy:=by intro o ho;exact jn (l:=de KS L) ho gx (by rw[eS];simp) rfl k_ k_ TA λj hj=>by simp[aZ,hj]) λ_ hF=>?_;refine a9 hF λ_ hF=>?_;exact aL hF ⟨rfl,hb⟩
def cD(ps:List ByteArray)(k:Nat):List UInt8:=(ps.take k).flatMap λp=>p.data.toList
theorem jF(ps:List ByteArray)(k:Nat)(h:k<ps.length):cD ps (k+1)=cD ps k++(ps[k]).data.toList:=by
 rw[cD,cD,List.take_succ_eq_append_getElem h,List.flatMap_append,List.flatMap_singleton]
theorem pU(ps:List ByteArray)(k:Nat):(cD ps k).length<=(cD ps ps.length).length:=by
 by_cases h:k<=ps.length
 .rw[cD,cD,List.take_length];have e:ps.flatMap (λp=>p.data.toList)=(ps.take k).flatMap (λp=>p.data.toList)++(ps.drop k).flatMap (λp=>p.data.toList):=by rw[←List.flatMap_append,List.take_append_drop]
  rw[e,List.length_append];omega
 .rw[cD,cD,List.take_of_length_le o_,List.take_length];exact Nat.le_refl _
theorem of_any{cK:Array Value}{tK T:TypeId}{zK zP:Nat×Nat}(hR:Qc prog p A)(KS:List Int)(ps:List ByteArray)(cap:Nat)(w:World)(b i:Nat)(cps:Array Value)(hb:w.heap[b]?=some (.cells cps T zP))(QR:∀k (h:k<ps.length),cps[i+k]?=some (.string ps[k]))(hK:w.heap[0]?=some (.cells cK tK zK))(Xm:CO KS cK)(QL:KS.length=64)
 (hlen:(cD ps ps.length).length<=576460752303423488) (hn:ps.length<=1152921504606846976):
 Cl (cX prog p A) 91 #[.slice (some ⟨b,i,none⟩) ps.length cap] w λe w'=>e=.returned (.string ⟨(de KS (cD ps ps.length)).toArray⟩)/\Bw w w':=by
 refine av (L:=[.slice (some ⟨b,i,none⟩) ps.length cap]) func91 rfl λcs a hF=>?_;have h0:0<w.heap.size:=(Array.getElem?_eq_some_iff.1 hK).1;have hbs:b<w.heap.size:=(Array.getElem?_eq_some_iff.1 hb).1;have hl:BR.length=73:=fX rfl s_;refine a9 hF λ_ hF=>?_;refine gJ hF func110 (Ie _) λw1 _ QM hF=>?_;refine Rn.am hF λg w2 _ hg QN Rh hz2 hF=>?_;refine Rn.st hF (hy:=by intro o ho;exact dZ (vs:=BR.toArray) ho gx gx Rh (by rw[List.size_toArray,hl];kernel_rfl) hl.symm (wx _ _ _)) λw3 _ hp hF=>?_;have SR:=QM.size;have TC:=QN.size;have hB:Bw w w3:=(ab QM SR QN).trans (hp.below o_);have hD:Dg w3 g 166 KS (cD ps 0) (List.replicate 64 0) (cD ps 0).length:=by rw[show cD ps 0=[]from by simp[cD]];exact⟨hp.here,by simp,by simp⟩
 have hz3:=hp.size
 iterate 3 refine a9 hF λ_ hF=>?_
 refine gD (λk a w'=>k<=ps.length/\Bw w w'/\(∃blk,Dg w' g 166 KS (cD ps k) blk (cD ps k).length)/\ay [(3,.pk g 0),(7,.slice (some ⟨b,i,none⟩) ps.length cap),(8,.int .i64 (ps.length:Int)),(9,.int .i64 (k:Int))] f91.ntmps [] a) (λk=>ps.length- k) 0 ⟨Nat.zero_le _,hB,⟨_,hD⟩,hF.O⟩ ?_;clear hF hD hB hp Rh QN QM hz3;intro k a w' ⟨hk,hB,⟨blk,hD⟩,hF⟩ ih;have hK':=(hB.block 0 h0).trans hK;refine a9 hF λ_ hF=>?_;by_cases QK:k<ps.length
 .refine aN true hF ?_;have Sk:=(hB.block b hbs).trans hb;have y0:=QR k QK;have TL:=jF ps k QK;have RS:=pU ps (k+1);rw[TL,List.length_append]at RS;generalize ps[k]=q at y0 TL RS;have hql:q.data.toList.length=q.size:=by rw[Array.length_toList];rfl
  iterate 4 refine a9 hF λ_ hF=>?_
  refine bf (R:=λ_ w2=>pW g w' w2/\∃RU,Dg w2 g 166 KS (cD ps (k+1)) RU (cD ps (k+1)).length) hF func111 ((sr KS (cD ps k) blk q w' g hD hK' Xm QL o_ o_).mono λe w2 ⟨h1,h2,RU,h3⟩=>⟨_,h1,h2,RU,by rw[TL,List.length_append,hql];exact h3⟩) λ_ w4 ⟨Ry,hD4⟩ _ hF=>?_
  iterate 2 refine a9 hF λ_ hF=>?_
  exact fZ (ih (k+1) _ _ ⟨QK,hB.trans (Ry.below o_ hB.size),hD4,hF.O⟩ o_)
 .have Y2:k=ps.length:=by omega
  subst Y2;refine aN false hF ?_;have hH:=cT KS (cD ps ps.length) ((cD ps ps.length).length/64);have Y8:=fX (n:=(cD ps ps.length).length) hH hD.len;refine a9 hF (hy:=by intro o ho;exact gi (vs:=eO (bW KS (cD ps ps.length) ((cD ps ps.length).length/64)) blk (cD ps ps.length).length) ho gx hD.cells rfl rfl (by rw[Y8];kernel_rfl) (λj u h=>by simpa using h)) λ_ hF=>?_;refine gJ hF func112 (GA hR KS (cD ps ps.length) blk w' hD.len hD.tail hK' Xm QL hlen) λw5 _ Rz hF=>?_;refine a9 hF λ_ hF=>?_;exact aL hF ⟨rfl,ab hB hB.size Rz⟩
end

section
variable{o:Oper}{y z:Operand}{t e s d:TypeId}{g:Nat}{c:Array Value}
theorem zy{α:Type}{s:Sem α}{v:α}{z:Nat×Nat}(hs:∀(w1:World) z1,w1.heap[g]?=some (.cells c e z1)->∀es,s.runT P w1 es=(.ok v w1,es))(hb:w.heap[g]?=some (.cells c e z))(hc:0<c.size):dA P w s:=λV RO wR es r' Rr hv hr hl ha hd=>by
 have hR:∃z1,wR.heap[g]?=some (.cells c e z1):=by
  have QK:=(Array.getElem?_eq_some_iff.1 hb).1;by_cases h1:V g
  .exact⟨z,(hv.mine g h1).symm.trans hb⟩
  .by_cases h2:RO g
   .obtain⟨c',e',z',q1,q2⟩:=hv.ro g h2 h1 QK;rw[q2]at hb;cases hb;exact⟨z',q1⟩
   .obtain⟨e',z',q⟩:=hv.dead g QK h1 h2;rw[q]at hb;cases hb;simp at hc
 obtain⟨z1,hR⟩:=hR;rw[hs w z hb es]at hr;rw[hs wR z1 hR es];exact(aG.pure (P:=P) v).wW V RO wR es r' Rr hv hr hl ha hd
theorem Iz{k:Nat}{z1:Nat×Nat}(QH:o.op=.convert s d x)(hx:ev x=.pk g i)(hs:P.underlying s=some (.pointer t'))(hd:P.underlying d=some .unsafePointer)(hz:(P.info? t').map (·.size)=some (k+1))(hi:i<c.size)(hg:w.heap[g]?=some (.cells c e z1))(es:Array Event):
 (execOp ev o).runT P w es=(.ok (.value (.pk g i)) w,es):=by
 have hsh:w.shape? g=some (e,c.size):=by unfold World.shape?;rw[hg]
 cases hq:P.info? t' with
 |none=>simp[hq]at hz
 |some q=>
  have V5:q.size=k+1:=by simpa[hq]using hz
  simp[-Sem.runT_eq,execOp,QH,hx,convert,Conv.unsafePointer,Conv.seenAt,viewAt,cellsIn,underlying,sizeOf,typeInfo,shape,getObj,bind,Sem.bind,Sem.runT,pure,hs,hd,hq,V5,hsh,program];rw[if_neg o_];rfl
theorem B_{k:Nat}{z1:Nat×Nat}(QH:o.op=.convert s d x)(hx:ev x=.pk g i)(hs:P.underlying s=some .unsafePointer)(hd:P.underlying d=some (.pointer t'))(hz:(P.info? t').map (·.size)=some (k+1))(hl:liesAt P P.depth e (c.size/P.cellsOf e) i t' 1=true)(hg:w.heap[g]?=some (.cells c e z1))(es:Array Event):
 (execOp ev o).runT P w es=(.ok (.value (.pk g i)) w,es):=by
 have hsh:w.shape? g=some (e,c.size):=by unfold World.shape?;rw[hg]
 cases hq:P.info? t' with
 |none=>simp[hq]at hz
 |some q=>
  have V5:q.size=k+1:=by simpa[hq]using hz
  simp[-Sem.runT_eq,execOp,QH,hx,convert,Conv.unsafePointer,Conv.seenAt,viewAt,variablesAt,underlying,sizeOf,typeInfo,shape,bind,Sem.bind,Sem.runT,pure,hs,hd,hq,V5,hsh,hl,program]
theorem Br{ad:Option Addr}(QH:o.op=.binOp .eql t x y s)(hx:ev x=.pointer ad)(hy:ev y=.pointer none)(hu:P.underlying t=some (.pointer t')):(execOp ev o).run P w=.ok (.value (.bool ad.isNone)) w:=by
 have h:(Op.equalIn Op.maxDepth t (.pointer ad) (.pointer none)).run P w=.ok ad.isNone w:=by
  rw[show Op.maxDepth=(Op.maxDepth- 1)+1 from by decide];cases ad<;>simp[Op.equalIn,run_underlying hu]
 simp[execOp,QH,hx,hy,eqGuard,binOp,Op.equal,h]
theorem EH{k:Nat}{a:Addr}(QH:o.op=.binOp .neq t x y s)(hx:ev x=.pointer (some a))(hy:ev y=.pointer (some a))(hu:P.underlying t=some (.pointer t'))(hz:(P.info? t').map (·.size)=some (k+1))(es:Array Event):
 (execOp ev o).runT P w es=(.ok (.value (.bool false)) w,es):=by
 cases hq:P.info? t' with
 |none=>simp[hq]at hz
 |some q=>
  have V5:q.size=k+1:=by simpa[hq]using hz
  have h:(Op.equalIn Op.maxDepth t (.pointer (some a)) (.pointer (some a))).runT P w es=(.ok true w,es):=by
   rw[show Op.maxDepth=(Op.maxDepth- 1)+1 from by decide];simp[-Sem.runT_eq,Op.equalIn,sameAddr,underlying,sizeOf,typeInfo,bind,Sem.bind,Sem.runT,pure,hu,hq,V5,program]
  simp[-Sem.runT_eq,execOp,QH,hx,hy,eqGuard,binOp,Op.equal];show((Op.equalIn Op.maxDepth t (.pointer (some a)) (.pointer (some a))).bind λa=>.pure (Next.value (Value.bool !a))).runT P w es=_;rw[Sem.runT_bind',h];rfl
end
section
variable{C:iJ}{b:Frame}{k:List Item}{g:Nat}{c:Array Value}{t:TypeId}{zz:Nat×Nat}
theorem FV(hF:ay F N ds a)(hg:w.heap[g]?=some (.cells c t zz))(hc:0<c.size)(next:∀a',ay ((d,v)::F) N ds a'->Rn C Goal (b.atR a' (.inRegion ops rest::k')) cs w)(h0:eI 6 (b.atR a k)=.inRegion ops (m::rest)::k':=by rfl)
 (h:(ops[m]?).map (λo=>(o.dst,o.op,o.guard))=some (some d,p,gd):=by rfl) (hy:∀o:Oper,o.op=p->∀(w1:World) z1,w1.heap[g]?=some (.cells c t z1)->∀es,(execOp a.eval o).runT C.P w1 es=(.ok (.value v) w1,es)) (hw:gV ops F gd=some true:=by rfl) (hd:d<N:=by decide) (QT:nd p=true:=by rfl):Rn C Goal (b.atR a k) cs w:=by
 refine Rn.gr ?_ h0;obtain⟨o,ho,e1,e2,e3⟩:=kC h;have hr:=hy o e2 w zz hg #[];rw[Sem.runT_eq]at hr;refine AJ ho (fV hF e3 hw) (ra e2 QT) (zy (hy o e2) hg hc) (Prod.mk.inj hr).1 (λ_=>rfl) rfl ?_;rw[e1];exact next _ (hF.put hd v)
theorem rR(hF:ay F N ds a)(next:∀a',ay ((d,v)::F) N ds a'->Rn C Goal (b.atR a' (.inRegion ops rest::k')) cs w)(h0:eI 6 (b.atR a k)=.inRegion ops (m::rest)::k':=by rfl)
 (h:(ops[m]?).map (λo=>(o.dst,o.op,o.guard))=some (some d,p,gd):=by rfl) (hy:∀o:Oper,o.op=p->(execOp a.eval o).run C.P w=.ok (.value v) w/\aG C.P (execOp a.eval o)) (hw:gV ops F gd=some true:=by rfl) (hd:d<N:=by decide) (QT:nd p=true:=by rfl):Rn C Goal (b.atR a k) cs w:=by
 refine Rn.gr ?_ h0;obtain⟨o,ho,e1,e2,e3⟩:=kC h;refine oi ho (fV hF e3 hw) (ra e2 QT) ⟨(hy o e2).1,(hy o e2).2,λ_=>rfl,rfl⟩ ?_;rw[e1];exact next _ (hF.put hd v)
theorem wq{o:Oper}{xs:Array Operand}{ats:Array TypeId}{s:Sem Value}(QH:o.op=.call {callee:=.value (.func f),args:=xs,argTypes:=ats})(ha:xs.map ev=args)(hf:P.funcs[f]?=some fn)(QV:(fn.name== "runtime.NumGoroutine")=false)(hb:fn.body.isNone=true)(he:ev (.func f)=.func (.func f) #[] #[])(h1:Extern.findNext fn=none)(h2:(Extern.find fn).map (λG=>G args)=some s):
 (∀w es,(execOp ev o).runT P w es=(Sem.mark (.extern f) (s.bind λv=>.pure (.value v))).runT P w es):=by
 have e:execOp ev o=callFunc f args:=by
  simp only[execOp,QH,resolve,Deferred.ofValue,he,ha];simp[invoke,bind,Sem.bind,pure]
 cases hq:Extern.find fn with
 |none=>rw[hq]at h2;cases h2
 |some G=>
  have hs:G args=s:=by rw[hq]at h2;exact Option.some.inj h2
  intro w es;rw[e];have h3:¬fn.name= "runtime.NumGoroutine" :=by simpa using QV
  have h4:fn.body=none:=by simpa using hb
  simp[-Sem.runT_eq,callFunc,bind,Sem.bind,Sem.runT,pure,program,hf,h3,h4,h1,hq,hs,mark]
theorem Fi{o:Oper}{xs:Array Operand}{ats:Array TypeId}(QH:o.op=.call {callee:=.value (.func f),args:=xs,argTypes:=ats})(ha:xs.map ev=args)(hf:P.funcs[f]?=some fn)(QV:(fn.name== "runtime.NumGoroutine")=false)(hb:fn.body.isNone=true)(he:ev (.func f)=.func (.func f) #[] #[])(h1:Extern.findNext fn=none)(h2:(Extern.find fn).map (λG=>G args)=some (pure v)):
 (execOp ev o).run P w=.ok (.value v) w/\aG P (execOp ev o):=by
 have h:=wq QH ha hf QV hb he h1 h2;refine⟨?_,.eqv h (.mark rfl (.pure _))⟩;have:=congrArg Prod.fst (h w #[]);rw[Sem.runT_fst,Sem.runT_fst]at this;exact this
theorem Fa(ps:Array TypeId)(t:TypeId)(n:Int):aG P (Extern.BytealgMakeNoZero.makeNoZero ps #[t] #[.int .i64 n]):=by
 refine(bj t).bind λu=>?_;have h:∀elem,aG P (do
  let cap←choose (Question.appendCap n.toNat 0 elem)
  askRoom cap
  let bytes←choose (Question.extern "internal/bytealg.MakeNoZero.bytes" 0)
  let a←newRow elem (Extern.BytealgMakeNoZero.digits cap bytes #[])
  pure (Value.slice (some a) n.toNat cap)):=λelem=>.choose λc=>(nm c).bind λ_=>.choose λ_=>(fW _ _).bind λ_=>.pure _
 cases u<;>first|exact .halt _|exact cL ((jT _).bind λ_=>h _) (h _)
end
section
variable{C:iJ}{W:World}{Q:Act->WP}{T:List Ka}{M:List (Nat×WP)}{S:Value->WP}
theorem Pq(st:NV S)(next:∀u,Gw C ops W N n df Q T (m+1) ((d,u)::F) ((d,S u)::M))(h:Is ops m d p gd:=by rfl)(hw:gV ops F gd=some true:=by rfl)(RQ:rU ops (kD ops n m) gd=true:=by kernel_rfl)(y:∀(o:Oper) (a:Act) (w:World),o.op=p->At ops W n m F M a w->aG C.P (execOp a.eval o)/\∃u w',(execOp a.eval o).run C.P w=.ok (.value u) w'/\S u w'/\Bw w w'):Gw C ops W N n df Q (.inr S::T) m F M:=
 let ⟨e,h⟩:=h.sp (S:=S) hw RQ λo a w ho hA=>.inl ⟨(y o a w ho hA).1,λw1 hp=>let ⟨u,w',q1,q2,q3⟩:=(y o a w1 ho (hA.up hp.below)).2;⟨u,w',q1,q2,ab hp.below hp.below.size q3⟩⟩
 ⟨st,h,e▸next⟩
end

theorem yj(n:Nat)(h:n<=64):bits .and .u64 (n:Int) 4294967295=(n:Int):=by
 have:∀k:Fin 65,bits .and .u64 (k.val:Int) 4294967295=(k.val:Int):=by decide+kernel
 exact this ⟨n,by omega⟩
theorem rv(n:Nat)(h:n<=64):(n:Int)/2^min (32:Int).toNat IntKind.u64.bits=((0:Nat):Int):=by
 rw[show(2:Int)^min (32:Int).toNat IntKind.u64.bits=4294967296 from rfl];omega
section
variable{p:Bool}{A:Ax}
theorem BS(n:Nat)(w:World)(hn:n<=64):Cl (cX prog p A) 186 #[.int .u64 ((1:Nat):Int),.int .u64 n] w λe w'=>e=.returned (.tuple #[.int .u64 ((0:Nat):Int),.int .u64 n])/\w'=w:=by
 refine lD (L:=[.int .u64 ((1:Nat):Int),.int .u64 n]) func186 rfl λcs a hF=>?_
 iterate 4 refine a9 hF λ_ hF=>?_
 rw[yj 1 o_]at hF
 iterate 3 refine a9 hF λ_ hF=>?_
 rw[rv 1 o_]at hF
 iterate 4 refine a9 hF λ_ hF=>?_
 rw[yj n hn]at hF
 iterate 3 refine a9 hF λ_ hF=>?_
 rw[rv n hn]at hF
 iterate 9 refine a9 hF λ_ hF=>?_
 rw[rv (1*n) o_]at hF
 iterate 4 refine a9 hF λ_ hF=>?_
 rw[yj (0*n+0) o_]at hF
 iterate 3 refine a9 hF λ_ hF=>?_
 rw[rv (0*n+0) o_]at hF
 iterate 14 refine a9 hF λ_ hF=>?_
 rw[rv (0*n+0+1*0) o_]at hF
 iterate 6 refine a9 hF λ_ hF=>?_
 refine dW (R:=λv x w'=>Ending.returned (.tuple #[v,x])=.returned (.tuple #[.int .u64 ((0:Nat):Int),.int .u64 n])/\w'=w) hF ?_;exact⟨by rw[Nat.one_mul],rfl⟩
theorem Ig(n:Nat)(w:World)(hn:n<=64):Cl (cX prog p A) 164 #[.int .u64 ((1:Nat):Int),.int .u64 n] w λe w'=>e=.returned (.tuple #[.int .u64 ((0:Nat):Int),.int .u64 n])/\w'=w:=by
 refine lD (L:=[.int .u64 ((1:Nat):Int),.int .u64 n]) func164 rfl λcs a hF=>?_
 iterate 4 refine a9 hF λ_ hF=>?_
 refine fY hF func186 (BS n _ hn) λ_ hF=>?_
 iterate 9 refine a9 hF λ_ hF=>?_
 refine dW (R:=λv x w'=>Ending.returned (.tuple #[v,x])=.returned (.tuple #[.int .u64 ((0:Nat):Int),.int .u64 n])/\w'=w) hF ?_;exact⟨rfl,rfl⟩
theorem uj{T:TypeId}{ad sa:Option Addr}{l c:Nat}(bb:Nat)(w:World)(hb:w.heap[bb]?=some (.cells #[.pointer ad,.slice sa l c] T)):Cl (cX prog p A) 166 #[.pk bb 0] w λe w'=>e=.returned (.int .i64 l)/\w'=w:=by
 refine av (L:=[.pk bb 0]) func166 rfl λcs a hF=>?_
 iterate 7 refine a9 hF λ_ hF=>?_
 exact aL hF ⟨rfl,rfl⟩
theorem A9(h:ev x=v):#[x].map ev=#[v]:=by simp[h]
theorem jh{ad:Option Addr}(bb:Nat)(w:World)(hb:w.heap[bb]?=some (.cells #[.pointer ad,v] 171))(had:ad=none\/ad=some ⟨bb,0,none⟩):Cl (cX prog p A) 134 #[.pk bb 0] w λe w'=>e=.returned (.tuple #[])/\CV w w' bb #[.pk bb 0,v] 171:=by
 refine lE (L:=[.pk bb 0]) func134 rfl λcs a hF=>?_
 iterate 4 refine a9 hF λ_ hF=>?_
 refine a9 hF (hy:=by intro o ho;exact Br ho gx gx rfl) λ_ hF=>?_;rcases had with rfl|rfl
 .refine aN true hF ?_ (hq:=rfl)
  iterate 2 refine a9 hF λ_ hF=>?_
  refine FV hF hb s_ (hy:=by intro o ho w1 z1 hg es;exact Iz ho gx rfl rfl rfl s_ hg es) λ_ hF=>?_;refine rR hF (hy:=by intro o ho;exact Fi (v:=.pk bb 0) ho (A9 gx) func167 k_ k_ rfl k_ k_) λ_ hF=>?_;refine FV hF hb s_ (hy:=by intro o ho w1 z1 hg es;exact B_ ho gx rfl rfl rfl k_ hg es) λ_ hF=>?_
  iterate 2 refine a9 hF λ_ hF=>?_
  refine Rn.st hF λw2 _ hp hF=>?_;refine tr hF ?_;exact⟨rfl,hp⟩
 .refine aN false hF ?_ (hq:=rfl)
  iterate 5 refine a9 hF λ_ hF=>?_
  refine FV hF hb s_ (hy:=by intro o ho w1 z1 hg es;exact EH ho gx gx rfl rfl es) λ_ hF=>?_;refine aN false hF ?_ (hq:=rfl);refine tr hF ?_;exact⟨rfl,rfl,rfl,rfl,rfl,hb,λ_ _=>rfl⟩
end

section
variable{o:Oper}{y z:Operand}{t e:TypeId}{g:Nat}{c:Array Value}
theorem vp{l:Nat}{ad:Option Addr}(QH:o.op=.call {callee:=.builtin .cap,args:=#[x],argTypes:=#[t]})(hx:ev x=.slice ad l cp)(hu:P.underlying t=some (.slice e)):(execOp ev o).run P w=.ok (.value (.int .i64 (cp:Int))) w:=by
 simp[execOp,QH,resolve,hx,invoke,builtin,Builtin.cap_,run_underlying hu,goInt]
theorem pI{l:Nat}(QH:o.op=.slice t x none (some y) none)(hx:ev x=.slice (some ⟨g,i,none⟩) l cp)(hy:ev y=.int .i64 (n:Int))(hu:P.underlying t=some (.slice e))(hs:(P.info? e).map (·.size)=some 1)(h:n<=cp):(execOp ev o).run P w=.ok (.value (.slice (some ⟨g,i,none⟩) n cp)) w:=by
 cases hq:P.info? e with
 |none=>simp[hq]at hs
 |some d=>simp[execOp,QH,hx,hy,Instr.sliceAt,Instr.slice,Instr.sliceBounds,run_underlying hu,Instr.sliceBound,asIntOf,h,sizeOf,typeInfo,hq,Addr.add]
theorem Bt{t2:TypeId}{l:Nat}(QH:o.op=.call {callee:=.builtin .copy,args:=#[x,y],argTypes:=#[t,t2]})(hx:ev x=.slice (some ad) l cp)(hy:ev y=.slice none 0 0)(hu:P.underlying t=some (.slice e))(hs:((P.info? e).map (·.size)).isSome=true):(execOp ev o).run P w=.ok (.value (.int .i64 0)) w:=by
 have h:=run_copy_nil (P:=P) w t t2 o.type e ad l cp hu hs;simp[execOp,QH,resolve,hx,hy,invoke,builtin,h,goInt]
end
def Kh(W:World)(l n:Nat)(u:Value)(w:World):Prop:=∃g cs,u=.sk g l cs.size/\W.heap.size<=g/\w.heap[g]?=some (.cells cs 5)/\n<=cs.size
theorem Kh.st{W:World}{l:Nat}:NV (Kh W l n):=λ_ _ _ ⟨g,cs,h1,h2,h3,h4⟩ hb=>⟨g,cs,h1,h2,bk hb h3,h4⟩
section
variable{p:Bool}{A:Ax}
theorem EW{q:Option Addr}(bb n:Nat)(w:World)(hb:w.heap[bb]?=some (.cells #[.pointer q,.slice none 0 0] 171))(hn:n<=140737488355328):Cl (cX prog p A) 135 #[.pk bb 0,.int .i64 n] w λe w'=>e=.returned (.tuple #[])/\pW bb w w'/\∃g cs,w'.heap[bb]?=some (.cells #[.pointer q,.sk g 0 cs.size] 171)/\w.heap.size<=g/\w'.heap[g]?=some (.cells cs 5)/\n<=cs.size:=by
 refine lE (L:=[.pk bb 0,.int .i64 n]) func135 rfl λcs a hF=>?_;refine oZ hF ?_
 iterate 4 refine Gx.q ?_
 refine Gx.q (y:=by intro o a w ho z;exact vp ho gx rfl) ?_
 iterate 3 refine Gx.q ?_
 refine Gx.t [.inr (Kh w n n),.inl (.pk bb 0),.inl (.pk bb 0),.inl (.pk bb (0+(0+1))),.inl (.slice none 0 0),.inl (.int .i64 ((0:Nat):Int)),.inr (Kh w 0 n),.inr (Kh w 0 n)] ?_;refine Pq Kh.st (λu=>?_) (y:=by
  intro o a w1 ho z;have he:=wq (P:=prog) (s:=Extern.BytealgMakeNoZero.makeNoZero #[3] #[83] #[.int .i64 ((2*0+n:Nat):Int)]) ho (A9 gx) func168 k_ k_ rfl k_ k_;refine⟨.eqv he (.mark rfl ((Fa _ _ _).bind λ_=>.pure _)),?_⟩;obtain⟨cs,h1,h2,_⟩:=Go.Lib.run_makeNoZero_cap (P:=prog) w1 #[3] 83 5 k_ (2*0+n) o_;have:=congrArg Prod.fst (he w1 #[]);rw[Sem.runT_fst,Sem.runT_fst]at this;refine⟨.sk w1.heap.size (2*0+n) cs.size,w1.drew.drew.alloc (.cells cs 5),this.trans ?_,⟨w1.heap.size,cs,by rw[Nat.mul_zero,Nat.zero_add],z.b.size,aK _ _,by omega⟩,?_⟩
  .show(Extern.BytealgMakeNoZero.makeNoZero #[3] #[83] #[.int .i64 ((2*0+n:Nat):Int)]>>=λv=>pure (Next.value v)).run prog w1=_;rw[Sem.run_bind,h1];rfl
  .have hh:=aD w1.drew.drew (.cells cs 5);exact⟨hh.os,hh.tape,hh.output,hh.size,hh.block⟩)
 iterate 5 refine Gw.q ?_
 refine uP Kh.st (λu2=>?_) (y:=by
  intro o a w1 ho z;obtain⟨g,cs,h1,h2,h3,h4⟩:=(z.m w1 (Below.refl _ _)).1 k_;subst h1;exact⟨_,_,pI ho gx gx rfl k_ (Nat.zero_le _),⟨g,cs,rfl,h2,h3,h4⟩,Below.refl _ _⟩)
 refine uP Kh.st (λu3=>?_) (y:=by
  intro o a w1 ho z;exact⟨_,_,tZ ho gx,(z.m w1 (Below.refl _ _)).1 k_,Below.refl _ _⟩)
 refine Gw.e λa w1 hF QM hM=>?_;obtain⟨g,Cq,h1,h2,h3,h4⟩:=hM.1 rfl;subst h1;have Sj:bb<w.heap.size:=(Array.getElem?_eq_some_iff.1 hb).1
 replace hb:=bk QM hb
 iterate 5 refine a9 hF λ_ hF=>?_
 refine a9 hF (hy:=by intro o ho;exact Bt ho gx gx rfl k_) λ_ hF=>?_
 iterate 4 refine a9 hF λ_ hF=>?_
 refine Rn.st hF λw2 _ hp hF=>?_;refine tr hF ?_;exact⟨rfl,(lG QM).trans hp.but,g,Cq,hp.here,h2,hp.keep h3 o_,h4⟩
theorem xb{q:Option Addr}(bb n:Nat)(w:World)(hb:w.heap[bb]?=some (.cells #[.pointer q,.slice none 0 0] 171))(hq:q=none\/q=some ⟨bb,0,none⟩)(hn:n<=140737488355328)(h0:0<n):Cl (cX prog p A) 113 #[.pk bb 0,.int .i64 n] w λe w'=>e=.returned (.tuple #[])/\pW bb w w'/\∃g cs,w'.heap[bb]?=some (.cells #[.pk bb 0,.sk g 0 cs.size] 171)/\w.heap.size<=g/\w'.heap[g]?=some (.cells cs 5)/\n<=cs.size:=by
 refine lE (L:=[.pk bb 0,.int .i64 n]) func113 rfl λcs a hF=>?_;refine a9 hF λ_ hF=>?_;refine bf (R:=λ_ w'=>CV w w' bb #[.pk bb 0,.slice none 0 0] 171) hF func134 ((jh bb w hb hq).mono λe w' ⟨h1,h2⟩=>⟨_,h1,h2⟩) λ_ w1 hp _ hF=>?_;have h1:=hp.here
 iterate 2 refine a9 hF λ_ hF=>?_
 refine aN false hF ?_;refine oZ hF ?_
 iterate 4 refine Gx.q ?_
 refine Gx.q (y:=by intro o a w ho z;exact vp ho gx rfl) ?_
 iterate 8 refine Gx.q ?_
 refine Gx.e λ_ w2 hF QN _=>?_;refine aN true hF ?_
 iterate 2 refine a9 hF λ_ hF=>?_
 have h2:=bk QN h1;have hs:=hp.size;have TC:=QN.size;refine bf (R:=λ_ w'=>pW bb w2 w'/\∃g cs,w'.heap[bb]?=some (.cells #[.pk bb 0,.sk g 0 cs.size] 171)/\w2.heap.size<=g/\w'.heap[g]?=some (.cells cs 5)/\n<=cs.size) hF func135 ((EW bb n w2 h2 hn).mono λe w' ⟨h1,h2⟩=>⟨_,h1,h2⟩) λ_ w3 ⟨hB,g,Cq,q1,q2,q3,q4⟩ _ hF=>?_;refine tr hF ?_;exact⟨rfl,(hp.but.trans (lG QN)).trans hB,g,Cq,q1,by omega,q3,q4⟩
end
section
variable{C:iJ}{b:Frame}{k:List Item}{g:Nat}{c':Array Value}
theorem Rn.sw(hF:ay F N ds a)(next:∀a',ay ((d,v)::F) N ds a'->Rn C Goal (b.atR a' (.inRegion ops rest::k')) cs (w.setRow g c'))(h0:eI 6 (b.atR a k)=.inRegion ops (m::rest)::k':=by rfl)
 (h:(ops[m]?).map (λo=>(o.dst,o.op,o.guard))=some (some d,p,gd):=by rfl) (hy:∀o:Oper,o.op=p->(execOp a.eval o).run C.P w=.ok (.value v) (w.setRow g c')) (hw:gV ops F gd=some true:=by rfl) (hd:d<N:=by decide) (QT:nd p=true:=by rfl) (ok:kE C.P a.eval p:=by exact nG):Rn C Goal (b.atR a k) cs w:=
 af hF hy next h0 h hw hd QT ok (λ_=>by simp[World.setRow]) rfl
end
structure Nz (b g:Nat) (w w':World):Prop where
 os:w'.os=w.os
 tape:w'.tape=w.tape
 output:w'.output=w.output
 size:w'.heap.size=w.heap.size
 block:∀k,k≠b->k≠g->w'.heap[k]?=w.heap[k]?
section
variable{p:Bool}{A:Ax}
theorem GV{o:Oper}{y:Operand}{t u e:TypeId}{g l:Nat}{fz:Nat×Nat}{s:ByteArray}(QH:o.op=.call {callee:=.builtin .append,args:=#[x,y],argTypes:=#[t,u]})(hx:ev x=.sk g l cp)(hy:ev y=.string s)(ht:P.underlying t=some (.slice e))(hu:P.underlying u=some .string)(hi:(P.info? e).map (·.size)=some 1)(hg:w.heap[g]?=some (.cells cur e fz))(hfz:fz.2<=l)(h1:l+s.size<=cp)(h2:l+s.size<=cur.size):
 (execOp ev o).run P w=.ok (.value (.sk g (l+s.size) cp)) (w.setRow g (cur.toList.take l++Go.Lib.strCells s++cur.toList.drop (l+s.size)).toArray):=by
 cases hq:P.info? e with
 |none=>simp[hq]at hi
 |some i=>
  have h:=Go.Lib.run_append_room_stringF (P:=P) w t u o.type e i ht hu hq (by simpa[hq]using hi) g l cp cur fz hg hfz s h1 h2;simp[execOp,QH,resolve,hx,hy,invoke,builtin,h]
theorem qc{l:Nat}{cs:Array Value}{fz:Nat×Nat}(bb g:Nat)(s:ByteArray)(w:World)(hb:w.heap[bb]?=some (.cells #[.pk bb 0,.sk g l cs.size] 171))(hg:w.heap[g]?=some (.cells cs 5 fz))(QQ:bb≠g)(hfz:fz.2<=l)(hl:l+s.size<=cs.size):
 Cl (cX prog p A) 114 #[.pk bb 0,.string s] w λe w'=>e=.returned (.tuple #[.int .i64 s.size,.nilIface])/\Nz bb g w w'/\w'.heap[bb]?=some (.cells #[.pk bb 0,.sk g (l+s.size) cs.size] 171)/\w'.heap[g]?=some (.cells (cs.toList.take l++Go.Lib.strCells s++cs.toList.drop (l+s.size)).toArray 5 fz):=by
 refine lD (L:=[.pk bb 0,.string s]) func114 rfl λcs' a hF=>?_
 iterate 3 refine a9 hF λ_ hF=>?_
 refine bf (R:=λ_ w'=>CV w w' bb #[.pk bb 0,.sk g l cs.size] 171) hF func134 ((jh bb w hb (.inr rfl)).mono λe w' ⟨h1,h2⟩=>⟨_,h1,h2⟩) λ_ w1 hp _ hF=>?_;have h1:=hp.here;have Y6:=hp.keep hg (Ne.symm QQ)
 iterate 6 refine a9 hF λ_ hF=>?_
 refine Rn.sw hF (hy:=by intro o ho;exact GV ho gx gx rfl k_ k_ Y6 hfz hl hl) λ_ hF=>?_;have h2:(w1.setRow g (cs.toList.take l++Go.Lib.strCells s++cs.toList.drop (l+s.size)).toArray).heap[bb]?=_:=(setRow_other w1 g bb _ QQ).trans h1;have h3:=setRow_heap w1 g cs (cs.toList.take l++Go.Lib.strCells s++cs.toList.drop (l+s.size)).toArray _ fz Y6;have h4:=λk (hk:k≠g)=>setRow_other w1 g k (cs.toList.take l++Go.Lib.strCells s++cs.toList.drop (l+s.size)).toArray hk;have h5:(w1.setRow g (cs.toList.take l++Go.Lib.strCells s++cs.toList.drop (l+s.size)).toArray).heap.size=w1.heap.size:=by simp[World.setRow]
 iterate 2 refine a9 hF λ_ hF=>?_
 refine Rn.st hF λw2 _ WI hF=>?_
 iterate 4 refine a9 hF λ_ hF=>?_
 refine dW (R:=λv x w'=>Ending.returned (.tuple #[v,x])=.returned (.tuple #[.int .i64 s.size,.nilIface])/\Nz bb g w w'/\w'.heap[bb]?=some (.cells #[.pk bb 0,.sk g (l+s.size) cs.size] 171)/\w'.heap[g]?=some (.cells (cs.toList.take l++Go.Lib.strCells s++cs.toList.drop (l+s.size)).toArray 5 fz)) hF ?_;exact⟨rfl,⟨WI.os.trans hp.os,WI.tape.trans hp.tape,WI.output.trans hp.output,WI.size.trans (h5.trans hp.size),λk q1 q2=>(WI.there k q1).trans ((h4 k q2).trans (hp.there k q1))⟩,WI.here,(WI.there g (Ne.symm QQ)).trans h3⟩
end

section
variable{C:iJ}{W:World}{Q:Act->WP}{M:List (Nat×WP)}
theorem Pp(next:Gx C ops W N n df Q (m+1) ((d,v)::F) M)(h:Is ops m d p gd:=by rfl)(hw:gV ops F gd=some true:=by rfl)(RQ:rU ops (kD ops n m) gd=true:=by kernel_rfl)(y:∀(o:Oper) (a:Act) (w:World),o.op=p->At ops W n m F M a w->∀w1 es,(execOp a.eval o).runT C.P w1 es=(.ok (.value v) w1,es)):Gx C ops W N n df Q m F M:=
 let ⟨_,t⟩:=next
 ⟨_,h.inl hw RQ (λo a w ho z=>.inl ⟨.eqv (s':=.pure (.value v)) (y o a w ho z) (.pure _),λw1 hp=>⟨v,w1,by have:=y o a w ho z w1 #[];rw[Sem.runT_eq]at this;exact(Prod.mk.inj this).1,rfl,hp.below⟩⟩) t⟩
end
theorem IA{o:Oper}{t:TypeId}{a:Addr}{l c:Nat}(QH:o.op=.call {callee:=.builtin .unsafeSliceData,args:=#[x],argTypes:=#[t]})(hx:ev x=.slice (some a) l c)(hc:c≠0)(es:Array Event):(execOp ev o).runT P w es=(.ok (.value (.pointer (some a))) w,es):=by
 have e:∀ts ty,Builtin.unsafeSliceData_ ts ty #[.slice (some a) l c]=pure (.pointer (some a)):=λ_ _=>if_pos hc;simp[-Sem.runT_eq,execOp,QH,resolve,hx,invoke,builtin,e,bind,Sem.bind,Sem.runT,pure]

theorem dA.bind{α β:Type}{s:Sem α}{k:α->Sem β}{v:α}(hs:dA P w s)(hr:s.run P w=.ok v w1)(hz:w1.heap.size=w.heap.size)(hq:w1.drawn=w.drawn)(h:dA P w1 (k v)):dA P w (s>>=k):=λV RO wR es r' Rr hv hr' hl ha hd=>by
 have e1:s.runT P w es=(.ok v w1,(s.runT P w es).2):=by rw[←hr,←Sem.runT_fst P s w es]
 obtain⟨wR1,q1,q2⟩:=hs V RO wR es _ _ hv e1 rfl (.inr hz) (.inr hq);have q2:pe V RO w w1 wR wR1 es (s.runT P w es).2:=q2;have RH:=q2.vw;rw[dE _ hz]at RH;have m1:=q2.more;have m2:=q2.drew;have TG:(k v).runT P w1 (s.runT P w es).2=(r',Rr):=by
  rw[←hr'];show _=(s.bind k).runT P w es;rw[Sem.runT_bind',e1]
 obtain⟨Rc,q3,q4⟩:=h V RO wR1 _ r' Rr RH TG hl (ha.imp o_ o_) (hd.imp o_ o_);refine⟨Rc,?_,q2.trans (.inr hz) (by rw[dE _ hz];exact q4)⟩;show(s.bind k).runT P wR es=_;rw[Sem.runT_bind',q1];exact q3
theorem dA.eqv{α:Type}{s s':Sem α}(h:∀w es,s.runT P w es=s'.runT P w es)(h':dA P w s'):dA P w s:=λV RO wR es r' Rr hv hr hl ha hd=>by
 rw[h]at hr⊢;exact h' V RO wR es r' Rr hv hr hl ha hd
theorem kJ:∀(n:Nat) (a:Addr) (acc:ByteArray),aG P (loadBytes a acc n)
 |0,_,_=>.pure _
 |n+1,a,acc=>by
  refine .load λv=>?_;show aG P (match v with
   |Value.int IntKind.u8 b=>loadBytes (a.add 1) (acc.push b.toNat.toUInt8) n
   |_=>stuck "a byte variable that holds no byte")
  split
  .exact kJ n _ _
  .exact .halt _
theorem Aw{o:Oper}{y:Operand}{pt it e:TypeId}{g:Nat}{c:Array Value}{z:Nat×Nat}{l:List UInt8}(QH:o.op=.call {callee:=.builtin .unsafeString,args:=#[x,y],argTypes:=#[pt,it]})(hx:ev x=.pk g 0)(hy:ev y=.int .i64 (l.length:Int))(hp:P.underlying pt=some (.pointer e))(hc:P.cellsOf e=1)(hg:w.heap[g]?=some (.cells c e z))(hz:z≠(0,c.size))(h0:l≠[])(hn:l.length<=c.size)(Wr:l.length<=9223372036854775807)(QR:∀(j:Nat) (x:UInt8),l[j]?=some x->c[j]?=some (Value.int .u8 x.toNat)):
 (execOp ev o).run P w=.ok (.value (.string ⟨l.toArray⟩)) (w.freeze ⟨g,0,none⟩ l.length)/\dA P w (execOp ev o):=by
 have hsh:w.shape? g=some (e,c.size):=by unfold World.shape?;rw[hg]
 have hl:0<l.length:=List.length_pos_iff.2 h0;have VX:∀j x,l[j]?=some x->w.cell? ((⟨g,0,none⟩:Addr).add j)=some (.int .u8 x.toNat):=λj x hj=>by
  have:=QR j x hj;rw[Addr.add];unfold World.cell?;by_cases h:j=0
  .subst h;simp[hg,this]
  .simp[hg,this,h]
 have h:=Go.Lib.run_unsafeString_row (P:=P) w pt it o.type e hp hc g c.size hsh l h0 hn Wr VX;refine⟨by simp[execOp,QH,resolve,hx,hy,invoke,builtin,h],?_⟩;have Xe:=Go.Lib.run_loadBytes (P:=P) w l ⟨g,0,none⟩ .empty VX;have SB:=Go.Lib.liesAt_bytes (P:=P) hc (c.size/P.cellsOf e) l.length (by rw[hc];simpa using hn);have hmax:IntKind.i64.max=9223372036854775807:=rfl;have h63':¬(9223372036854775807:Int)<(l.length:Int):=by omega
 have WK:¬(l.length:Int)<0:=by omega
 refine dA.eqv (s':=.shape g λq=>((match q with|some (e',cells)=>(pure (liesAt P P.depth e' (cells/P.cellsOf e') 0 e l.length):Sem Bool)|none=>pure false)>>=λok=>if ok then(loadBytes ⟨g,0,none⟩ .empty l.length>>=λs=>.freeze ⟨g,0,none⟩ l.length (.pure (.string s)))else unsupported (.unsafePointer "String: not so many bytes at ptr"))>>=λv=>pure (Next.value v)) (λw es=>?_) ?_
 .have e:execOp ev o=(Builtin.unsafeString_ #[pt,it] o.type #[.pk g 0,.int .i64 (l.length:Int)]).bind λv=>.pure (.value v):=by
   simp only[execOp,QH,resolve,hx,hy,List.map_toArray,List.map_cons,List.map_nil,bind,pure,Sem.bind,invoke,builtin]
  rw[e];obtain⟨a,b,c',e2⟩:∃(a b:Sem PUnit) (c:Sem Value),Builtin.unsafeString_ #[pt,it] o.type #[.pk g 0,.int .i64 (l.length:Int)]=(do
   if (l.length:Int)<0 then a
   if (l.length:Int)>IntKind.i64.max then b
   if (l.length:Int)=0 then c
   else if←variablesAt ⟨g,0,none⟩ (←elemOf pt) (l.length:Int).toNat then do
    let s←loadBytes ⟨g,0,none⟩ .empty (l.length:Int).toNat
    freeze ⟨g,0,none⟩ (l.length:Int).toNat
    pure (.string s)
   else unsupported (.unsafePointer "String: not so many bytes at ptr")):=⟨pure (),_,_,rfl⟩
  rw[e2];simp[-Sem.runT_eq,h0,hmax,h63',WK,variablesAt,shape,elemOf,underlying,hp,bind,Sem.bind,Sem.runT,pure,program,freeze];cases w.shape? g<;>rfl
 .refine dA.shape hg o_ ?_;have sz:∀w:World,(w.freeze ⟨g,0,none⟩ l.length).heap.size=w.heap.size/\(w.freeze ⟨g,0,none⟩ l.length).drawn=w.drawn:=λw=>by unfold World.freeze;split<;>simp
  refine dA.bind (v:=.string ⟨l.toArray⟩) (w1:=w.freeze ⟨g,0,none⟩ l.length) ?_ ?_ (sz w).1 (sz w).2 (aG.wW (.pure _))
  .show dA P w (if liesAt P P.depth e (c.size/P.cellsOf e) 0 e l.length then _ else _);rw[if_pos SB];exact dA.bind (kJ _ _ _).wW Xe rfl rfl (dA.freeze hg o_ hz (aG.wW (.pure _)))
  .show Sem.run P (if liesAt P P.depth e (c.size/P.cellsOf e) 0 e l.length then _ else _) w=_;rw[if_pos SB,Sem.run_bind,Xe];simp[Result.andThen,Sem.run]
section
variable{C:iJ}{b:Frame}{k:List Item}
theorem Kb(hF:ay F N ds a)(hz:w'.heap.size=w.heap.size)(hq:w'.drawn=w.drawn)(next:∀a',ay ((d,v)::F) N ds a'->Rn C Goal (b.atR a' (.inRegion ops rest::k')) cs w')(h0:eI 6 (b.atR a k)=.inRegion ops (m::rest)::k':=by rfl)
 (h:(ops[m]?).map (λo=>(o.dst,o.op,o.guard))=some (some d,p,gd):=by rfl) (hy:∀o:Oper,o.op=p->(execOp a.eval o).run C.P w=.ok (.value v) w'/\dA C.P w (execOp a.eval o)) (hw:gV ops F gd=some true:=by rfl) (hd:d<N:=by decide) (QT:nd p=true:=by rfl):Rn C Goal (b.atR a k) cs w:=by
 refine Rn.gr ?_ h0;obtain⟨o,ho,e1,e2,e3⟩:=kC h;refine AJ ho (fV hF e3 hw) (ra e2 QT) (hy o e2).2 (hy o e2).1 (λ_=>hz) hq ?_;rw[e1];exact next _ (hF.put hd v)
end
theorem K3{g l:Nat}{c:Array Value}{t:TypeId}{z:Nat×Nat}(h:w.heap[g]?=some (.cells c t z))(hl:l≠0)(hz:z.1=0/\z.2<l):pW g w (w.freeze ⟨g,0,none⟩ l)/\(w.freeze ⟨g,0,none⟩ l).heap[g]?=some (.cells c t (0,l)):=by
 unfold World.freeze;rw[if_neg (by simpa using hl)];refine⟨?_,?_⟩
 .exact⟨rfl,rfl,rfl,by simp,λk _ hk=>by simp[Array.getElem?_modify,Ne.symm hk]⟩
 .simp[Array.getElem?_modify,h];rcases z with⟨z1,z2⟩;have h1:z1=0:=hz.1;have h2:z2<l:=hz.2;subst h1;simp;omega
section
variable{p:Bool}{A:Ax}
theorem jH{q:Option Addr}{l:Nat}{cs:Array Value}{z:Nat×Nat}(bb g:Nat)(L:List UInt8)(w:World)(hb:w.heap[bb]?=some (.cells #[.pointer q,.sk g l cs.size] 171))(hg:w.heap[g]?=some (.cells cs 5 z))(hl:l=L.length)(h0:0<l)(TL:∀(j:Nat) (x:UInt8),L[j]?=some x->cs[j]?=some (Value.int .u8 x.toNat))(hz:z.1=0/\z.2<l)(hlc:l<=cs.size)(Wr:l<=9223372036854775807):
 Cl (cX prog p A) 115 #[.pk bb 0] w λe w'=>e=.returned (.string ⟨L.toArray⟩)/\pW g w w'/\w'.heap[g]?=some (.cells cs 5 (0,l)):=by
 refine av (L:=[.pk bb 0]) func115 rfl λcs' a hF=>?_;refine a9 hF λ_ hF=>?_;refine jG 8 _ (FY 10 hF ?_)
 iterate 4 refine Gx.q ?_
 refine Pp (y:=by intro o a w ho z w1 es;exact IA ho gx o_ es) ?_
 iterate 5 refine Gx.q ?_
 refine Gx.e λ_ w1 hF QM _ rest next=>?_
 have Y6:=bk QM hg;have hs:(w1.freeze ⟨g,0,none⟩ L.length).heap.size=w1.heap.size/\(w1.freeze ⟨g,0,none⟩ L.length).drawn=w1.drawn:=by unfold World.freeze;split<;>simp
 have h2:=K3 (l:=L.length) Y6 o_ ⟨hz.1,by omega⟩;refine Kb hF hs.1 hs.2 (hy:=by intro o ho;exact Aw (l:=L) ho gx (hl▸gx) rfl k_ Y6 (by rintro rfl;have:cs.size<l:=hz.2;omega) (by rintro rfl;simp at hl;omega) o_ o_ TL) λ_ hF=>?_;refine next _ _ ?_
 refine λrest next=>?_
 refine a9 hF λ_ hF=>?_;refine next _ _ ?_
 refine aL hF ?_;exact⟨rfl,(lG QM).trans h2.1,hl▸h2.2⟩
end

section
variable{o:Oper}{y z:Operand}{t:TypeId}
theorem EI{a b:Int}{ts:Array TypeId}(QH:o.op=.call {callee:=.builtin .min,args:=#[x,y,z],argTypes:=ts})(hx:ev x=.int .i64 a)(hy:ev y=.int .i64 b)(hz:ev z=.int .i64 c)(es:Array Event):(execOp ev o).runT P w es=(.ok (.value (.int .i64 (min (min a b) c))) w,es):=by
 have e:∀ts ty,Builtin.min_ ts ty #[.int .i64 a,.int .i64 b,.int .i64 c]=pure (.int .i64 (min (min a b) c)):=λ_ _=>by
  simp only[Builtin.min_,Builtin.min2,List.foldlM];show(pure (Value.int .i64 (if c<(if b<a then b else a)then c else if b<a then b else a)):Sem Value)=_
  congr 2
  split<;>split<;>omega
 simp[-Sem.runT_eq,execOp,QH,resolve,hx,hy,hz,invoke,builtin,e,bind,Sem.bind,Sem.runT,pure]
theorem pH{s:ByteArray}(QH:o.op=.slice t x none (some y) none)(hx:ev x=.string s)(hy:ev y=.int .i64 (n:Int))(hu:P.underlying t=some .string)(h:n<=s.size):(execOp ev o).run P w=.ok (.value (.string (s.extract 0 n))) w:=by
 simp[execOp,QH,hx,hy,Instr.sliceAt,Instr.slice,Instr.sliceBounds,run_underlying hu,Instr.sliceBound,asIntOf,h]
theorem iw(QH:o.op=.pick x y z)(hx:ev x=.bool false)(hv:ev z=v):(execOp ev o).run P w=.ok (.value v) w:=by rw[fB QH hx,if_neg s_,hv]
theorem dI(QH:o.op=.pick x y z)(hx:ev x=.bool true)(hv:ev y=v):(execOp ev o).run P w=.ok (.value v) w:=by rw[fB QH hx,if_pos rfl,hv]
end
theorem Fb{o:Oper}{y z:Operand}{a b d:Int}{ts:Array TypeId}(QH:o.op=.call {callee:=.builtin .min,args:=#[x,y,z],argTypes:=ts})(hx:ev x=.int .i64 a)(hy:ev y=.int .i64 b)(hz:ev z=.int .i64 c)(hd:min (min a b) c=d):(execOp ev o).run P w=.ok (.value (.int .i64 d)) w/\aG P (execOp ev o):=by
 have h:=λw es=>EI (P:=P) (w:=w) QH hx hy hz es;rw[hd]at h;refine⟨?_,.eqv (s':=.pure _) h (.pure _)⟩;have:=congrArg Prod.fst (h w #[]);rwa [Sem.runT_fst]at this
theorem Lc(c:Nat):Lib.repeatL [0] c=List.replicate c 0:=by
 have:=Lib.repeatL_replicate 0 1 c
 rwa [Nat.mul_one]at this
section
variable{p:Bool}{A:Ax}
structure uO (bb g c l:Nat) (cs:Array Value) (w:World):Prop where
 box:w.heap[bb]?=some (.cells #[.pk bb 0,.sk g l cs.size] 171)
 row:∃fz,w.heap[g]?=some (.cells cs 5 fz)/\fz.1=0/\fz.2<l
 all:∀j,j<l->cs[j]?=some (.int .u8 0)
 room:c<=cs.size
theorem qZ{bb g c l:Nat}{cs:Array Value}{s:ByteArray}{fz:Nat×Nat}(h3:w.heap[bb]?=some (.cells #[.pk bb 0,.sk g (l+s.size) cs.size] 171))(h4:w.heap[g]?=some (.cells (cs.toList.take l++Go.Lib.strCells s++cs.toList.drop (l+s.size)).toArray 5 fz))(hc:l+n<=cs.size)(ha:∀j,j<l->cs[j]?=some (.int .u8 0))(hf:fz.1=0)(hf2:fz.2<l+n)(hr:c<=cs.size)(hs:s.size=n)(h0:∀x∈s.data.toList,x=0):uO bb g c (l+n) (cs.toList.take l++Go.Lib.strCells s++cs.toList.drop (l+s.size)).toArray w:=by
 subst hs;have e:(cs.toList.take l++Go.Lib.strCells s++cs.toList.drop (l+s.size)).toArray.size=cs.size:=by simp[Go.Lib.strCells_length];omega
 refine⟨by rw[e];exact h3,⟨fz,h4,hf,hf2⟩,λj hj=>?_,by rw[e];exact hr⟩;have e1:(cs.toList.take l).length=l:=by rw[List.length_take,Array.length_toList];omega
 rw[List.getElem?_toArray,List.append_assoc];by_cases hjl:j<l
 .rw[List.getElem?_append_left o_,List.getElem?_take_of_lt hjl,Array.getElem?_toList,ha j hjl]
 .rw[List.getElem?_append_right o_,e1,List.getElem?_append_left (by rw[Go.Lib.strCells_length];omega),Go.Lib.strCells,List.getElem?_map,List.getElem?_eq_getElem (by rw[Array.length_toList];have:s.data.size=s.size:=rfl;omega)];have:=h0 _ (List.getElem_mem (l:=s.data.toList) (n:=j- l) (by rw[Array.length_toList];have:s.data.size=s.size:=rfl;omega));rw[Option.map_some,this];rfl
theorem xK:Qc prog p A:=λc w hc=>by
 refine av (L:=[.string ⟨#[0]⟩,.int .i64 c]) func133 rfl λcs a hF=>?_
 iterate 4 refine a9 hF λ_ hF=>?_
 by_cases h0:c=0
 .refine aN true hF ?_;refine a9 hF λ_ hF=>?_;refine aL hF ?_;subst h0;exact⟨rfl,Below.refl _ _⟩
 refine aN false hF ?_
 iterate 2 refine a9 hF λ_ hF=>?_
 by_cases h1:c=1
 .refine aN true hF ?_
  iterate 2 refine a9 hF λ_ hF=>?_
  refine aL hF ?_;subst h1;exact⟨rfl,Below.refl _ _⟩
 refine aN false hF ?_
 iterate 2 refine a9 hF λ_ hF=>?_
 refine aN false hF ?_
 iterate 5 refine a9 hF λ_ hF=>?_
 refine fY hF func164 (Ig c _ hc) λ_ hF=>?_
 iterate 5 refine a9 hF λ_ hF=>?_
 iterate 5 refine a9 hF λ_ hF=>?_
 refine a9 hF (hy:=by intro o ho;exact iw ho gx gx) λ_ hF=>?_;have hF:ay [(6,.int .u64 c),(0,.string ⟨#[0]⟩),(34,.bool (decide ((9223372036854775807:Int)<c)))] 125 [] _:=hF.O;refine aN false hF ?_ (hq:=decide_eq_false o_)
 replace hF:ay [(6,.int .u64 c),(0,.string ⟨#[0]⟩)] 125 [] _:=hF.O
 iterate 6 refine a9 hF λ_ hF=>?_
 refine aN false hF ?_ (hq:=rfl);refine a9 hF λ_ hF=>?_;refine a9 hF (hy:=by intro o ho;exact qE (n:=0) (s:=⟨#[0]⟩) ho gx gx k_ (Nat.lt_succ_self 0)) λ_ hF=>?_
 iterate 2 refine a9 hF λ_ hF=>?_
 refine aN false hF ?_ (hq:=rfl)
 iterate 2 refine a9 hF λ_ hF=>?_
 refine aN false hF ?_ (hq:=rfl)
 iterate 2 refine a9 hF λ_ hF=>?_
 refine aN false hF ?_ (hq:=rfl)
 iterate 2 refine a9 hF λ_ hF=>?_
 refine aN false hF ?_ (hq:=rfl)
 iterate 2 refine a9 hF λ_ hF=>?_
 refine aN false hF ?_ (hq:=rfl)
 iterate 2 refine a9 hF λ_ hF=>?_
 iterate 2 refine a9 hF λ_ hF=>?_
 refine aN false hF ?_
 replace hF:ay [(7,.int .i64 c),(8,.int .i64 c),(0,.string ⟨#[0]⟩)] 125 [] _:=hF.O
 refine Rn.am hF λbb w1 _ Xo QM R9 Wz hF=>?_;refine a9 hF λ_ hF=>?_;refine bf (R:=λ_ w'=>pW bb w1 w'/\∃g cs,w'.heap[bb]?=some (.cells #[.pk bb 0,.sk g 0 cs.size] 171)/\w1.heap.size<=g/\w'.heap[g]?=some (.cells cs 5)/\c<=cs.size) hF func113 ((xb bb c w1 R9 (.inl rfl) o_ o_).mono λe w' ⟨h1,h2⟩=>⟨_,h1,h2⟩) λ_ w2 ⟨hB,g,Cq,q1,q2,q3,q4⟩ _ hF=>?_;refine a9 hF λ_ hF=>?_;have SR:=QM.size;have TC:=hB.size;refine bf (R:=λ_ w'=>∃Vi,uO bb g c 1 Vi w'/\Nz bb g w2 w') hF func114 ((qc bb g ⟨#[0]⟩ w2 q1 q3 o_ (Nat.le_refl _) (by simp[ByteArray.size];omega)).mono λe w' ⟨h1,h2,h3,h4⟩=>⟨_,h1,_,qZ (l:=0) (n:=1) h3 h4 o_ (λj hj=>absurd hj (Nat.not_lt_zero j)) rfl d_ o_ (by simp[ByteArray.size]) s_,h2⟩) λ_ w3 ⟨Vi,hn,hT⟩ _ hF=>?_;have Uw:=hT.size;have RF:Bw w w3:=⟨by rw[hT.os,hB.os,QM.os],by rw[hT.tape,hB.tape,QM.tape],by rw[hT.output,hB.output,QM.output],by omega,λk hk=>by rw[hT.block k o_ o_,hB.block k o_ o_,QM.block k hk]⟩;refine gD (λl a w'=>1<=l/\l<=c/\(∃cs',uO bb g c l cs' w')/\Bw w w'/\ay [(9,.pk bb 0),(7,.int .i64 c),(8,.int .i64 c)] 125 [] a) (λl=>c- l) 1 ⟨by omega,by omega,⟨_,hn⟩,RF,hF.O⟩ ?_;clear hF RF Uw hT hn;intro l a w' ⟨WR,Up,⟨cs',hn⟩,Sj,hF⟩ ih;have hB:=hn.box;refine fY hF func166 (uj bb _ hB) λ_ hF=>?_
 iterate 2 refine a9 hF λ_ hF=>?_
 obtain⟨fz,hg,Wz,hz2⟩:=hn.row;have Xh:=(Array.getElem?_eq_some_iff.1 hg).1;have Rv:∀(j:Nat) (x:UInt8),(Lib.repeatL [0] l)[j]?=some x->cs'[j]?=some (Value.int .u8 x.toNat):=λj x hj=>by
  rw[Lc]at hj;obtain⟨h1,h2⟩:=List.getElem?_eq_some_iff.1 hj;rw[List.getElem_replicate]at h2;rw[hn.all j (by simpa using h1),←h2];rfl
 have hlen:l=(Lib.repeatL [0] l).length:=by rw[Lc];simp
 have Ux:=hn.room;by_cases hlc:l<c
 .refine aN true hF ?_;refine a9 hF λ_ hF=>?_;refine fY hF func166 (uj bb _ hB) λ_ hF=>?_;refine a9 hF λ_ hF=>?_;refine fY hF func166 (uj bb _ hB) λ_ hF=>?_;refine a9 hF λ_ hF=>?_;refine rR hF (v:=.int .i64 ((min (c- l) l:Nat):Int)) (hy:=by intro o ho;exact Fb ho gx gx gx o_) λ_ hF=>?_;refine a9 hF λ_ hF=>?_;generalize hn':min (c- l) l=n at hF;refine bf (R:=λv w2=>v=.string ⟨(Lib.repeatL [0] l).toArray⟩/\pW g w' w2/\w2.heap[g]?=some (.cells cs' 5 (0,l))) hF func115 ((jH bb g _ w' hB hg hlen o_ Rv ⟨Wz,hz2⟩ o_ o_).mono λe w2 ⟨h1,h2⟩=>⟨_,h1,rfl,h2⟩) λ_ w4 ⟨e4,Ry,hg4⟩ _ hF=>?_;subst e4;refine a9 hF λ_ hF=>?_;have QY:(⟨(Lib.repeatL [0] l).toArray⟩:ByteArray).size=l:=by simp[ByteArray.size,←hlen]
  refine a9 hF (hy:=by intro o ho;exact pH ho gx gx k_ (by rw[QY];omega)) λ_ hF=>?_;have R0:w4.heap[bb]?=_:=(Ry.block bb (by have:=(Array.getElem?_eq_some_iff.1 hB).1;omega) o_).trans hB;have hex:((⟨(Lib.repeatL [0] l).toArray⟩:ByteArray).extract 0 n).size=n:=by rw[ByteArray.size_extract,QY];omega
  have XI:∀x∈((⟨(Lib.repeatL [0] l).toArray⟩:ByteArray).extract 0 n).data.toList,x=0:=λx hx=>by
   rw[ByteArray.data_extract,Array.toList_extract]at hx;rw[Lc]at hx;simp[List.extract]at hx;exact hx.2
  generalize (⟨(Lib.repeatL [0] l).toArray⟩:ByteArray).extract 0 n=s at hex XI hF;refine bf (R:=λ_ w5=>∃Vi,uO bb g c (l+n) Vi w5/\Nz bb g w4 w5) hF func114 ((qc bb g s w4 R0 hg4 o_ (Nat.le_refl _) o_).mono λe w5 ⟨h1,h2,h3,h4⟩=>⟨_,h1,_,qZ (l:=l) (n:=n) h3 h4 o_ hn.all rfl (by show l<l+n;omega) o_ hex XI,h2⟩) λ_ w5 ⟨Vi,WL,hT⟩ _ hF=>?_;have Uk:=Ry.size;have We:=hT.size;have hsw:=Sj.size;exact fZ (ih (l+n) _ _ ⟨by omega,by omega,⟨_,WL⟩,Sj.trans ⟨by rw[hT.os,Ry.os],by rw[hT.tape,Ry.tape],by rw[hT.output,Ry.output],by omega,λk hk=>by rw[hT.block k o_ o_,Ry.block k o_ o_]⟩,hF.O⟩ o_)
 .refine aN false hF ?_;obtain rfl:l=c:=by omega
  refine bf (R:=λv w2=>v=.string ⟨(Lib.repeatL [0] l).toArray⟩/\pW g w' w2/\w2.heap[g]?=some (.cells cs' 5 (0,l))) hF func115 ((jH bb g _ w' hB hg hlen o_ Rv ⟨Wz,hz2⟩ o_ o_).mono λe w2 ⟨h1,h2⟩=>⟨_,h1,rfl,h2⟩) λ_ w4 ⟨e4,Ry,hg4⟩ _ hF=>?_;subst e4;refine a9 hF λ_ hF=>?_;refine aL hF ?_;have hsw:=Sj.size;exact⟨rfl,Sj.trans ⟨Ry.os,Ry.tape,Ry.output,Ry.size,λk hk=>Ry.block k o_ o_⟩⟩
end

end Go.Proofs.YtkmoglhgkcnalaaGreatDoor
namespace Go.Proofs.YtkmoglhgkcnalaaGreatDoor
open Go.RowKit
theorem OZ(L:List Int)(k:Nat)(h:k<L.length):(aC L)[k]?=some (.int .u32 (L.getD k 0)):=by
 simp[aC,h]





theorem gL(op:BinOp)(x y:Int):0<=bits op .u32 x y/\bits op .u32 x y<4294967296:=by
 unfold bits;simp only[IntKind.wrap_u32];omega
theorem jk(x:Int):0<=IntKind.u32.wrap x/\IntKind.u32.wrap x<4294967296:=by
 rw[IntKind.wrap_u32];omega
theorem e_(a:Nat)(ha:a<9223372036854775808):(BitVec.ofInt 64 (a:Int)).toNat=a:=by
 rw[BitVec.ofInt_natCast,BitVec.toNat_ofNat];exact Nat.mod_eq_of_lt o_
theorem dj(a b:Nat)(ha:a<9223372036854775808)(hb:b<9223372036854775808):bits .and .i64 (a:Int) (b:Int)=((a&&&b:Nat):Int):=by
 have hx:a&&&b<2^63:=Nat.and_lt_two_pow _ o_;show IntKind.i64.wrap ((BitVec.ofInt 64 (a:Int)&&&BitVec.ofInt 64 (b:Int)).toNat:Int)=_;rw[BitVec.toNat_and,e_ a ha,e_ b hb,IntKind.wrap_i64];omega
theorem gR(a b:Nat)(ha:a<9223372036854775808)(hb:b<9223372036854775808):bits .or .i64 (a:Int) (b:Int)=((a|||b:Nat):Int):=by
 have hx:a|||b<2^63:=Nat.or_lt_two_pow o_ o_;show IntKind.i64.wrap ((BitVec.ofInt 64 (a:Int)|||BitVec.ofInt 64 (b:Int)).toNat:Int)=_;rw[BitVec.toNat_or,e_ a ha,e_ b hb,IntKind.wrap_i64];omega
theorem oN(a b:Nat)(ha:a<9223372036854775808)(hb:b<9223372036854775808):bits .xor .i64 (a:Int) (b:Int)=((a^^^b:Nat):Int):=by
 have hx:a^^^b<2^63:=Nat.xor_lt_two_pow o_ o_;show IntKind.i64.wrap ((BitVec.ofInt 64 (a:Int)^^^BitVec.ofInt 64 (b:Int)).toNat:Int)=_;rw[BitVec.toNat_xor,e_ a ha,e_ b hb,IntKind.wrap_i64];omega
def Wd(x:Int):Prop:=0<=x/\x<4294967296
theorem p_{x y:Int}(hx:Wd x)(hy:Wd y):bits .xor .i64 x y=bits .xor .u32 x y:=by
 obtain⟨a,rfl⟩:=Int.eq_ofNat_of_zero_le hx.1;obtain⟨b,rfl⟩:=Int.eq_ofNat_of_zero_le hy.1;have:=hx.2;have:=hy.2;rw[oN _ _ o_ o_,u32_xor_nat _ _ o_ o_]
theorem wQ{x y:Int}(hx:Wd x)(hy:Wd y):bits .and .i64 x y=bits .and .u32 x y:=by
 obtain⟨a,rfl⟩:=Int.eq_ofNat_of_zero_le hx.1;obtain⟨b,rfl⟩:=Int.eq_ofNat_of_zero_le hy.1;have:=hx.2;have:=hy.2;rw[dj _ _ o_ o_,u32_and_nat _ _ o_ o_]
theorem nU{x:Int}(h0:0<=x)(h1:x<9223372036854775808):bits .and .i64 x 4294967295=x%4294967296:=by
 obtain⟨a,rfl⟩:=Int.eq_ofNat_of_zero_le h0;have e:=dj a 4294967295 o_ o_;rw[show((4294967295:Nat):Int)=4294967295 from rfl]at e;rw[e,show(4294967295:Nat)=2^32- 1 from rfl,Nat.and_two_pow_sub_one_eq_mod];omega
theorem Ow{x:Int}(hx:Wd x):bits .xor .u32 4294967295 x=4294967295- x:=by
 obtain⟨a,rfl⟩:=Int.eq_ofNat_of_zero_le hx.1;have h2:=hx.2;have e:=u32_xor_nat 4294967295 a o_ o_;rw[show((4294967295:Nat):Int)=4294967295 from rfl]at e;rw[e];have e2:4294967295^^^a=4294967295- a:=by
  apply Nat.eq_of_testBit_eq;intro i;rw[Nat.testBit_xor,show 4294967295- a=2^32-(a+1)from by omega,Nat.testBit_two_pow_sub_succ o_,show(4294967295:Nat)=2^32- 1 from rfl,Nat.testBit_two_pow_sub_one];by_cases h:i<32
  .simp[h]
  .have:a.testBit i=false:=Nat.testBit_lt_two_pow (Nat.lt_of_lt_of_le (show a<2^32 by omega) (Nat.pow_le_pow_right d_ o_));simp[h,this]
 rw[e2];omega
theorem Lm{x:Int}(hx:Wd x):Wd (4294967295- x):=⟨by have:=hx.2;omega,by have:=hx.1;omega⟩
theorem H7(x k:Nat)(hx:x<4294967296)(h1:1<=k)(h2:k<=31):qJ (x:Int) (-(k:Int))=(((x*2^(32- k))%4294967296|||x/2^k:Nat):Int):=by
 have ew:IntKind.u64.wrap (-(k:Int))=((18446744073709551616- k:Nat):Int):=by rw[IntKind.wrap_u64];omega
 have e1:bits .and .u64 (IntKind.u64.wrap (-(k:Int))) 31=((32- k:Nat):Int):=by
  rw[ew];have e:=u64_and_nat (18446744073709551616- k) 31 o_ o_;rw[show((31:Nat):Int)=31 from rfl]at e;rw[e,show(31:Nat)=2^5- 1 from rfl,Nat.and_two_pow_sub_one_eq_mod];omega
 have e2:IntKind.u64.wrap (32-((32- k:Nat):Int))=(k:Int):=by rw[IntKind.wrap_u64];omega
 have hp:2^(32- k)*2^k=4294967296:=by rw[←Nat.pow_add,show 32- k+k=32 from by omega]
 unfold qJ;rw[e1,e2,Int.toNat_natCast,Int.toNat_natCast,show min (32- k) 32=32- k from by omega,show min k 32=k from by omega];have a1:IntKind.u32.wrap ((x:Int)*2^(32- k))=((x*2^(32- k)%4294967296:Nat):Int):=by
  rw[IntKind.wrap_u32,Int.natCast_emod,Int.natCast_mul,Int.natCast_pow];rfl
 have a2:(x:Int)/2^k=((x/2^k:Nat):Int):=by rw[Int.natCast_ediv,Int.natCast_pow];rfl
 rw[a1,a2,u32_or_nat _ _ (Nat.mod_lt _ d_) (Nat.lt_of_le_of_lt (Nat.div_le_self _ _) hx)]
theorem Bz(x k:Nat)(hx:x<4294967296):(x/2^k|||x*2^(32- k))%4294967296=((x*2^(32- k))%4294967296|||x/2^k):=by
 rw[show(4294967296:Nat)=2^32 from rfl,Nat.or_mod_two_pow,Nat.mod_eq_of_lt (a:=x/2^k) (Nat.lt_of_le_of_lt (Nat.div_le_self _ _) hx),Nat.or_comm]
theorem Ha(x:Int)(k:Nat)(hx:Wd x)(h1:2<=k)(h2:k<=31):bits .and .i64 (bits .or .i64 (x/2^k) (x*2^(32- k))) 4294967295=qJ x (-(k:Int)):=by
 obtain⟨a,rfl⟩:=Int.eq_ofNat_of_zero_le hx.1;have hx2:=hx.2;have a2:(a:Int)/2^k=((a/2^k:Nat):Int):=by rw[Int.natCast_ediv,Int.natCast_pow];rfl
 have a1:(a:Int)*2^(32- k)=((a*2^(32- k):Nat):Int):=by rw[Int.natCast_mul,Int.natCast_pow];rfl
 have b1:a*2^(32- k)<4611686018427387904:=by
  have hp:2^(32- k)<=2^30:=Nat.pow_le_pow_right d_ o_
  calc a*2^(32- k)<=a*2^30:=Nat.mul_le_mul_left _ hp
   _<4611686018427387904:=by omega
 have b2:a/2^k<4294967296:=Nat.lt_of_le_of_lt (Nat.div_le_self _ _) o_;have hx:a/2^k|||a*2^(32- k)<2^63:=Nat.or_lt_two_pow o_ o_;rw[H7 a k o_ o_ h2,a1,a2,gR _ _ o_ o_,nU o_ o_,←Bz a k o_];rfl
theorem O6(x:Int)(k:Nat)(hx:Wd x)(h1:2<=k):wrap64 (x*2^(32- k))=x*2^(32- k):=by
 obtain⟨a,rfl⟩:=Int.eq_ofNat_of_zero_le hx.1;have hx2:=hx.2;have a1:(a:Int)*2^(32- k)=((a*2^(32- k):Nat):Int):=by rw[Int.natCast_mul,Int.natCast_pow];rfl
 have b1:a*2^(32- k)<4611686018427387904:=by
  have hp:2^(32- k)<=2^30:=Nat.pow_le_pow_right d_ o_
  calc a*2^(32- k)<=a*2^30:=Nat.mul_le_mul_left _ hp
   _<4611686018427387904:=by omega
 rw[a1];generalize a*2^(32- k)=q at b1;unfold wrap64;omega
theorem qI(x k:Int):Wd (qJ x k):=gL _ _ _
theorem sB(x a b c:Int):Wd (iZ x a b c):=gL _ _ _
theorem qx(x a b c:Int):Wd (gf x a b c):=gL _ _ _
theorem Ma{x:Int}(hx:Wd x)(k:Nat):Wd (x/2^k):=by
 obtain⟨a,rfl⟩:=Int.eq_ofNat_of_zero_le hx.1;have hx2:=hx.2;have a2:(a:Int)/2^k=((a/2^k:Nat):Int):=by rw[Int.natCast_ediv,Int.natCast_pow];rfl
 have b2:a/2^k<=a:=Nat.div_le_self _ _;rw[a2];generalize a/2^k=q at b2;exact⟨by omega,by omega⟩
def ip(L:List Int):Prop:=∀i:Nat,Wd (L.getD i 0)
theorem NQ:Wd 0:=⟨by decide,by decide⟩
theorem D5{L:List Int}{x:Int}(h:ip L)(hx:Wd x):ip (L++[x]):=by
 intro i;by_cases h1:i<L.length
 .have:=h i;rw[List.getD_eq_getElem?_getD]at this⊢;rwa [List.getElem?_append_left h1]
 .rw[List.getD_eq_getElem?_getD,List.getElem?_append_right o_];by_cases h2:i- L.length=0
  .rw[h2];exact hx
  .rw[List.getElem?_eq_none (by simp;omega)];exact NQ
theorem nI(B:List UInt8):∀k,ip (bF B k)
 |0=>λi=>by rw[bF];exact NQ
 |k+1=>by
  rw[bF];refine D5 (nI B k) ?_;split
  .exact jk _
  .exact jk _
structure St.Wd (s:St):Prop where
 a:Go.Proofs.YtkmoglhgkcnalaaGreatDoor.Wd s.a
 b:Go.Proofs.YtkmoglhgkcnalaaGreatDoor.Wd s.b
 c:Go.Proofs.YtkmoglhgkcnalaaGreatDoor.Wd s.c
 d:Go.Proofs.YtkmoglhgkcnalaaGreatDoor.Wd s.d
 e:Go.Proofs.YtkmoglhgkcnalaaGreatDoor.Wd s.e
 f:Go.Proofs.YtkmoglhgkcnalaaGreatDoor.Wd s.f
 g:Go.Proofs.YtkmoglhgkcnalaaGreatDoor.Wd s.g
 h:Go.Proofs.YtkmoglhgkcnalaaGreatDoor.Wd s.h
theorem Gm{s:St}(h:s.Wd)(k w:Int):(s.next k w).Wd:=⟨jk _,h.a,h.b,h.c,jk _,h.e,h.f,h.g⟩
theorem N_{H:List Int}(h:ip H):(FR H).Wd:=⟨h 0,h 1,h 2,h 3,h 4,h 5,h 6,h 7⟩
theorem tA(K W:List Int){H:List Int}(h:ip H):∀i,(cC K W H i).Wd
 |0=>N_ h
 |i+1=>Gm (tA K W h i) _ _
theorem AW(H G:List Int)(h:ip H)(k:Nat):ip (eM H G k):=by
 intro i;rw[eM];by_cases h1:i<8
 .rw[List.getD_eq_getElem?_getD,List.getElem?_map,List.getElem?_range h1];simp only[Option.map_some,Option.getD_some];split
  .exact jk _
  .exact h i
 .rw[List.getD_eq_getElem?_getD,List.getElem?_eq_none (by simp;omega)];exact NQ
theorem Km:ip H0:=by
 intro i;by_cases h:i<8
 .have:i=0\/i=1\/i=2\/i=3\/i=4\/i=5\/i=6\/i=7:=by omega
  rcases this with rfl|rfl|rfl|rfl|rfl|rfl|rfl|rfl<;>exact⟨by decide,by decide⟩
 .rw[List.getD_eq_getElem?_getD,List.getElem?_eq_none (by simp[H0];omega)];exact NQ
theorem uX(KS:List Int)(L:List UInt8):∀n,ip (bW KS L n)
 |0=>Km
 |n+1=>by rw[bW,lZ];exact AW _ _ (uX KS L n) _
theorem Oi(s:St)(hs:s.Wd)(k w:Int):(s.h+iZ s.e 6 11 25+bits .xor .u32 (bits .and .u32 s.e s.f) (bits .and .u32 (4294967295- s.e) s.g)+k+w)%4294967296=s.t k w:=by
 rw[St.t,Ow hs.e];simp only[IntKind.wrap_u32];omega
theorem Kl(x0 x1 x2 x3:UInt8):bits .or .i64 (bits .or .i64 (bits .or .i64 ((x0.toNat:Int)*16777216) ((x1.toNat:Int)*65536)) ((x2.toNat:Int)*256)) (x3.toNat:Int)=cM [x0,x1,x2,x3]:=by
 have h0:=x0.toNat_lt;have h1:=x1.toNat_lt;have h2:=x2.toNat_lt;have h3:=x3.toNat_lt;have e0:(x0.toNat:Int)*16777216=((x0.toNat*16777216:Nat):Int):=by omega
 have e1:(x1.toNat:Int)*65536=((x1.toNat*65536:Nat):Int):=by omega
 have e2:(x2.toNat:Int)*256=((x2.toNat*256:Nat):Int):=by omega
 rw[e0,e1,e2,gR _ _ o_ o_,nat_join 24 (x0.toNat*16777216) (x1.toNat*65536) o_ o_,gR _ _ o_ o_,
  nat_join 16 (x0.toNat*16777216+x1.toNat*65536) (x2.toNat*256) o_ o_,gR _ _ o_ o_,nat_join 8 _ x3.toNat o_ o_]
 simp only[cM,List.foldl];omega
theorem vM(k:Nat):∀n i,i<k->(bX n k)[i]?=some (UInt8.ofNat (n/256^(k- 1- i))):=by
 induction k with
 |zero=>intro n i h;omega
 |succ k ih=>
  intro n i h;rw[sP];cases i with
  |zero=>simp
  |succ i=>rw[List.getElem?_cons_succ,ih n i o_,show k+1- 1-(i+1)=k- 1- i from by omega]



end Go.Proofs.YtkmoglhgkcnalaaGreatDoor
namespace Go.Proofs.YtkmoglhgkcnalaaGreatDoor
open Go
def eD.key(s:eD):Array Value:=#[.string s.tree,.string s.chains,.string s.id,.string s.root,.int .i64 s.height,.int .i64 s.width,.int .i64 s.count,.int .i64 s.shift]

end Go.Proofs.YtkmoglhgkcnalaaGreatDoor
namespace Go.Proofs.YtkmoglhgkcnalaaGreatDoor.L1
open Go Go.Conc Go.RowKit Go.Proofs.YtkmoglhgkcnalaaGreatDoor
section
variable{AX:Ax}
theorem oq{p:Prop}(h:p:=by
 first
 |exact BG ho gx
 |exact tZ ho gx
 |exact(an (by first|exact az|exact bN|exact fS|exact fT|exact iQ) ho gx ((ak (by assumption) _).trans rfl)).1
 |exact qQ _ d_ ho gx
 |exact kv _ d_ ho gx
 |exact JS _ d_ ho gx
 |exact jt _ _ d_ ho gx
 |exact lc _ d_ ho gx
 |exact i1 _ _ d_ ho gx
 |exact Of _ d_ ho gx
 |exact PV _ d_ ho gx
 |exact Od ho gx
 |exact Oc ho gx
 |exact Ob ho gx
 |exact JQ ho gx
 |exact DI ho gx
 |exact(iq ho gx gx).1
 |exact j1 ho gx rfl
 |exact ee ho gx gx o_
 |exact iP ho gx gx
 |exact qP ho gx gx
 |exact xH ho gx gx
 |exact lU ho gx gx
 |exact Hk ho rfl gx gx
 |exact HK ho rfl gx gx
 |exact HI ho gx gx
 |exact HJ ho gx gx
 |exact(C_ ho gx).1
 |exact(pY ho gx gx o_).1
 |exact lT ho gx gx o_
 |exact KV ho gx
 |exact zS ho gx
 |exact eY (ty:=42) (e:=4) k_ ho gx
 |exact eY (ty:=43) (e:=9) k_ ho gx
 |exact cn ho gx gx o_
 |exact pK ho gx gx d_ o_
 |exact qN ho gx gx o_ o_
 |exact pN ho gx gx o_
 |exact(dQ ho gx gx gx o_ o_).1
 |exact l0 ho gx gx o_
 |exact kY ho gx gx o_
 |exact ku ho gx (by assumption)
 |exact mx ho gx (by assumption)
 |exact pL ho gx (λ_=>gx) gx
 |exact cut_bools ho gx gx o_
 |exact cut_texts ho gx gx o_
 |exact KM ho gx gx o_
 |exact pJ ho gx gx (by assumption)
 |exact iE ho gx (by assumption)
 |exact GI ho gx (by assumption)
 |exact cc (iX.two (by assumption)) ho gx (by assumption)
 |exact eY (ty:=42) (e:=4) k_ ho (gx.trans (by assumption))
 |exact eY (ty:=43) (e:=9) k_ ho (gx.trans (by assumption))
 |exact(bJ (t:=42) (e:=4) k_ (λw=>by kernel_rfl) ho gx gx (by first|assumption|simpa using(by assumption)|omega)).1
 |exact(bJ (t:=43) (e:=9) k_ (λw=>by kernel_rfl) ho gx gx (by first|assumption|simpa using(by assumption)|omega)).1
 |exact(pZ ho gx gx o_).1
 |exact fs0 ho gx
 |exact fs1 ho gx
 |exact fs2 ho gx
 |exact fs3 ho gx
 |exact fs4 ho gx
 |exact fk0 ho gx
 |exact fk1 ho gx
 |exact fk2 ho gx
 |exact fk3 ho gx
 |exact fk4 ho gx
 |exact fk5 ho gx
 |exact fk6 ho gx
 |exact fk7 ho gx
 |exact Dx ho gx rfl
 |exact zM ho gx):p:=h
theorem PE{p:Prop}(h:p:=by
 first
 |exact oq
 |exact(an (by first|exact az|exact bN|exact fS|exact fT|exact iQ) ho gx ((ak (bk hC (by assumption)) _).trans rfl)).1
 |exact cc (iX.two (by assumption)) ho gx (bk hC (by assumption))
 |exact cn ho gx gx (by first|(simp only[bR];omega)|(simp only[ByteArray.size_append,bR];omega))
 |exact iE ho gx (bk hC (by assumption))
 |exact ku ho gx (bk hC (by assumption))):p:=h
def cj(n:Nat):Nat:=2^n- 1
def mp(KS:List Int)(pre:List UInt8)(j:Nat)(x:List UInt8):List UInt8:=de KS (pre++bX j 1++x)
def jX(KS:List Int)(pre:List UInt8):Nat->Nat->List UInt8->List UInt8
 |0,_,x=>x
 |n+1,j,x=>jX KS pre n (j+1) (mp KS pre j x)
def mI(s:eD)(i:Nat):List UInt8:=s.id.data.toList++bX s.q.toNat 4++bX i 2
def pp(KS:List Int)(s:eD)(i:Nat)(d:Int)(link:ByteArray):ByteArray:=⟨(jX KS (mI s i) (cj s.width.toNat- d.toNat) d.toNat link.data.toList).toArray⟩
theorem jI(KS:List Int)(pre:List UInt8)(j:Nat)(x:List UInt8):(mp KS pre j x).length=32:=by simp[mp,de]
structure Pu (s:eD) (i:Nat) (d:Int) (link:ByteArray):Prop where
 width:0<=s.width/\s.width<9
 q:0<=s.q/\s.q<4294967296
 id:s.id.size<65536
 i:i<65536
 d:0<=d/\d<256
 link:link.size=32
section
variable{s:eD}{o:Oper}{y:Operand}
theorem fQ{cs:Array Value}{t:TypeId}(QH:o.op=.load 115 x)(hx:ev x=.pk b 0)(h:w.heap[b]?=some (.cells cs t))(hk:∀i,i<8->cs[i]?=s.key[i]?):(execOp ev o).run prog w=.ok (.value (.agg s.key)) w:=by
 have h1:(isAgg 115).run prog w=.ok true w:=by kernel_rfl
 have hc:=ak h;have k0:=hk 0 d_;have k1:=hk 1 d_;have k2:=hk 2 d_;have k3:=hk 3 d_;have k4:=hk 4 d_;have k5:=hk 5 d_;have k6:=hk 6 d_;have k7:=hk 7 d_;simp[eD.key]at k0 k1 k2 k3 k4 k5 k6 k7;simp[execOp,QH,hx,Instr.loadAt,loadVar,h1,loadCells,loadCellsFrom,Addr.add,hc,k0,k1,k2,k3,k4,k5,k6,k7,eD.key,go_sem]
theorem cn{t u:ByteArray}{z:TypeId}(QH:o.op=.binOp .add 9 x y z)(hx:ev x=.string t)(hy:ev y=.string u)(h:t.size+u.size<=9223372036854775807):(execOp ev o).run prog w=.ok (.value (.string (t++u))) w:=by
 simp[execOp,QH,hx,hy,h,go_sem]
theorem lz(QH:o.op=.alloc 9):Mk prog ev o w #[.string ⟨#[]⟩] 9:=by
 have e:execOp ev o=(do pure (.value (←Instr.alloc 9 true (.tuple #[])))):=by simp only[execOp,QH]
 unfold Mk;rw[e];constructor<;>kernel_rfl
end
theorem jz(n k:Nat):(ByteArray.mk (bX n k).toArray).size=k:=by show(bX n k).toArray.size=k;simp[bB]
theorem rN(KS:List Int)(pre:List UInt8)(t j:Nat)(x:List UInt8)(h:j<t):jX KS pre (t- j) j x=jX KS pre (t-(j+1)) (j+1) (mp KS pre j x):=by
 rw[show t- j=(t-(j+1))+1 from by omega];rfl
def Gr(KS:List Int)(s:eD)(dig:Nat->Int)(c:Nat):Value:=.string (pp KS s c (dig c) (s.links.extract (c*32) ((c+1)*32)))
theorem jl{cs:Array Value}{t:TypeId}(h:w.heap[b]?=some (.cells cs t)):(w.setCell ⟨b,i,none⟩ v).heap[b]?=some (.cells (cs.setIfInBounds i v) t):=by
 simp only[World.setCell];rw[Array.getElem?_modify,h];simp
theorem bv(h0:0<w.heap.size)(hb:Bw w w')(h:w.rangeAt 0 0 (aC KS)):w'.rangeAt 0 0 (aC KS):=λj v hv=>by
 have:=h j v hv;unfold World.cell? at this⊢;rw[hb.block 0 h0];exact this
theorem tO{o:Oper}{y:Operand}{u r:Value}{ts:Array TypeId}(QH:o.op=.call {callee:=.builtin .append,args:=#[x,y],argTypes:=ts})(hx:ev x=u)(hy:ev y=v)(h:(Builtin.append_ ts o.type #[u,v]).run P w=.ok r w'):(execOp ev o).run P w=.ok (.value r) w':=by
 simp[execOp,QH,resolve,hx,hy,invoke,builtin,h]
theorem dq{s:Sem Next}{v':Value}(h:s.run P w=.ok (.value v') w')(e:v'=v):s.run P w=.ok (.value v) w':=e▸h
theorem kq{C:iJ}{v':Value}{B:World->Prop}(h:Cl C f args w λe w'=>e=.returned v'/\B w')(e:v'=v):Cl C f args w λe w'=>e=.returned v/\B w':=e▸h
theorem A4(h:so false w w1):w1={w with drawn:=w1.drawn}:=by
 obtain⟨n,h1,h2⟩:=h.heap;rw[h1 rfl]at h2;have h3:w1.heap=w.heap:=by simpa using h2
 have h4:=h.tape;have h5:=h.os;have h6:=h.output;cases w1;cases w;simp_all
theorem oX{d:Nat}(h:Below B {w with drawn:=d} w'):Below B w w':=⟨h.os,h.tape,h.output,h.size,h.block⟩
section
variable{C:iJ}{b:Frame}{k:List Item}
theorem dF(hF:ay F N ds a)(hy:∀o:Oper,o.op=p->∀e,∃v w',(execOp a.eval o).run C.P {w with drawn:=e}= .ok (.value v) w'/\R v w')(next:∀v w',R v w'->∀a',ay ((d,v)::F) N ds a'->Rn C Goal (b.atR a' (.inRegion ops rest::k')) cs w')(h0:eI 6 (b.atR a k)=.inRegion ops (m::rest)::k':=by rfl)
 (h:(ops[m]?).map (λo=>(o.dst,o.op,o.guard))=some (some d,p,gd):=by rfl) (hw:gV ops F gd=some true:=by rfl) (hd:d<N:=by decide) (QT:nd p=true:=by rfl) (ok:kE C.P a.eval p:=by exact nG) (hp:C.pad=false:=by rfl):Rn C Goal (b.atR a k) cs w:=
 Go.Proofs.YtkmoglhgkcnalaaGreatDoor.dF hF (λo ho w1 hp1=>by rw[hp]at hp1;rw[A4 hp1];exact hy o ho _) next h0 h hw hd QT ok
end

end
end Go.Proofs.YtkmoglhgkcnalaaGreatDoor.L1
namespace Go.Proofs.YtkmoglhgkcnalaaGreatDoor
open Go Go.Conc Go.RowKit
section
variable{C:iJ}{b:Frame}{k:List Item}
theorem CR{ps:Array Tmp}{ca cb:Code}{cap:Array Value}(hb:b.roundOf=none)(hf:C.P.funcs[f]?=some fn)(QV:(fn.name== "runtime.NumGoroutine")=false)(Wn:fn.body.isNone=false)(hx:a.eval x=.func (.func f) first cap)
 (h:∀n w',w.heap.size<=n->Bw w w'->w'.heap[n]?=some (.deferred (some []))->w'.heap[n+1]?=some (.loop {state:=.ready,pending:=none,fn:=b.fn,tmps:=a.tmps,params:=ps,assign:=ca,body:=cb,defers:=n})->Rn C Goal (Frame.enter C.P f (first++#[.func (.yield (n+1)) #[] #[]]++cap) .normal) (b.atR ⟨a.tmps,{target:=.collected n,args:=#[]}::a.defers⟩ (.inRangeFunc (n+1)::k)::cs) w'):Rn C Goal (b.atR a (.code (.rangeFunc x ps ca cb)::k)) cs w:=λL hG=>
 L.any λw1 hp=>⟨_,_,_,sC hb hf QV Wn hx,h w1.heap.size _ hp.below.size (ab hp.below hp.below.size (fh w1 _)) (dK w1 _) (dJ w1 _) L hG⟩
end
theorem Kt(h:w.rangeAt 0 0 (aC KS))(hl:KS.length=64):∃c t z,w.heap[0]?=some (.cells c t z)/\CO KS c:=by
 have h0:(aC KS)[0]?=some ((aC KS)[0]'(by rw[aT];omega)):=List.getElem?_eq_getElem _;obtain⟨c,e,f,q1,_,_⟩:=gC (h 0 _ h0);refine⟨c,e,f,q1,λj v hv=>?_⟩;obtain⟨c',e',f',r1,_,r3⟩:=gC (h j v hv);rw[show((⟨0,0+j,none⟩:Addr)).block=0 from rfl,q1]at r1;cases r1;simpa using r3

end Go.Proofs.YtkmoglhgkcnalaaGreatDoor
namespace Go.Proofs.YtkmoglhgkcnalaaGreatDoor.Lp
open Go Go.Conc Go.RowKit Go.Proofs.YtkmoglhgkcnalaaGreatDoor
open Go.Proofs.YtkmoglhgkcnalaaGreatDoor.L1 (oq PE cj mp jX mI pp jI Pu fQ cn lz jz rN)
section
variable{p:Bool}{AX:Ax}
theorem u8_any(n:Nat)(hn:n<9223372036854775808)(w:World):Cl (cX prog p AX) 151 #[.int .i64 n] w λe w'=>e=.returned (.string ⟨(bX n 1).toArray⟩)/\Bw w w':=Go.Proofs.YtkmoglhgkcnalaaGreatDoor.u8_any n w o_
theorem u16_any(n:Nat)(hn:n<9223372036854775808)(w:World):Cl (cX prog p AX) 92 #[.int .i64 n] w λe w'=>e=.returned (.string ⟨(bX n 2).toArray⟩)/\Bw w w':=Go.Proofs.YtkmoglhgkcnalaaGreatDoor.u16_any n w o_
theorem u32_any(n:Nat)(hn:n<9223372036854775808)(w:World):Cl (cX prog p AX) 89 #[.int .i64 n] w λe w'=>e=.returned (.string ⟨(bX n 4).toArray⟩)/\Bw w w':=Go.Proofs.YtkmoglhgkcnalaaGreatDoor.u32_any n w o_
theorem of_any(KS:List Int)(ps:List ByteArray)(cap:Nat)(w:World)(b:Nat)(QR:∀k (h:k<ps.length),w.cell? ⟨b,k,none⟩=some (.string ps[k]))(hK:w.rangeAt 0 0 (aC KS))(QL:KS.length=64)
 (hlen:(cD ps ps.length).length<=576460752303423488) (hn:ps.length<=1152921504606846976) (h0:0<ps.length:=by simp):
 Cl (cX prog p AX) 91 #[.sk b ps.length cap] w λe w'=>e=.returned (.string ⟨(de KS (cD ps ps.length)).toArray⟩)/\Bw w w':=by
 obtain⟨cK,tK,zK,h1,h2⟩:=Kt hK QL;obtain⟨c,e,f,q1,_,_⟩:=gC (QR 0 h0);exact Go.Proofs.YtkmoglhgkcnalaaGreatDoor.of_any xK KS ps cap w b 0 c q1 (λk hk=>by
  obtain⟨c',e',f',r1,_,r3⟩:=gC (QR k hk);rw[show((⟨b,k,none⟩:Addr)).block=b from rfl,show w.heap[b]?=_ from q1]at r1;cases r1;simpa using r3) h1 h2 QL hlen hn
theorem top_any(s:eD)(n:Nat)(hn:s.width=n)(h8:n<=8)(w:World):
 Cl (cX prog p AX) 108 #[.agg s.key] w λe w'=>e=.returned (.int .i64 (cj n))/\Bw w w':=by
 refine av (L:=[.agg s.key]) func108 rfl λcs a hF=>?_;refine Rn.am hF λg w1 _ _ QM R9 _ hF=>?_;have h5:(Value.agg s.key).cells[0+5]?=some (.int .i64 n):=by rw[←hn];rfl
 have e:IntKind.i64.wrap (1*2^min (n:Int).toNat IntKind.i64.bits)=((2^n:Nat):Int):=by
  rcases(by omega:n=0\/n=1\/n=2\/n=3\/n=4\/n=5\/n=6\/n=7\/n=8)with rfl|rfl|rfl|rfl|rfl|rfl|rfl|rfl|rfl<;>rfl
 have hp:1<=2^n/\2^n<=256:=⟨Nat.one_le_two_pow,Nat.pow_le_pow_right d_ h8⟩;refine a9 hF λ_ hF=>?_;refine a9 hF λ_ hF=>?_;refine a9 hF (hy:=by intro o ho;exact kr ho gx R9 h5 (λ_=>by kernel_rfl)) λ_ hF=>?_;refine a9 hF (hy:=by intro o ho;exact zL ho gx gx o_) λ_ hF=>?_;rw[e]at hF;generalize hm:2^n=m at hF hp;refine a9 hF (hy:=by intro o ho;exact qC (n:=1) ho gx gx ⟨hp.1,by omega⟩) λ_ hF=>?_;refine a9 hF λ_ hF=>?_;refine aL hF ?_;exact⟨by unfold cj;rw[hm],QM⟩
theorem Bh(key:Array Value)(d:Int)(w:World):
 Cl (cX prog p AX) 150 #[.agg key,.int .i64 d] w λe w'=>∃v,e=.returned v/\∃kb db,v=.func (.func 173) #[] #[.pk db 0,.pk kb 0]/\w.heap.size<=kb/\w.heap.size<=db/\kb<w'.heap.size/\w'.heap[kb]?=some (.cells key 115)/\w'.heap[db]?=some (.cells #[.int .i64 d] 3)/\Bw w w':=by
 refine av (L:=[.agg key,.int .i64 d]) func150 rfl λcs a hF=>?_;refine Rn.am hF λkb w1 _ h1 QM R9 _ hF=>?_;refine Rn.am hF λdb w2 _ h2 QN Rh _ hF=>?_;refine a9 hF λ_ hF=>?_;refine a9 hF (v:=.func (.func 173) #[] #[.pk db 0,.pk kb 0]) (hy:=by intro o ho;exact(dG prog ho).1.trans (by simp[hF.g 2,hF.g 3])) λ_ hF=>?_;refine a9 hF λ_ hF=>?_;refine aL hF ?_;have h12:=QN.size;have h01:=QM.size;exact⟨_,rfl,kb,db,rfl,h1,by omega,by have:=ar R9;omega,bk QN R9,Rh,ab QM QM.size QN⟩
def K8(s:eD)(i:Nat):ByteArray:=s.id++⟨(bX s.q.toNat 4).toArray⟩++⟨(bX i 2).toArray⟩
theorem FK(s:eD)(i:Nat):(K8 s i).data.toList=mI s i:=by simp[K8,mI]
theorem Bq{o:Oper}{y z:Operand}{t u v:ByteArray}(QH:o.op=.buildSlice 43 3 #[(0,x),(1,y),(2,z)])(hx:ev x=.string t)(hy:ev y=.string u)(hz:ev z=.string v):
 (execOp ev o).run prog w=.ok (.value (.sk w.heap.size 3 3)) (w.alloc (.cells #[.string t,.string u,.string v] 9)):=by
 have e:execOp ev o=(do pure (.value (←Instr.buildSlice 43 3 #[(0,.string t),(1,.string u),(2,.string v)]))):=by simp[execOp,QH,hx,hy,hz]
 have h2:(do pure (.value (←Instr.buildSlice 43 3 #[(0,.string t),(1,.string u),(2,.string v)])):Sem Next).run prog w=.ok (.value (.sk w.heap.size 3 3)) (w.alloc (.cells #[.string t,.string u,.string v] 9)):=by kernel_rfl
 rw[e,h2]
structure Ch (s:eD) (i b7 b9 k2 l ld:Nat) (r:LoopState->Loop) (ty tk:TypeId) (w0:World) (st:LoopState) (x:List UInt8) (w:World):Prop where
 old:Bw w0 w
 seven:w.heap[b7]?=some (.cells #[.string ⟨x.toArray⟩] ty)
 nine:w.heap[b9]?=some (.cells #[.string (K8 s i)] ty)
 key:w.heap[k2]?=some (.cells s.key tk)
 loop:w.heap[l]?=some (.loop (r st))
 list:w.heap[ld]?=some (.deferred (some []))
structure xe (b7 b9 k2 l ld:Nat) (w0:World):Prop where
 low:w0.heap.size<=b7/\w0.heap.size<=l/\w0.heap.size<=ld
 seven:b7≠b9/\b7≠k2/\b7≠l/\b7≠ld
 loop:l≠b9/\l≠k2/\l≠ld
section
variable{s:eD}{k2 l ld:Nat}{r:LoopState->Loop}{tk:TypeId}{st:LoopState}{x:List UInt8}
theorem Ch.below(h:Ch s i b7 b9 k2 l ld r ty tk w0 st x w)(hb:Bw w w'):Ch s i b7 b9 k2 l ld r ty tk w0 st x w':=by
 have g:∀{b:Nat} {o:Obj},w.heap[b]?=some o->w'.heap[b]?=some o:=λ{b o} ho=>(hb.block b (Array.getElem?_eq_some_iff.1 ho).1).trans ho;exact⟨ab h.old h.old.size hb,g h.seven,g h.nine,g h.key,g h.loop,g h.list⟩
theorem Ch.turn(h:Ch s i b7 b9 k2 l ld r ty tk w0 st x w)(f:xe b7 b9 k2 l ld w0)(st':LoopState):Ch s i b7 b9 k2 l ld r ty tk w0 st' x (aO w l (r st')):=
 ⟨h.old.trans (dk w l _ f.low.2.1),(aF w _ f.seven.2.2.1).trans h.seven,(aF w _ (Ne.symm f.loop.1)).trans h.nine,(aF w _ (Ne.symm f.loop.2.1)).trans h.key,fP h.loop,(aF w _ (Ne.symm f.loop.2.2)).trans h.list⟩
theorem Ch.put(h:Ch s i b7 b9 k2 l ld r ty tk w0 st x w)(f:xe b7 b9 k2 l ld w0)(y:List UInt8):Ch s i b7 b9 k2 l ld r ty tk w0 st y (w.setCell ⟨b7,0,none⟩ (.string ⟨y.toArray⟩)):=
 ⟨h.old.trans (cN w _ _ f.low.1),jb h.seven,(br w _ (Ne.symm f.seven.1)).trans h.nine,(br w _ (Ne.symm f.seven.2.1)).trans h.key,(br w _ (Ne.symm f.seven.2.2.1)).trans h.loop,(br w _ (Ne.symm f.seven.2.2.2)).trans h.list⟩
end
def NT(f:Func)(g:FuncId)(T:Array Value)(ld:Nat)(st:LoopState):Loop:={state:=st,pending:=none,fn:=g,tmps:=T,params:=#[25],assign:=.region 3 (bC f 3) false,body:=.block 1 (rD f 4),defers:=ld}
def uh(f:Func):Code:=.seq (.seq (rG f 1) (.cond (.tmp 9) .skip (.exit 0))) (.seq (.block 1 (.seq (rG f 3) (.cond (.tmp 15) .ret .skip))) (rG f 2))
theorem Ju:f173.body=some (.seq (rG f173 0) (.block 0 (.loop (uh f173)))):=by kernel_rfl
section
variable{s:eD}{k2 l ld:Nat}{x:List UInt8}{T:Array Value}
theorem GY(QL:KS.length=64)(RR:s.id.size<65536)(hK:w0.rangeAt 0 0 (aC KS))(h0:0<w0.heap.size)(hT:ay [(7,.pk b7 0),(9,.pk b9 0)] 33 [] ⟨T,[]⟩)(hf:xe b7 b9 k2 l ld w0)(hj:j<256)(hx:x.length=32)
 (hC:Ch s i b7 b9 k2 l ld (NT f120 120 T ld) 9 115 w0 .ready x w)
 (next:∀w',Ch s i b7 b9 k2 l ld (NT f120 120 T ld) 9 115 w0 .ready (mp KS (mI s i) j x) w'->Rn (cX prog p AX) Goal (cf.finish (.bool true)) cs w'):
 Rn (cX prog p AX) Goal (Frame.round l 120 (((#[25]:Array Tmp).zip #[.int .i64 j]).foldl (λtmps (t,a)=>tmps.setIfInBounds t a) T) (rG f120 3) (.block 1 (rD f120 4)) .normal) (cf::cs) w:=by
 have hF:=hT.put (d:=25) d_ (.int .i64 j);have ez:((#[25]:Array Tmp).zip #[.int .i64 j]).foldl (λ(tmps:Array Value) (x:Tmp×Value)=>match x with|(t,a)=>tmps.setIfInBounds t a) T=T.setIfInBounds 25 (.int .i64 j):=by simp
 rw[ez];show Rn _ Goal ((rb 120 l).atR (Act.put ⟨T,[]⟩ (some 25) (.int .i64 j)) [.code (rG f120 3),.beginRound,.code (.block 1 (rD f120 4))]) (cf::cs) w;refine a9 hF λa hF=>?_;refine Rn.plain rfl (iI (r:=NT f120 120 T ld .ready) rfl hC.loop rfl ?_);have TN:=hC.turn hf .busy;have h7:=TN.seven;have h9:=TN.nine;refine Rn.plain rfl (gI 6 hF ?_)
 iterate 2 refine Gx.q ?_
 refine Gx.k func151 (λw _ _=>u8_any j o_ w) ?_;refine Gx.q ?_;refine nF [.inl (.string ⟨(mp KS (mI s i) j x).toArray⟩)] (V:=λb=>.sk b 3 3) (λu=>?_) (y:=λo a w ho z=>Bq ho gx gx gx);refine Gw.k func91 (λw hb hM=>?_) (Gw.e λa w2 hF hb _ rest hgo=>?_)
 .have UR:cD [K8 s i,⟨(bX j 1).toArray⟩,⟨x.toArray⟩] 3=mI s i++bX j 1++x:=by simp[cD,FK]
  have hlen:(mI s i++bX j 1++x).length<=65600:=by
   have:s.id.data.toList.length=s.id.size:=(by simp);simp[mI,bB,hx];omega
  obtain⟨gp,rfl,_,hp⟩:=hM.1 k_;have:=of_any (p:=p) (AX:=AX) KS [K8 s i,⟨(bX j 1).toArray⟩,⟨x.toArray⟩] 3 w gp (λk hk=>by
   rw[ak hp];rcases(by simp at hk;omega:k=0\/k=1\/k=2)with rfl|rfl|rfl<;>rfl) (Go.Proofs.YtkmoglhgkcnalaaGreatDoor.bv (TN.below hb).old h0 hK) QL (by rw[show[K8 s i,⟨(bX j 1).toArray⟩,(⟨x.toArray⟩:ByteArray)].length=3 from rfl,UR];omega) s_
  rw[show[K8 s i,⟨(bX j 1).toArray⟩,(⟨x.toArray⟩:ByteArray)].length=3 from rfl,UR]at this;exact this
 have SG:=TN.below hb;refine aM hF (λo ho=>(dr (w:=w2) (b:=b7) (k:=0) (v:=.string ⟨(mp KS (mI s i) j x).toArray⟩) (v0:=.string ⟨x.toArray⟩) rfl rfl k_ ho (hF.g 7) (hF.g 31) (by rw[ak SG.seven];rfl) (by simp[World.frozen?,SG.seven])).1) (hz:=λ_=>by simp[World.setCell]) λa _=>hgo _ _ ?_;have SG:=SG.put hf (mp KS (mI s i) j x);exact Rn.plain rfl (gZ rfl rfl SG.loop (next _ (SG.turn hf .ready)))
theorem LK(QL:KS.length=64)(RR:s.id.size<65536)(Sv:s.width=n)(hn:n<=8)(hK:w0.rangeAt 0 0 (aC KS))(h0:0<w0.heap.size)(hT:ay [(7,.pk b7 0),(9,.pk b9 0)] 33 [] ⟨T,[]⟩)(hf:xe b7 b9 k2 l ld w0){fin:List UInt8}
 (Rw:∀w',Ch s i b7 b9 k2 l ld (NT f120 120 T ld) 9 115 w0 .ready fin w'->Rn (cX prog p AX) Goal (cf.finish (.tuple #[])) cs w'):
 ∀(fuel j:Nat) (x:List UInt8) (a:Act) (w:World),cj n- j<fuel->j<257->x.length=32->jX KS (mI s i) (cj n- j) j x=fin->ay [(0,.func (.yield l) #[] #[]),(2,.pk k2 0),(4,.int .i64 j)] 16 [] a->
  Ch s i b7 b9 k2 l ld (NT f120 120 T ld) 9 115 w0 .ready x w->
  Rn (cX prog p AX) Goal ((base 173).atR a [.code (uh f173),.inLoop (uh f173),.inBlock 0]) (cf::cs) w:=by
 have ht:cj n<=255:=by
  unfold cj;rcases(by omega:n=0\/n=1\/n=2\/n=3\/n=4\/n=5\/n=6\/n=7\/n=8)with rfl|rfl|rfl|rfl|rfl|rfl|rfl|rfl|rfl<;>decide
 intro fuel;induction fuel with
 |zero=>exact λ_ _ _ _ h=>absurd h o_
 |succ fuel ih=>
  intro j x a w hfu hj hx Ty hF hC;refine a9 hF λa hF=>?_;refine af hF (λo ho=>fQ (s:=s) ho (hF.g 2) hC.key λ_ _=>rfl) λa hF=>?_;refine bH hF func108 (top_any s n Sv hn w) λw1 QM a hF=>?_;have hC:=hC.below QM;refine a9 hF λa hF=>?_;refine Rn.plain rfl (Rn.cond (decide ((j:Int)<cj n)) (hF.g 9) ?_);by_cases QK:j<cj n
  .rw[decide_eq_true o_]
   iterate 2 refine a9 hF λa hF=>?_
   obtain⟨o,ho,e1,e2,e3⟩:=ka (ops:=bC f173 3) (n:=2) (d:=some 14) (p:=.call {callee:=.value (.tmp 12),args:=#[.tmp 13],argTypes:=#[3]}) (by rfl);refine lH (args:=#[.int .i64 j]) ho (e3 _) (by rw[e2];simp) hC.loop rfl (λw es=>iM e2 gx (by simp[hF.g 13]) w es) (GY QL RR hK h0 hT hf o_ hx hC λw2 hC=>?_);rw[Frame.finish_atR,ho,Option.bind_some,e1];have hF:=hF.put (d:=14) d_ (.bool true);refine a9 hF λa hF=>?_;refine Rn.plain rfl (Rn.cond false (hF.g 15) ?_)
   iterate 3 refine a9 hF λa hF=>?_
   exact Rn.plain rfl (Rn.plain rfl (ih (j+1) _ a w2 o_ o_ (jI _ _ _ _) (by rw[←rN _ _ _ _ _ QK];exact Ty) (hF.only ⟨rfl,rfl,by rw[Int.natCast_add];rfl,trivial⟩) hC))
  .rw[decide_eq_false o_];rw[show cj n- j=0 from by omega]at Ty;obtain rfl:x=fin:=Ty;exact Rn.plain rfl (Rn.ends rfl (.inl rfl) (g_ rfl hF.defers func173 (Rw w1 hC)))
end
theorem end_any(KS:List Int)(s:eD)(i:Nat)(d:Int)(link:ByteArray)(SF:Pu s i d link)(w:World)(hK:w.rangeAt 0 0 (aC KS))(QL:KS.length=64)(h0:0<w.heap.size):
 Cl (cX prog p AX) 120 #[.agg s.cells,.int .i64 i,.int .i64 d,.string link] w λe w'=>e=.returned (.string (pp KS s i d link))/\Bw w w':=by
 obtain⟨n,hn⟩:∃n:Nat,s.width=n:=⟨s.width.toNat,(Int.toNat_of_nonneg SF.width.1).symm⟩;obtain⟨j,rfl⟩:∃j:Nat,d=j:=⟨d.toNat,(Int.toNat_of_nonneg SF.d.1).symm⟩;have hn8:n<=8:=by have:=SF.width.2;omega
 have hj:=SF.d.2;have hq:(s.q.toNat:Int)=s.q:=Int.toNat_of_nonneg SF.q.1;have VJ:=SF.q.2;have hi:=SF.i;have RR:=SF.id;refine av (L:=[.agg s.cells,.int .i64 i,.int .i64 j,.string link]) func120 rfl λcs a hF=>?_;refine Rn.am hF (hy:=by intro o ho;exact yf ho gx) λb4 w1 _ h4 QM f4 _ hF=>?_;refine Rn.am hF (hy:=by intro o ho;exact yf ho gx) λb7 w2 _ h7 QN f7 _ hF=>?_;refine a9 hF λa hF=>?_;have f4:=bk QN f4;refine AK 11 hF ?_
 iterate 5 refine Gx.q ?_
 refine Gx.k (v:=.string ⟨(bX s.q.toNat 4).toArray⟩) func89 (λw _ _=>by have:=u32_any (p:=p) (AX:=AX) s.q.toNat o_ w;rwa [hq]at this) ?_;refine Gx.q ?_ (y:=λo a w ho z=>cn ho gx gx (by rw[jz];omega));refine Gx.q ?_;refine Gx.k func92 (λw _ _=>u16_any i o_ w) ?_;refine Gx.q ?_ (y:=λo a w ho z=>cn ho gx gx (by simp only[ByteArray.size_append,jz];omega));refine nF [] (V:=λb=>.pk b 0) (λu=>Gw.e λa w3 hF QW hM rest hgo=>?_) (y:=λo a w ho _=>(lz ho).1);obtain⟨b9,rfl,Xp,f9⟩:=hM.1 rfl;have s1:=QM.size;have s2:=QN.size;have l4:=ar f4;have l7:=ar f7;refine Rn.st hF (hy:=by intro o ho;exact oA ho gx gx f9 s_ k_ rfl rfl) λw4 a hp hF=>hgo _ _ ?_;have g4:=hp.keep (bk QW f4) o_;have g7:=hp.keep (bk QW f7) o_;have g9:w4.heap[b9]?=some (.cells #[.string (K8 s i)] 9):=hp.here;have gb:Bw w w4:=(ab (ab QM QM.size QN) o_ QW).trans (hp.below o_);have gs:=hp.size;have s3:=QW.size;refine a9 hF λa hF=>?_;refine a9 hF (hy:=by intro o ho;exact fQ (s:=s) ho gx g4 λk hk=>by rcases(by omega:k=0\/k=1\/k=2\/k=3\/k=4\/k=5\/k=6\/k=7)with rfl|rfl|rfl|rfl|rfl|rfl|rfl|rfl<;>rfl) λa hF=>?_;refine a9 hF λa hF=>?_;refine bf hF func150 (Bh s.key j w4) λv w5 ⟨kb,db,e,n1,n2,n3,kk,kd,kB⟩ a hF=>?_;subst e;have k7:=bk kB g7;have k9:=bk kB g9;have l9:=ar g9;have l5:=ar kd;have s5:=kB.size;refine Rn.plain rfl (Rn.plain rfl ?_);refine CR rfl func173 k_ k_ (hF.g 24) λld w6 hld SD WR Up=>?_;have hC:Ch s i b7 b9 kb (ld+1) ld (NT f120 120 a.tmps ld) 9 115 w .ready link.data.toList w6:=
  ⟨ab (ab gb o_ kB) o_ SD,bk SD k7,bk SD k9,bk SD kk,Up,WR⟩
 have hFar:xe b7 b9 kb (ld+1) ld w:=⟨⟨by omega,by omega,by omega⟩,⟨by omega,by omega,by omega,by omega⟩,⟨by omega,by omega,by omega⟩⟩;have kd:=bk SD kd;refine bm (L:=[.func (.yield (ld+1)) #[] #[],.pk db 0,.pk kb 0]) (N:=16) func173 Ju λg hH=>?_
 iterate 2 refine a9 hH λg hH=>?_
 refine Rn.plain rfl (Rn.plain rfl (Rn.plain rfl ?_));refine LK (s:=s) (i:=i) (T:=a.tmps) QL RR hn hn8 hK h0 ⟨rfl,hF.size,(hF.only (G:=[(7,.pk b7 0),(9,.pk b9 0)]) ⟨rfl,rfl,trivial⟩).slot⟩ hFar (λw5 hC=>?_) _ j link.data.toList g w6 (Nat.lt_succ_self _) o_ (by have:=SF.link;simpa using this) rfl (hH.only ⟨rfl,rfl,rfl,trivial⟩) hC;show Rn (cX prog p AX) _ ((base 120).atR ⟨a.tmps,{target:=.collected ld,args:=#[]}::a.defers⟩ (.endRangeFunc (ld+1)::_)) cs w5;refine fm hC.loop rfl rfl ?_;have hC:=hC.turn hFar .exhausted;have hG:ay [(7,.pk b7 0)] 33 [{target:=.collected ld,args:=#[]}] (Act.mk a.tmps ({target:=.collected ld,args:=#[]}::a.defers)):=⟨by rw[hF.defers],hF.size,(hF.only (G:=[(7,.pk b7 0)]) ⟨rfl,trivial⟩).slot⟩;have c7:=hC.seven
 iterate 2 refine a9 hG λa hG=>?_
 refine Rn.plain rfl (Rn.ends rfl (.inr ⟨_,rfl⟩) (Rn.take (ds:=[]) hG.defers hC.list (Rn.now ⟨⟨_,[]⟩,_,_,rfl,rfl,hG.slot 8 _ rfl,?_,hC.old.trans (eR _ _ o_)⟩)));unfold pp;rw[hn,Int.toNat_natCast,Int.toNat_natCast];rfl

end
end Go.Proofs.YtkmoglhgkcnalaaGreatDoor.Lp
namespace Go.Proofs.YtkmoglhgkcnalaaGreatDoor
open Go Go.Conc Go.RowKit
open Go.ConcN (WgLive)
theorem kW{o:Oper}{xs:Array Operand}{ats:Array TypeId}(QH:o.op=.call {callee:=.value (.func f),args:=xs,argTypes:=ats})(ha:xs.map ev=args)(hr:(callFunc f args).runT P w #[]=(.ok (.enter f args) w,#[]))
 (hf:ev (.func f)=.func (.func f) #[] #[]:=by rfl):(execOp ev o).run P w=.ok (.enter f args) w/\(execOp ev o).events P w #[]=#[]:=by
 have e:execOp ev o=callFunc f args:=by
  simp only[execOp,QH,resolve,Deferred.ofValue,hf,ha];simp[invoke,bind,Sem.bind,pure]
 rw[Sem.runT_eq]at hr;rw[e];exact⟨(Prod.mk.inj hr).1,(Prod.mk.inj hr).2⟩
theorem II{c:Code}(L:List Value)(hf:P.funcs[f]?=some fn)(hb:fn.body=some c)(hN:fn.ntmps=N):Frame.enter P f L.toArray .deferred=(baseD f).atR ⟨L.toArray++Array.replicate (N- L.toArray.size) undef,[]⟩ [.code c]:=by
 subst hN;exact enter_atD L.toArray hf hb
theorem tS{t:Tmp}(hr:fn.results=#[.tmp t]){tmps:Array Value}(hv:tmps[t]?=some v)(w:World):(results fn tmps).run P w=.ok v w/\(results fn tmps).events P w #[]=#[]:=by
 have e:tmps.getD t undef=v:=by rw[Array.getD_eq_getD_getElem?,hv];rfl
 constructor
 .rw[results_tmp hr,e]
 .exact events_results_tmp hr _ _
abbrev eX(P:Program)(ty Wg C n:Nat)(val:Nat->Value)(RO:Nat->Prop):aA:={P:=P,ty:=ty,Wg:=Wg,C:=C,ety:=9,n:=n,val:=val,RO:=RO,mine:=λi c=>c%8=i/\c<n}
structure eT where
 s:eD
 /-- what may stand behind its cells-/
 ex:Array Value
 bs:Nat
 bg:Nat
 be:Nat
 ga:Addr
 glen:Nat
 gcap:Nat
 dig:Nat->Int
 /-- where the digits lie-/
 gr:Nat->Prop
 /-- the JM of roots-/
 KS:List Int
def NK(N:eT)(n:Nat)(w:World):Prop:=∀w':World,(∀b,N.gr b->w'.heap[b]?=w.heap[b]?)->∀c,c<n->
 (Instr.loadAt 3 (.pointer (some (N.ga.add c)))).run prog w'= .ok (.int .i64 (N.dig c)) w'/\∀e∈(Instr.loadAt 3 (.pointer (some (N.ga.add c)))).events prog w' #[],∃a:Addr,e=⟨.cell a,false,false⟩/\N.gr a.block
structure lQ (N:eT) (C n:Nat) (w:World):Prop where
 sig:w.heap[N.bs]?=some (.cells (N.s.cells++N.ex) 119)
 gone:w.heap[N.bg]?=some (.cells #[.slice (some N.ga) N.glen N.gcap] 24)
 ends:w.heap[N.be]?=some (.cells #[.sk C n n] 43)
 digs:NK N n w
 tab:w.rangeAt 0 0 (aC N.KS)
 zero:∃v0,w.cell? ⟨0,0,none⟩=some v0
theorem jw{N:eT}{ty:Nat}{val:Nat->Value}(h:RO N.bs/\RO N.bg/\RO N.be/\(∀b,N.gr b->RO b)/\RO 0):AN (eX prog ty Wg C n val RO) (lQ N C n):=λw w' hk _ hp=>by
 have h0:w'.heap[0]?=w.heap[0]?:=hk _ h.2.2.2.2;refine⟨(hk _ h.1).trans hp.sig,(hk _ h.2.1).trans hp.gone,(hk _ h.2.2.1).trans hp.ends,λw2 h2=>hp.digs w2 λb hb=>(h2 b hb).trans (hk b (h.2.2.2.1 b hb)),λj v hv=>?_,?_⟩
 .have:=hp.tab j v hv;unfold World.cell? at this⊢;rw[h0];exact this
 .obtain⟨v0,q0⟩:=hp.zero;refine⟨v0,?_⟩;rw[←q0];unfold World.cell?;rw[h0]
structure ov (N:eT) (n:Nat) (val:Nat->Value):Prop where
 call:∀c,c<n->∀wv:World,wv.rangeAt 0 0 (aC N.KS)->0<wv.heap.size->Cl ⟨prog,true,Ic⟩ 120 #[.agg N.s.cells,.int .i64 c,.int .i64 (N.dig c),.string (N.s.links.extract (c*32) ((c+1)*32))] wv λe _=>∃v,e=.returned v/\v=val c
 plain:∀c,c<n->∃t,val c=.string t
 glen:n<=N.glen
 count:N.s.count=n
 small:n<=65536
 links:n*32<=N.s.links.size
section
variable{N:eT}{ty:Nat}{val:Nat->Value}{l:Nat}{done:Nat->Prop}{k:List Item}
def K2(N:eT)(c:Nat):List (Nat×Value):=[(1,.pk N.bs 0),(3,.pk N.bg 0),(4,.pk N.be 0),(5,.int .i64 c),(6,.string (N.s.links.extract (c*32) ((c+1)*32)))]
def De(N:eT)(C n:Nat)(val:Nat->Value)(c:Nat):List (Nat×Nat×Value):=[(0,12,.sk C n n),(1,13,.int .i64 c),(2,14,.agg N.s.cells),(3,15,.int .i64 c),(4,16,.slice (some N.ga) N.glen N.gcap),(5,17,.int .i64 c),
 (6,18,.pointer (some (N.ga.add c))),(7,19,.int .i64 (N.dig c)),(8,20,.string (N.s.links.extract (c*32) ((c+1)*32))),(9,21,val c),(10,22,.pointer (some ((⟨C,0,none⟩:Addr).add c)))]
theorem Q5:K5 (bC f117 4)=true:=by kernel_rfl
theorem O1(N:eT)(C n:Nat)(val:Nat->Value)(c:Nat):∀p∈De N C n val c,∀q∈De N C n val c,p.2.1=q.2.1\/p.1=q.1->p=q:=by
 intro p hp q hq h;simp only[De,List.mem_cons,List.not_mem_nil,or_false]at hp hq;rcases hp with rfl|rfl|rfl|rfl|rfl|rfl|rfl|rfl|rfl|rfl|rfl<;>rcases hq with rfl|rfl|rfl|rfl|rfl|rfl|rfl|rfl|rfl|rfl|rfl<;>first|rfl|(exfalso;simp at h)
theorem zo(N:eT)(C n:Nat)(val:Nat->Value)(c:Nat):∀p∈De N C n val c,p.2.1<23/\p.1≠11/\∀q∈K2 N c,q.1≠p.2.1:=by
 intro p hp;simp only[De,List.mem_cons,List.not_mem_nil,or_false]at hp;rcases hp with rfl|rfl|rfl|rfl|rfl|rfl|rfl|rfl|rfl|rfl|rfl<;>refine⟨by simp,by simp,λq hq=>?_⟩<;>simp only[K2,List.mem_cons,List.not_mem_nil,or_false]at hq<;>rcases hq with rfl|rfl|rfl|rfl|rfl<;>simp
theorem Oo{c:Nat}{listed:Array Bool}(h:lO (K2 N c) (De N C n val c) 23 listed a){d:Nat}(hm:(m,d,v)∈De N C n val c):lO (K2 N c) (De N C n val c) 23 (listed.setIfInBounds m true) (a.put (some d) v):=
 h.put (zo N C n val c _ hm).1 (zo N C n val c _ hm).2.2 λp hp e=>O1 N C n val c p hp _ hm e
theorem I6:(∀w:World,(sizeOf 3).run prog w=.ok 1 w)/\(∀w:World,(sizeOf 9).run prog w=.ok 1 w):=⟨λ_=>by kernel_rfl,λ_=>by kernel_rfl⟩
theorem bI{o:Oper}(h:Yl P ev o w v #[]):(execOp ev o).run P w=.ok (.value v) w/\∀e∈(execOp ev o).events P w #[],eC V RO e:=⟨h.1,λe he=>by rw[h.2]at he;simp at he⟩
theorem oU{o:Oper}(hb:V ad.block\/RO ad.block)(h:Yl P ev o w v #[⟨.cell ad,false,false⟩]):(execOp ev o).run P w=.ok (.value v) w/\∀e∈(execOp ev o).events P w #[],eC V RO e:=⟨h.1,λe he=>by
 rw[h.2]at he;simp only[List.mem_toArray,List.mem_singleton]at he;subst he;exact⟨rfl,hb.imp id λh=>⟨h,rfl⟩⟩⟩
theorem Fj{o:Oper}(hb:V b\/RO b)(h:Yl P ev o w v (mG b)):(execOp ev o).run P w=.ok (.value v) w/\∀e∈(execOp ev o).events P w #[],eC V RO e:=⟨h.1,λe he=>by
 rw[h.2]at he;obtain⟨k,rfl⟩:=xN he;exact⟨rfl,hb.imp id λh=>⟨h,rfl⟩⟩⟩
def CU(X:aA)(i:Nat)(V:Nat->Prop)(c:Nat)(w0:World)(listed:Array Bool)(w:World):Prop:=(listed[11]?=some false/\w=w0)\/(listed[11]?=some true/\∃w1,aV X i V w0 w1/\w=w1.setCell (X.at c) (X.val c))
theorem CU.other{X:aA}{c:Nat}{listed:Array Bool}(hm:m≠11)(h:CU X i V c w0 listed w):CU X i V c w0 (listed.setIfInBounds m true) w:=by
 unfold CU;rw[Array.getElem?_setIfInBounds_ne hm];exact h
theorem KG(D:ov N n val)(hR:RO N.bs/\RO N.bg/\RO N.be/\(∀b,N.gr b->RO b)/\RO 0){c:Nat}(hc:c%8=i/\c<n)(hS:pw (eX prog ty Wg C n val RO) i (lQ N C n) V done w0)(hd:a.defers=[])(hz:23<=a.tmps.size)(hf:∀p∈K2 N c,a.tmps[p.1]?=some p.2)
 (Rl:∀a' w,aV (eX prog ty Wg C n val RO) i V w0 w->Wk (eX prog ty Wg C n val RO) i V ((rb 117 l).atR a' k) cs (w.setCell ⟨C,c,none⟩ (val c))):
 Wk (eX prog ty Wg C n val RO) i V ((rb 117 l).atR a (.code (rD f117 4)::k)) cs w0:=by
 have hL:=jw (ty:=ty) (Wg:=Wg) (C:=C) (n:=n) (val:=val) hR;have QZ:∀w,aV (eX prog ty Wg C n val RO) i V w0 w->lQ N C n w:=λw r=>(hS.rely hL r).pap;refine JC λt=>?_;have hsch:Region.schedule ((eX prog ty Wg C n val RO).P.follows .mixedOrders) (bC f117 4) t=Region.linearise .any (bC f117 4) t:=by
  unfold Region.schedule;rw[show Region.departs (bC f117 4)=false from by kernel_rfl];simp
 rw[hsch];refine zr (Md Q5) (λlisted a w=>lO (K2 N c) (De N C n val c) 23 listed a/\CU (eX prog ty Wg C n val RO) i V c w0 listed w) (λlisted a w Rv h=>?_) (λlisted a w m o rest QY ho hm Rs h hgo=>?_) t a w0 ⟨⟨hd,hz,hf,λp hp hl=>?_⟩,.inl ⟨by rfl,rfl⟩⟩
 .obtain⟨h1,h2⟩:=h;rcases h2 with⟨h2,_⟩|⟨_,w1,r1,rfl⟩
  .rw[Rv 11 d_]at h2;cases h2
  .exact Wk.plain rfl (Rl a w1 r1)
 .obtain⟨h1,h2⟩:=h;have QK:m<12:=(Array.getElem?_eq_some_iff.1 ho).1;have UU:∃Ua,pw (eX prog ty Wg C n val RO) i (lQ N C n) V Ua w:=by
   rcases h2 with⟨_,rfl⟩|⟨_,w1,r1,rfl⟩
   .exact⟨_,hS⟩
   .exact⟨_,(hS.rely hL r1).put hL hc.2⟩
  have UK:∀w',aV (eX prog ty Wg C n val RO) i V w w'->lQ N C n w':=λw' r=>(UU.choose_spec.rely hL r).pap;have Su:∀{m:Nat} {o:Oper} {d:Nat} (v:Value),(m,d,v)∈De N C n val c->o.dst=some d->(∀y,Region.wanted o y=true)->(∀c,o.op≠ .defer c)->m≠11->(bC f117 4)[m]?=some o->
   (∀w',aV (eX prog ty Wg C n val RO) i V w w'->(execOp a.eval o).run prog w'= .ok (.value v) w'/\∀e∈(execOp a.eval o).events prog w' #[],eC V RO e)->
   (∀a' w',lO (K2 N c) (De N C n val c) 23 (listed.setIfInBounds m true) a'/\CU (eX prog ty Wg C n val RO) i V c w0 (listed.setIfInBounds m true) w'->Wk (eX prog ty Wg C n val RO) i V ((rb 117 l).atR a' (.inRegion (bC f117 4) rest::k)) cs w')->
   Wk (eX prog ty Wg C n val RO) i V ((rb 117 l).atR a (.inRegion (bC f117 4) (m::rest)::k)) cs w:=λ{m o d} v RY e1 e3 QT h11 ho hy hgo=>by
   refine Wk.value v ho (e3 _) QT hy ?_;rw[e1];exact hgo _ _ ⟨Oo h1 RY,h2.other h11⟩
  rcases(by omega:m=0\/m=1\/m=2\/m=3\/m=4\/m=5\/m=6\/m=7\/m=8\/m=9\/m=10\/m=11)with rfl|rfl|rfl|rfl|rfl|rfl|rfl|rfl|rfl|rfl|rfl|rfl
  .obtain⟨e1,e2,e3⟩:=dS (d:=some 12) (p:=.load 43 (.tmp 4)) ho k_;refine Su (m:=0) _ (List.mem_of_getElem? (i:=0) rfl) e1 e3 (by rw[e2];simp) d_ ho (λw' r'=>?_) hgo;exact oU (.inr hR.2.2.1) (an oJ e2 (aQ (h1.fixed _ (List.mem_of_getElem? (i:=2) rfl))) (by rw[ak (UK w' r').ends];rfl))
  .obtain⟨e1,e2,e3⟩:=dS (d:=some 13) (p:=.move (.tmp 5)) ho k_;refine Su (m:=1) _ (List.mem_of_getElem? (i:=1) rfl) e1 e3 (by rw[e2];simp) d_ ho (λw' r'=>?_) hgo;have hy:=cF (ev:=a.eval) (o:=o) (w:=w') prog (.inl e2);rw[(aQ (h1.fixed _ (List.mem_of_getElem? (i:=3) rfl)))]at hy;exact bI hy
  .obtain⟨e1,e2,e3⟩:=dS (d:=some 14) (p:=.load 119 (.tmp 1)) ho k_;refine Su (m:=2) _ (List.mem_of_getElem? (i:=2) rfl) e1 e3 (by rw[e2];simp) d_ ho (λw' r'=>?_) hgo;exact Fj (.inr hR.1) (kn e2 (aQ (h1.fixed _ (List.mem_of_getElem? (i:=0) rfl))) (UK w' r').sig)
  .obtain⟨e1,e2,e3⟩:=dS (d:=some 15) (p:=.move (.tmp 5)) ho k_;refine Su (m:=3) _ (List.mem_of_getElem? (i:=3) rfl) e1 e3 (by rw[e2];simp) d_ ho (λw' r'=>?_) hgo;have hy:=cF (ev:=a.eval) (o:=o) (w:=w') prog (.inl e2);rw[(aQ (h1.fixed _ (List.mem_of_getElem? (i:=3) rfl)))]at hy;exact bI hy
  .obtain⟨e1,e2,e3⟩:=dS (d:=some 16) (p:=.load 24 (.tmp 3)) ho k_;refine Su (m:=4) _ (List.mem_of_getElem? (i:=4) rfl) e1 e3 (by rw[e2];simp) d_ ho (λw' r'=>?_) hgo;exact oU (.inr hR.2.1) (an mO e2 (aQ (h1.fixed _ (List.mem_of_getElem? (i:=1) rfl))) (by rw[ak (UK w' r').gone];rfl))
  .obtain⟨e1,e2,e3⟩:=dS (d:=some 17) (p:=.move (.tmp 5)) ho k_;refine Su (m:=5) _ (List.mem_of_getElem? (i:=5) rfl) e1 e3 (by rw[e2];simp) d_ ho (λw' r'=>?_) hgo;have hy:=cF (ev:=a.eval) (o:=o) (w:=w') prog (.inl e2);rw[(aQ (h1.fixed _ (List.mem_of_getElem? (i:=3) rfl)))]at hy;exact bI hy
  .obtain⟨e1,e2,e3⟩:=dS (d:=some 18) (p:=.indexAddr 24 (.tmp 16) (.tmp 17)) ho k_;refine Su (m:=6) _ (List.mem_of_getElem? (i:=6) rfl) e1 e3 (by rw[e2];simp) d_ ho (λw' r'=>?_) hgo;exact bI (bJ (e:=3) k_ I6.1 e2 (aQ (h1.come _ (List.mem_of_getElem? (i:=4) rfl) (cP (n:=6) (k:=4) k_ ho Rs))) (aQ (h1.come _ (List.mem_of_getElem? (i:=5) rfl) (cP (n:=6) (k:=5) k_ ho Rs))) (Nat.lt_of_lt_of_le hc.2 D.glen))
  .obtain⟨e1,e2,e3⟩:=dS (d:=some 19) (p:=.load 3 (.tmp 18)) ho k_;refine Su (m:=7) _ (List.mem_of_getElem? (i:=7) rfl) e1 e3 (by rw[e2];simp) d_ ho (λw' r'=>?_) hgo;have hp:=(aQ (h1.come _ (List.mem_of_getElem? (i:=6) rfl) (cP (n:=7) (k:=6) k_ ho Rs)));have hd:=(UK w' r').digs w' (λ_ _=>rfl) c hc.2;have e:execOp a.eval o=(do pure (.value (←Instr.loadAt 3 (.pointer (some (N.ga.add c)))))):=(by simp only[execOp,e2,hp]);refine⟨by rw[e,Sem.run_bind,hd.1];simp,λev he=>?_⟩;rw[e]at he;have he:ev∈(Instr.loadAt 3 (.pointer (some (N.ga.add c)))).events prog w' #[]:=by
    rw[Sem.events_bind,hd.1]at he;simpa using he
   obtain⟨ad,rfl,hg⟩:=hd.2 ev he;exact⟨rfl,.inr ⟨hR.2.2.2.1 _ hg,rfl⟩⟩
  .obtain⟨e1,e2,e3⟩:=dS (d:=some 20) (p:=.move (.tmp 6)) ho k_;refine Su (m:=8) _ (List.mem_of_getElem? (i:=8) rfl) e1 e3 (by rw[e2];simp) d_ ho (λw' r'=>?_) hgo;have hy:=cF (ev:=a.eval) (o:=o) (w:=w') prog (.inl e2);rw[(aQ (h1.fixed _ (List.mem_of_getElem? (i:=4) rfl)))]at hy;exact bI hy
  .obtain⟨e1,e2,e3⟩:=dS (d:=some 21) (p:=.call {callee:=.value (.func 120),args:=#[.tmp 14,.tmp 15,.tmp 19,.tmp 20],argTypes:=#[119,3,3,9]}) ho k_;obtain⟨Ua,hSw⟩:=UU;have a1:=(aQ (h1.come _ (List.mem_of_getElem? (i:=2) rfl) (cP (n:=9) (k:=2) k_ ho Rs)));have a2:=(aQ (h1.come _ (List.mem_of_getElem? (i:=3) rfl) (cP (n:=9) (k:=3) k_ ho Rs)));have a3:=(aQ (h1.come _ (List.mem_of_getElem? (i:=7) rfl) (cP (n:=9) (k:=7) k_ ho Rs)));have a4:=(aQ (h1.come _ (List.mem_of_getElem? (i:=8) rfl) (cP (n:=9) (k:=8) k_ ho Rs)));have UD:(#[Operand.tmp 14,.tmp 15,.tmp 19,.tmp 20]:Array Operand).map a.eval=#[.agg N.s.cells,.int .i64 c,.int .i64 (N.dig c),.string (N.s.links.extract (c*32) ((c+1)*32))]:=(by simp[a1,a2,a3,a4]);have QR:∀w',aV (eX prog ty Wg C n val RO) i V w w'->∃c e z,w'.heap[0]?=some (.cells c e z):=λw' r'=>by
    obtain⟨v0,q0⟩:=(UK w' r').zero;unfold World.cell? at q0;split at q0
    .exact⟨_,_,_,‹_›⟩
    .cases q0
   refine Wk.call (RO:=(· =0)) (Val:=(· =val c)) (λb hb=>hb▸hR.2.2.2.2) (λw' r' b hb=>hb▸QR w' r') (λw' r' wv QY hv=>D.call c hc.2 wv (λj v hj=>?_) ?_) hSw.low ho (e3 _) (by rw[e2];simp) (λw'=>?_) λv hv=>?_
   .obtain⟨c0,e0,z0,q0⟩:=QR w' r';have h1:=(UK w' r').tab j v hj;unfold World.cell? at h1⊢;rw[hv 0 c0 e0 z0 rfl q0];rw[q0]at h1;exact h1
   .obtain⟨c0,e0,z0,q0⟩:=QR w' r';rw[QY];exact(Array.getElem?_eq_some_iff.1 q0).1
   .have hr:=jm (P:=prog) (w:=w') func120 k_ k_ #[.agg N.s.cells,.int .i64 c,.int .i64 (N.dig c),.string (N.s.links.extract (c*32) ((c+1)*32))];exact kW e2 UD hr
   .subst hv;rw[e1];exact hgo _ _ ⟨Oo h1 (List.mem_of_getElem? (i:=9) rfl),h2.other d_⟩
  .obtain⟨e1,e2,e3⟩:=dS (d:=some 22) (p:=.indexAddr 43 (.tmp 12) (.tmp 13)) ho k_;refine Su (m:=10) _ (List.mem_of_getElem? (i:=10) rfl) e1 e3 (by rw[e2];simp) d_ ho (λw' r'=>?_) hgo;exact bI (bJ (e:=9) k_ I6.2 e2 (aQ (h1.come _ (List.mem_of_getElem? (i:=0) rfl) (cP (n:=10) (k:=0) k_ ho Rs))) (aQ (h1.come _ (List.mem_of_getElem? (i:=1) rfl) (cP (n:=10) (k:=1) k_ ho Rs))) hc.2)
  .obtain⟨e1,e2,e3⟩:=dS (d:=none) (p:=.store 9 (.tmp 22) (.tmp 21)) ho k_;obtain⟨t,ht⟩:=D.plain c hc.2;have hp:=(aQ (h1.come _ (List.mem_of_getElem? (i:=10) rfl) (cP (n:=11) (k:=10) k_ ho Rs)));rw[fO,Nat.zero_add]at hp;have hv:=(aQ (h1.come _ (List.mem_of_getElem? (i:=9) rfl) (cP (n:=11) (k:=9) k_ ho Rs)));rcases h2 with⟨_,rfl⟩|⟨h3,_⟩
   .refine Wk.store (c:=c) (v:=val c) ho (e3 _) (by rw[e2];simp) rfl k_ hc (λw' r'=>?_) λw' r'=>?_
    .obtain⟨cells,q1,q2⟩:=(hS.rely hL r').list;have q3:c<cells.size:=(by rw[show cells.size=n from q2];exact hc.2);have SX:w'.cell? ⟨C,c,none⟩=some cells[c]:=by
         rw[ak q1];exact Array.getElem?_eq_getElem q3
     exact dr (by rw[ht];rfl) (by rw[ht];rfl) (I6.2 w') e2 hp hv SX (by unfold World.frozen?;rw[show w'.heap[(⟨C,c,none⟩:Addr).block]?=_ from q1];simp)
    .rw[e1];refine hgo _ _ ⟨h1.pass (λp hp=>(zo N C n val c p hp).2.1) _,.inr ⟨?_,w',r',rfl⟩⟩;exact Array.getElem?_setIfInBounds_self_of_lt (by rw[QY];decide)
   .rw[h3]at hm;cases hm
 .simp[Array.getElem?_replicate]at hl
end

end Go.Proofs.YtkmoglhgkcnalaaGreatDoor
namespace Go.Proofs.YtkmoglhgkcnalaaGreatDoor
open Go Go.Conc
section
variable{X:aA}{Next:(Nat->Prop)->Goroutine->World->Prop}
def Ik(X:aA)(Next:(Nat->Prop)->Goroutine->World->Prop)(m:Nat)(V:Nat->Prop)(fr:Frame)(cs:List Frame)(w0:World):Prop:=∀w,aY X V w0 w->bq X Next m V (cQ fr cs) w
theorem Ik.now(h:Ik X Next m V fr cs w):bq X Next m V (cQ fr cs) w:=h w (aY.refl X V w)
theorem Ik.stop(h:∀QI,aY X V w QI->Next V (cQ fr cs) QI):Ik X Next m V fr cs w:=λ_ QJ=>bq.stop λRJ SQ=>h RJ (QJ.trans SQ)
variable{b:Frame}{k:List Item}
theorem Ik.exec(hm:fr.mode=.run)(h:∀w,aY X V w0 w->∃g' w' es,stepG.exec X.P true true fr cs none w=.go g' w' es/\bo V X.RO w w' es/\bq X Next m (grown V w w') g' w'):Ik X Next (m+1) V fr cs w0:=λ_ hw=>
 bq.step rfl λQI QJ=>let ⟨g',w',es,h1,h2,h3⟩:=h QI (hw.trans QJ);⟨g',w',es,(cZ hm true cs QI).trans h1,h2,h3⟩
theorem Ik.plain{t:List Item}(hp:eZ (b.atR a k)=some t)(h:Ik X Next m V (b.atR a t) cs w0):Ik X Next (m+1) V (b.atR a k) cs w0:=
 Ik.exec rfl λw hw=>⟨_,w,#[],qT hp,c_ _ _ _,by rw[bK];exact h w hw⟩
section
variable{o:Oper}
theorem Ik.oper(ho:ops[n]?=some o)(hw:Region.wanted o (yielded ops a.tmps)=true)(QT:∀c,o.op≠ .defer c)
 (h:∀w,aY X V w0 w->∃nx w',(execOp a.eval o).run X.P w=.ok nx w'/\JV nx=true/\bo V X.RO w w' ((execOp a.eval o).events X.P w #[])/\bq X Next m (grown V w w') (jY X.P (b.atR a (.inRegion ops (n::rest)::k)) cs nx) w'):
 Ik X Next (m+1) V (b.atR a (.inRegion ops (n::rest)::k)) cs w0:=by
 refine Ik.exec rfl λw RG=>?_;obtain⟨nx,w',h1,h2,h3,h4⟩:=h w RG;have hc:jP (b.atR a (.inRegion ops (n::rest)::k)):=λd w r s k e=>by cases e
 have hr:(execOp (b.atR a (.inRegion ops (n::rest)::k)).eval o).runT X.P w #[]=(.ok nx w',(execOp a.eval o).events X.P w #[]):=by rw[Frame.eval_atR,Sem.runT_eq,h1]
 exact⟨_,w',_,(jD rfl ho hw QT).trans (ij (cs:=cs) hc hr h2),h3.sub (jS _ _ _),h4⟩
theorem Ik.value(v:Value)(ho:ops[n]?=some o)(hw:Region.wanted o (yielded ops a.tmps)=true)(QT:∀c,o.op≠ .defer c)
 (hr:∀w,aY X V w0 w->(execOp a.eval o).run X.P w=.ok (.value v) w/\∀e∈(execOp a.eval o).events X.P w #[],eC V X.RO e)
 (h:Ik X Next m V (b.atR (a.put o.dst v) (.inRegion ops rest::k)) cs w0):Ik X Next (m+1) V (b.atR a (.inRegion ops (n::rest)::k)) cs w0:=by
 refine Ik.oper ho hw QT λw RG=>⟨.value v,w,(hr w RG).1,rfl,mJ (hr w RG).2,?_⟩;rw[bK];show bq X Next m V (cQ ((b.atR a (.inRegion ops (n::rest)::k)).finish v) cs) w;rw[Frame.finish_atR,ho];exact h w RG
theorem JG(ho:ops[n]?=some o)(hw:Region.wanted o (yielded ops a.tmps)=true)(QT:∀c,o.op≠ .defer c)
 (hr:∀w,aY X V w0 w->∃v w',(execOp a.eval o).run X.P w=.ok (.value v) w'/\bo V X.RO w w' ((execOp a.eval o).events X.P w #[])/\
   Ik X Next m (grown V w w') (b.atR (a.put o.dst v) (.inRegion ops rest::k)) cs w'):Ik X Next (m+1) V (b.atR a (.inRegion ops (n::rest)::k)) cs w0:=by
 refine Ik.oper ho hw QT λw RG=>?_;obtain⟨v,w',h1,h2,h3⟩:=hr w RG;refine⟨.value v,w',h1,rfl,h2,?_⟩;show bq X Next m (grown V w w') (cQ ((b.atR a (.inRegion ops (n::rest)::k)).finish v) cs) w';rw[Frame.finish_atR,ho];exact h3.now
theorem w_(ho:ops[n]?=some o)(hw:Region.wanted o (yielded ops a.tmps)=true)(QT:∀c,o.op≠ .defer c)
 (hr:∀w,aY X V w0 w->∃w',(execOp a.eval o).run X.P w=.ok .skip w'/\bo V X.RO w w' ((execOp a.eval o).events X.P w #[])/\
   Ik X Next m (grown V w w') (b.atR (a.put o.dst undef) (.inRegion ops rest::k)) cs w'):Ik X Next (m+1) V (b.atR a (.inRegion ops (n::rest)::k)) cs w0:=by
 refine Ik.oper ho hw QT λw RG=>?_;obtain⟨w',h1,h2,h3⟩:=hr w RG;refine⟨.skip,w',h1,rfl,h2,?_⟩;show bq X Next m (grown V w w') (cQ ((b.atR a (.inRegion ops (n::rest)::k)).finish undef) cs) w';rw[Frame.finish_atR,ho];exact h3.now
theorem Ik.enter(ho:ops[n]?=some o)(hw:Region.wanted o (yielded ops a.tmps)=true)(QT:∀c,o.op≠ .defer c)
 (hr:∀w,(execOp a.eval o).run X.P w=.ok (.enter f args) w/\(execOp a.eval o).events X.P w #[]=#[])
 (h:Ik X Next m V (Frame.enter X.P f args .normal) (b.atR a (.inRegion ops (n::rest)::k)::cs) w0):Ik X Next (m+1) V (b.atR a (.inRegion ops (n::rest)::k)) cs w0:=by
 refine Ik.oper ho hw QT λw RG=>⟨.enter f args,w,(hr w).1,rfl,?_,?_⟩
 .rw[(hr w).2];exact c_ _ _ _
 .rw[bK];exact h w RG
end
theorem Ik.ends(hb:b.roundOf=none)(hk:k=[]\/∃k',k=.code .ret::k')(h:Ik X Next m V {b.atR a k with mode:=.returning} cs w0):Ik X Next (m+1) V (b.atR a k) cs w0:=
 Ik.exec rfl λw hw=>⟨_,w,#[],rC ⟨hb,hk⟩,c_ _ _ _,by rw[bK];exact h w hw⟩
theorem Ik.leave{c:Frame}(v:Value)(hk:b.kind=.normal)(hd:a.defers=[])(hf:X.P.funcs[b.fn]?=some fn)(hr:∀w,(results fn a.tmps).run X.P w=.ok v w/\(results fn a.tmps).events X.P w #[]=#[])
 (h:Ik X Next m V (c.finish v) cs w0):Ik X Next (m+1) V {b.atR a k with mode:=.returning} (c::cs) w0:=λw hw=>by
 refine bq.step rfl λQI QJ=>⟨_,QI,#[],oM (fr:={b.atR a k with mode:=.returning}) (c:=c) (cs:=cs) hk hd rfl hf (hr QI).1 (hr QI).2 true ⟨rfl,rfl,rfl,rfl⟩,c_ _ _ _,?_⟩;rw[bK];exact h QI (hw.trans QJ)
end

section
variable{X:aA}{b:Frame}{k:List Item}
theorem Wk.region{id:Nat}{L:List Nat}(hL:List.range ops.size=L)(h:Wk X i V (b.atR a (.inRegion ops L::k)) cs w0):Wk X i V (b.atR a (.code (.region id ops false)::k)) cs w0:=Wk.plain rfl (by rw[hL];exact h)
theorem Wk.op(hF:ay F N ds a)(d:Tmp)(p:Op)(v:Value)(hd:d<N)(h:(ops[m]?).map (λo=>(o.dst,o.op,o.guard))=some (some d,p,none))(QT:∀c,p≠ .defer c)
 (hy:∀o:Oper,o.op=p->∀w,aV X i V w0 w->(execOp a.eval o).run X.P w=.ok (.value v) w/\∀e∈(execOp a.eval o).events X.P w #[],eC V X.RO e)
 (next:∀a',ay ((d,v)::F) N ds a'->Wk X i V (b.atR a' (.inRegion ops rest::k)) cs w0):Wk X i V (b.atR a (.inRegion ops (m::rest)::k)) cs w0:=by
 obtain⟨o,ho,e1,e2,e3⟩:=ka h;refine Wk.value v ho (e3 _) (λc=>by rw[e2];exact QT c) (hy o e2) ?_;rw[e1];exact next _ (hF.put hd v)
theorem Wk.mk(hF:ay F N ds a)(d:Tmp)(p:Op)(cells:Array Value)(t:TypeId)(hd:d<N)(h:(ops[m]?).map (λo=>(o.dst,o.op,o.guard))=some (some d,p,none))(QT:∀c,p≠ .defer c)
 (hy:∀o:Oper,o.op=p->∀w,(execOp a.eval o).run X.P w=.ok (.value (.pk w.heap.size 0)) (w.alloc (.cells cells t))/\(execOp a.eval o).events X.P w #[]=#[])
 (next:∀a' w,aV X i V w0 w->ay ((d,.pk w.heap.size 0)::F) N ds a'->Wk X i (grown V w (w.alloc (.cells cells t))) (b.atR a' (.inRegion ops rest::k)) cs (w.alloc (.cells cells t))):Wk X i V (b.atR a (.inRegion ops (m::rest)::k)) cs w0:=by
 obtain⟨o,ho,e1,e2,e3⟩:=ka h;refine JB ho (e3 _) (λc=>by rw[e2];exact QT c) λw hw=>⟨_,_,(hy o e2 w).1,?_,?_⟩
 .rw[(hy o e2 w).2];exact lw _ _ _ _
 .rw[e1];exact next _ w hw (hF.put hd _)
theorem Ik.region{Next:(Nat->Prop)->Goroutine->World->Prop}{id:Nat}{L:List Nat}(hL:List.range ops.size=L)(h:Ik X Next n V (b.atR a (.inRegion ops L::k)) cs w0):Ik X Next (n+1) V (b.atR a (.code (.region id ops false)::k)) cs w0:=Ik.plain rfl (by rw[hL];exact h)
theorem Ik.op{Next:(Nat->Prop)->Goroutine->World->Prop}(hF:ay F N ds a)(d:Tmp)(p:Op)(v:Value)(hd:d<N)(h:(ops[m]?).map (λo=>(o.dst,o.op,o.guard))=some (some d,p,none))(QT:∀c,p≠ .defer c)
 (hy:∀o:Oper,o.op=p->∀w,aY X V w0 w->(execOp a.eval o).run X.P w=.ok (.value v) w/\∀e∈(execOp a.eval o).events X.P w #[],eC V X.RO e)
 (next:∀a',ay ((d,v)::F) N ds a'->Ik X Next n V (b.atR a' (.inRegion ops rest::k)) cs w0):Ik X Next (n+1) V (b.atR a (.inRegion ops (m::rest)::k)) cs w0:=by
 obtain⟨o,ho,e1,e2,e3⟩:=ka h;refine Ik.value v ho (e3 _) (λc=>by rw[e2];exact QT c) (hy o e2) ?_;rw[e1];exact next _ (hF.put hd v)
theorem Ik.mk{Next:(Nat->Prop)->Goroutine->World->Prop}(hF:ay F N ds a)(d:Tmp)(p:Op)(v:World->Value)(ob:World->Obj)(hd:d<N)(h:(ops[m]?).map (λo=>(o.dst,o.op,o.guard))=some (some d,p,none))(QT:∀c,p≠ .defer c)
 (hy:∀o:Oper,o.op=p->∀w,aY X V w0 w->(execOp a.eval o).run X.P w=.ok (.value (v w)) (w.alloc (ob w))/\∀e∈(execOp a.eval o).events X.P w #[],eC (grown V w (w.alloc (ob w))) X.RO e)
 (next:∀a' w,aY X V w0 w->ay ((d,v w)::F) N ds a'->Ik X Next n (grown V w (w.alloc (ob w))) (b.atR a' (.inRegion ops rest::k)) cs (w.alloc (ob w))):Ik X Next (n+1) V (b.atR a (.inRegion ops (m::rest)::k)) cs w0:=by
 obtain⟨o,ho,e1,e2,e3⟩:=ka h;refine JG ho (e3 _) (λc=>by rw[e2];exact QT c) λw hw=>⟨_,_,(hy o e2 w hw).1,?_,?_⟩
 .have q:=lw V X.RO w (ob w);exact⟨q.keep,q.size,q.os,q.output,q.tape,(hy o e2 w hw).2⟩
 .rw[e1];exact next _ w hw (hF.put hd _)
end

end Go.Proofs.YtkmoglhgkcnalaaGreatDoor
namespace Go.Proofs.YtkmoglhgkcnalaaGreatDoor
open Go Go.Conc Go.RowKit
open Go.ConcN (WgLive)
theorem Wk.cond{X:aA}{b:Frame}{k:List Item}{A B:Code}(q:Bool)(hq:a.eval x=.bool q)(h:Wk X i V (b.atR a (.code (if q then A else B)::k)) cs w0):Wk X i V (b.atR a (.code (.cond x A B)::k)) cs w0:=by
 refine Wk.plain (t:=.code (if q then A else B)::k) ?_ h;have e:(b.atR a (.code (.cond x A B)::k)).eval x=.bool q:=by rw[Frame.eval_atR];exact hq
 show(match (b.atR a (.code (.cond x A B)::k)).eval x with| .bool q=>some (Item.code (if q then A else B)::k)|_=>none)=_;rw[e]
theorem N3:f119.body=some (.seq (rG f119 0) (.seq (rG f119 1) .ret)):=by kernel_rfl
def l_(f:Func):Code:=.seq (.seq (rG f 1) (.cond (.tmp 10) .skip (.exit 0))) (.seq (.block 1 (.seq (rG f 3) (.cond (.tmp 24) .ret .skip))) (rG f 2))
theorem Jv:f149.body=some (.seq (rG f149 0) (.block 0 (.loop (l_ f149)))):=by kernel_rfl
def roundOf(f:Func):Code:=.block 1 (rD f 4)
def dV(f:Func):Code:=.seq (rG f 2) (rG f 3)
theorem N4:f117.body=some (.seq (rG f117 0) (.seq (rG f117 1)
 (.block 0 (.rangeFunc (.tmp 9) #[10,11] (dV f117) (roundOf f117))))):=by kernel_rfl
section
variable{N:eT}{ty:Nat}{val:Nat->Value}{l ld b1:Nat}
structure kR (N:eT) (b1 ld l:Nat) (T:Array Value) (st:LoopState) (w:World):Prop where
 sig:w.heap[b1]?=some (.cells N.s.cells 119)
 list:w.heap[ld]?=some (.deferred (some []))
 loop:w.heap[l]?=some (.loop {state:=st,pending:=none,fn:=117,tmps:=T,params:=#[10,11],assign:=dV f117,body:=roundOf f117,defers:=ld})
theorem kR.rely{X:aA}{T:Array Value}{st:LoopState}(h:kR N b1 ld l T st w)(hV:V b1/\V ld/\V l)(r:aV X i V w w'):kR N b1 ld l T st w':=
 ⟨(r.own.keep _ (.inl hV.1)).trans h.sig,(r.own.keep _ (.inl hV.2.1)).trans h.list,(r.own.keep _ (.inl hV.2.2)).trans h.loop⟩
theorem kR.turn{T:Array Value}{st st':LoopState}(h:kR N b1 ld l T st w)(QQ:b1≠l/\ld≠l):kR N b1 ld l T st' (aO w l {state:=st',pending:=none,fn:=117,tmps:=T,params:=#[10,11],assign:=dV f117,body:=roundOf f117,defers:=ld}):=
 ⟨(aF _ _ QQ.1).trans h.sig,(aF _ _ QQ.2).trans h.list,fP h.loop⟩
theorem kR.put{T:Array Value}{st:LoopState}(h:kR N b1 ld l T st w)(QQ:b1≠C/\ld≠C/\l≠C)(c:Nat)(v:Value):kR N b1 ld l T st (w.setCell ⟨C,c,none⟩ v):=by
 have hk:∀b,b≠C->(w.setCell ⟨C,c,none⟩ v).heap[b]?=w.heap[b]?:=λb hb=>by simp only[World.setCell];exact nS hb
 exact⟨(hk _ QQ.1).trans h.sig,(hk _ QQ.2.1).trans h.list,(hk _ QQ.2.2).trans h.loop⟩
theorem GZ(D:ov N n val)(hR:RO N.bs/\RO N.bg/\RO N.be/\(∀b,N.gr b->RO b)/\RO 0){T:Array Value}(hT:ay [(1,.pk N.bs 0),(3,.pk N.bg 0),(4,.pk N.be 0)] 23 [] ⟨T,[]⟩)(hV:V b1/\V ld/\V l)(QQ:b1≠l/\ld≠l)
 {c:Nat} (hc:c%8=i/\c<n) {cf:Frame} {cs:List Frame} {done:Nat->Prop} {w0:World} (hS:pw (eX prog ty Wg C n val RO) i (lQ N C n) V done w0) (hM:kR N b1 ld l T .ready w0)
 (Rl:∀w,pw (eX prog ty Wg C n val RO) i (lQ N C n) V (λd=>done d\/d=c) w->kR N b1 ld l T .ready w->Wk (eX prog ty Wg C n val RO) i V (cf.finish (.bool true)) cs w):
 Wk (eX prog ty Wg C n val RO) i V (Frame.round l 117 (((#[10,11]:Array Tmp).zip #[.int .i64 c,.string (N.s.links.extract (c*32) ((c+1)*32))]).foldl (λtmps (t,a)=>tmps.setIfInBounds t a) T) (dV f117) (roundOf f117) .normal) (cf::cs) w0:=by
 have hL:=jw (ty:=ty) (Wg:=Wg) (C:=C) (n:=n) (val:=val) hR;have hF:=(hT.put (d:=10) d_ (.int .i64 c)).put (d:=11) d_ (.string (N.s.links.extract (c*32) ((c+1)*32)));have ez:((#[10,11]:Array Tmp).zip #[.int .i64 c,.string (N.s.links.extract (c*32) ((c+1)*32))]).foldl (λ(tmps:Array Value) (x:Tmp×Value)=>match x with|(t,a)=>tmps.setIfInBounds t a) T=(T.setIfInBounds 10 (.int .i64 c)).setIfInBounds 11 (.string (N.s.links.extract (c*32) ((c+1)*32))):=by simp
 rw[ez];show Wk _ i V ((rb 117 l).atR ((Act.put ⟨T,[]⟩ (some 10) (.int .i64 c)).put (some 11) (.string (N.s.links.extract (c*32) ((c+1)*32)))) [.code (dV f117),.beginRound,.code (roundOf f117)]) (cf::cs) w0;revert hF;generalize (Act.put ⟨T,[]⟩ (some 10) (.int .i64 c)).put (some 11) (.string (N.s.links.extract (c*32) ((c+1)*32)))=a;intro hF;refine Wk.plain rfl (Wk.region (L:=[0]) rfl (Wk.op hF 5 (.assign (.tmp 10)) (.int .i64 c) d_ k_ s_ (λo ho w _=>?_) λa hF=>?_))
 .have hy:=cF (ev:=a.eval) (w:=w) prog (.inr ho);rw[hF.g 10]at hy;exact bI hy
 refine Wk.plain rfl (Wk.region (L:=[0]) rfl (Wk.op hF 6 (.assign (.tmp 11)) (.string (N.s.links.extract (c*32) ((c+1)*32))) d_ k_ s_ (λo ho w _=>?_) λa hF=>?_))
 .have hy:=cF (ev:=a.eval) (w:=w) prog (.inr ho);rw[hF.g 11]at hy;exact bI hy
 refine Wk.plain rfl (CN rfl hV.2.2 hM.loop rfl λw r=>?_);have TB:=(hS.rely hL r).own hL (gN (RO:=RO) (w:=w) {state:=.busy,pending:=none,fn:=117,tmps:=T,params:=#[10,11],assign:=dV f117,body:=roundOf f117,defers:=ld} hV.2.2);rw[eW]at TB;have hM1:=(hM.rely hV r).turn (st':=.busy) QQ;refine Wk.plain rfl (KG D hR hc TB hF.defers hF.size (λp hp=>?_) λa' w' r'=>?_)
 .simp only[K2,List.mem_cons,List.not_mem_nil,or_false]at hp;rcases hp with rfl|rfl|rfl|rfl|rfl
  .exact hF.slot 1 _ rfl
  .exact hF.slot 3 _ rfl
  .exact hF.slot 4 _ rfl
  .exact hF.slot 5 _ rfl
  .exact hF.slot 6 _ rfl
 have TM:=(TB.rely hL r').put hL hc.2;have hn:b1≠C/\ld≠C/\l≠C:=⟨(hS.sep.1 _ hV.1).2.1,(hS.sep.1 _ hV.2.1).2.1,(hS.sep.1 _ hV.2.2).2.1⟩;have hM2:=(hM1.rely hV r').put hn c (val c);refine Wk.plain rfl (zq rfl rfl hV.2.2 hM2.loop λw3 r3=>?_);have UW:=(TM.rely hL r3).own hL (gN (RO:=RO) (w:=w3) {state:=.ready,pending:=none,fn:=117,tmps:=T,params:=#[10,11],assign:=dV f117,body:=roundOf f117,defers:=ld} hV.2.2);rw[eW]at UW;exact Rl _ UW ((hM2.rely hV r3).turn QQ)
end

section
variable{N:eT}{ty:Nat}{val:Nat->Value}{l ld b1:Nat}
theorem vS(D:ov N n val)(hR:RO N.bs/\RO N.bg/\RO N.be/\(∀b,N.gr b->RO b)/\RO 0){T:Array Value}(hT:ay [(1,.pk N.bs 0),(3,.pk N.bg 0),(4,.pk N.be 0)] 23 [] ⟨T,[]⟩)(hV:V b1/\V ld/\V l)(QQ:b1≠l/\ld≠l)
 (Rw:∀w,pw (eX prog ty Wg C n val RO) i (lQ N C n) V (λ_=>True) w->kR N b1 ld l T .ready w->Wk (eX prog ty Wg C n val RO) i V (cf.finish (.tuple #[])) cs w)
 (c:Nat) (a:Act) (w0:World) (hc:c%8=i) (WU:c<=n+8) (hF:ay [(0,.func (.yield l) #[] #[]),(2,.pk b1 0),(4,.int .i64 c)] 25 [] a) (hS:pw (eX prog ty Wg C n val RO) i (lQ N C n) V (· <c) w0) (hM:kR N b1 ld l T .ready w0)
 (again:c<n->∀a w0,ay [(0,.func (.yield l) #[] #[]),(2,.pk b1 0),(4,.int .i64 (c+8:Nat))] 25 [] a->pw (eX prog ty Wg C n val RO) i (lQ N C n) V (· <c+8) w0->kR N b1 ld l T .ready w0->
   Wk (eX prog ty Wg C n val RO) i V ((base 149).atR a [.code (l_ f149),.inLoop (l_ f149),.inBlock 0]) (cf::cs) w0):
 Wk (eX prog ty Wg C n val RO) i V ((base 149).atR a [.code (l_ f149),.inLoop (l_ f149),.inBlock 0]) (cf::cs) w0:=by
 have hL:=jw (ty:=ty) (Wg:=Wg) (C:=C) (n:=n) (val:=val) hR;have hsm:=D.small;refine Wk.plain rfl (Wk.plain rfl (Wk.region (L:=[0,1,2,3,4]) rfl ?_));refine Wk.op hF 6 (.move (.tmp 4)) (.int .i64 c) d_ k_ s_ (λo ho w _=>?_) λa hF=>?_
 .have hy:=cF (ev:=a.eval) (w:=w) prog (.inl ho);rw[hF.g 4]at hy;exact bI hy
 refine Wk.op hF 7 (.fieldAddr 119 (.tmp 2) 0) (.pk b1 0) d_ k_ s_ (λo ho w _=>bI (D3 ho (hF.g 2))) λa hF=>?_;refine Wk.op hF 8 (.fieldAddr 115 (.tmp 7) 6) (.pk b1 6) d_ k_ s_ (λo ho w _=>bI (uS ho (hF.g 7))) λa hF=>?_;refine Wk.op hF 9 (.load 3 (.tmp 8)) (.int .i64 n) d_ k_ s_ (λo ho w r=>oU (.inl hV.1) (an az ho (hF.g 8) (by rw[ak (hM.rely hV r).sig,←D.count];rfl))) λa hF=>?_;refine Wk.op hF 10 (.binOp .lss 3 (.tmp 6) (.tmp 9) 3) (.bool (decide ((c:Int)<n))) d_ k_ s_ (λo ho w r=>bI (iq ho (hF.g 6) (hF.g 9))) λa hF=>?_;refine Wk.plain rfl (Wk.cond (decide ((c:Int)<n)) (hF.g 10) ?_);by_cases QK:c<n
 .have e:decide ((c:Int)<n)=true:=decide_eq_true o_;rw[e];refine Wk.plain rfl (Wk.plain rfl (Wk.plain rfl (Wk.plain rfl (Wk.region (L:=[0,1,2,3,4,5,6,7,8,9,10,11]) rfl ?_))));refine Wk.op hF 13 (.move (.tmp 0)) (.func (.yield l) #[] #[]) d_ k_ s_ (λo ho w _=>?_) λa hF=>?_
  .have hy:=cF (ev:=a.eval) (w:=w) prog (.inl ho);rw[hF.g 0]at hy;exact bI hy
  refine Wk.op hF 14 (.move (.tmp 4)) (.int .i64 c) d_ k_ s_ (λo ho w _=>?_) λa hF=>?_
  .have hy:=cF (ev:=a.eval) (w:=w) prog (.inl ho);rw[hF.g 4]at hy;exact bI hy
  refine Wk.op hF 15 (.fieldAddr 119 (.tmp 2) 3) (.pk b1 10) d_ k_ s_ (λo ho w _=>bI (D1 ho (hF.g 2))) λa hF=>?_;refine Wk.op hF 16 (.load 9 (.tmp 15)) (.string N.s.links) d_ k_ s_ (λo ho w r=>oU (.inl hV.1) (an bN ho (hF.g 15) (by rw[ak (hM.rely hV r).sig];rfl))) λa hF=>?_;refine Wk.op hF 17 (.move (.tmp 4)) (.int .i64 c) d_ k_ s_ (λo ho w _=>?_) λa hF=>?_
  .have hy:=cF (ev:=a.eval) (w:=w) prog (.inl ho);rw[hF.g 4]at hy;exact bI hy
  refine Wk.op hF 18 (.binOp .mul 3 (.tmp 17) (.const (.int .i64 32)) 3) (.int .i64 (c*32:Nat)) d_ k_ s_ (λo ho w _=>?_) λa hF=>?_
  .have hy:=pY (ev:=a.eval) (w:=w) (m:=c) (n:=32) ho (hF.g 17) rfl o_;exact bI (by rw[Int.natCast_mul];exact hy)
  refine Wk.op hF 19 (.move (.tmp 4)) (.int .i64 c) d_ k_ s_ (λo ho w _=>?_) λa hF=>?_
  .have hy:=cF (ev:=a.eval) (w:=w) prog (.inl ho);rw[hF.g 4]at hy;exact bI hy
  refine Wk.op hF 20 (.binOp .add 3 (.tmp 19) (.const (.int .i64 1)) 3) (.int .i64 (c+1:Nat)) d_ k_ s_ (λo ho w _=>?_) λa hF=>?_
  .have hy:=pZ (ev:=a.eval) (w:=w) (m:=c) (n:=1) ho (hF.g 19) rfl o_;exact bI (by rw[Int.natCast_add];exact hy)
  refine Wk.op hF 21 (.binOp .mul 3 (.tmp 20) (.const (.int .i64 32)) 3) (.int .i64 ((c+1)*32:Nat)) d_ k_ s_ (λo ho w _=>?_) λa hF=>?_
  .have hy:=pY (ev:=a.eval) (w:=w) (m:=(c+1:Nat)) (n:=32) ho (hF.g 20) rfl o_;exact bI (by rw[Int.natCast_mul];exact hy)
  refine Wk.op hF 22 (.slice 9 (.tmp 16) (some (.tmp 18)) (some (.tmp 21)) none) (.string (N.s.links.extract (c*32) ((c+1)*32))) d_ k_ s_
   (λo ho w _=>bI (dQ ho (hF.g 16) (hF.g 18) (hF.g 21) o_ (by have:=D.links;omega))) λa hF=>?_
  cases ho:(bC f149 3)[10]? with
  |none=>exact absurd ho (by simp;decide)
  |some o=>
   obtain⟨e1,e2,e3⟩:=dS (d:=some 23) (p:=.call {callee:=.value (.tmp 13),args:=#[.tmp 14,.tmp 22],argTypes:=#[3,9]}) ho k_;have a1:=hF.g 14;have a2:=hF.g 22;refine CM (args:=#[.int .i64 c,.string (N.s.links.extract (c*32) ((c+1)*32))]) ho (e3 _) (by rw[e2];simp) hV.2.2 hM.loop rfl (λw=>iM e2 (hF.g 13) (by simp[a1,a2]) w #[]) ?_;refine GZ D hR hT hV QQ ⟨hc,QK⟩ hS hM λw TB hM1=>?_;rw[Frame.finish_atR,ho,Option.bind_some,e1];have hF:=hF.put (d:=23) d_ (.bool true);revert hF;generalize a.put (some 23) (.bool true)=a;intro hF;refine Wk.op hF 24 (.unOp .not 4 (.tmp 23)) (.bool false) d_ k_ s_ (λo ho w _=>bI (C_ ho (hF.g 23))) λa hF=>?_;refine Wk.plain rfl (Wk.cond false (hF.g 24) ?_);refine Wk.plain rfl (Wk.plain rfl (Wk.region (L:=[0,1,2]) rfl ?_));refine Wk.op hF 11 (.move (.tmp 4)) (.int .i64 c) d_ k_ s_ (λo ho w _=>?_) λa hF=>?_
   .have hy:=cF (ev:=a.eval) (w:=w) prog (.inl ho);rw[hF.g 4]at hy;exact bI hy
   refine Wk.op hF 12 (.binOp .add 3 (.tmp 11) (.const (.int .i64 8)) 3) (.int .i64 (c+8:Nat)) d_ k_ s_ (λo ho w _=>?_) λa hF=>?_
   .have hy:=pZ (ev:=a.eval) (w:=w) (m:=c) (n:=8) ho (hF.g 11) rfl o_;exact bI (by rw[Int.natCast_add];exact hy)
   refine Wk.op hF 4 (.assign (.tmp 12)) (.int .i64 (c+8:Nat)) d_ k_ s_ (λo ho w _=>?_) λa hF=>?_
   .have hy:=cF (ev:=a.eval) (w:=w) prog (.inr ho);rw[hF.g 12]at hy;exact bI hy
   refine Wk.plain rfl (Wk.plain rfl (again QK a w ⟨hF.defers,hF.size,λd v hd=>?_⟩ (TB.mono λd hd Xj=>?_) hM1))
   .have h3:d=0\/d=2\/d=4:=by
     by_cases h0:d=0
     .exact .inl h0
     .by_cases h2:d=2
      .exact .inr (.inl h2)
      .by_cases h4:d=4
       .exact .inr (.inr h4)
       .simp[List.lookup,show(d==0)=false from by simpa using h0,show(d==2)=false from by simpa using h2,show(d==4)=false from by simpa using h4]at hd
    rcases h3 with rfl|rfl|rfl
    .exact hF.slot 0 v hd
    .exact hF.slot 2 v hd
    .exact hF.slot 4 v hd
   .have:=hd.1;omega
 .have e:decide ((c:Int)<n)=false:=decide_eq_false o_;rw[e];refine Wk.plain rfl (Wk.ends rfl (.inl rfl) (Wk.leave (.tuple #[]) rfl hF.defers func149 (λw=>⟨results_none rfl _ _ w,events_results_none rfl _ _⟩) ?_));intro w r;exact Rw w ((hS.rely hL r).mono λd hd _=>by have:=hd.2;omega) (hM.rely hV r) w (aV.refl _ _ _ _)
theorem Iy(D:ov N n val)(hR:RO N.bs/\RO N.bg/\RO N.be/\(∀b,N.gr b->RO b)/\RO 0){T:Array Value}(hT:ay [(1,.pk N.bs 0),(3,.pk N.bg 0),(4,.pk N.be 0)] 23 [] ⟨T,[]⟩)(hV:V b1/\V ld/\V l)(QQ:b1≠l/\ld≠l)
 (Rw:∀w,pw (eX prog ty Wg C n val RO) i (lQ N C n) V (λ_=>True) w->kR N b1 ld l T .ready w->Wk (eX prog ty Wg C n val RO) i V (cf.finish (.tuple #[])) cs w):
 ∀(fuel c:Nat) (a:Act) (w0:World),n- c<=fuel->c%8=i->c<=n+8->ay [(0,.func (.yield l) #[] #[]),(2,.pk b1 0),(4,.int .i64 c)] 25 [] a->pw (eX prog ty Wg C n val RO) i (lQ N C n) V (· <c) w0->kR N b1 ld l T .ready w0->
  Wk (eX prog ty Wg C n val RO) i V ((base 149).atR a [.code (l_ f149),.inLoop (l_ f149),.inBlock 0]) (cf::cs) w0:=by
 intro fuel;induction fuel with
 |zero=>exact λc a w0 hfu hc WU hF hS hM=>vS D hR hT hV QQ Rw c a w0 hc WU hF hS hM λh=>by omega
 |succ fuel ih=>exact λc a w0 hfu hc WU hF hS hM=>vS D hR hT hV QQ Rw c a w0 hc WU hF hS hM λh a w hF hS hM=>ih (c+8) a w o_ o_ o_ hF hS hM
end

end Go.Proofs.YtkmoglhgkcnalaaGreatDoor
namespace Go.Proofs.YtkmoglhgkcnalaaGreatDoor
open Go
abbrev Gk:Go.Conc.Lib.WgLink:={add:=116,done:=118,wait:=121,relMerge:=136,disable:=137,enable:=138,inBubble:=139,associate:=140,fatal:=141,uOr:=142,uAdd:=143,raceRead:=144,uLoad:=145,uStore:=146,disassociate:=147,semrelease:=148,acquire:=152,isAssociated:=153,uCas:=154,raceWrite:=155,semacquire:=156,orU64:=169,addU64:=170,loadU64:=171,storeU64:=172,casU64:=174,tWgP:=196,tUP:=198,tAssoc:=199,tWg:=184,tAU:=182,tU64:=132,tUint:=112,tU32:=162,tPU32:=202,tPAU:=222,tPU64:=224,tNoCopy:=178,tANoCopy:=179,tAlign64:=180}
theorem ow:Go.Conc.Lib.WgLib prog Gk:=by
 constructor
 all_goals first|kernel_rfl|(intro w;kernel_rfl)

end Go.Proofs.YtkmoglhgkcnalaaGreatDoor
namespace Go.Proofs.YtkmoglhgkcnalaaGreatDoor
open Go Go.Conc Go.RowKit
open Go.ConcN (WgLive)
section
variable{N:eT}{val:Nat->Value}{bi:Nat}
theorem worker(D:ov N n val)(hR:RO N.bs/\RO N.bg/\RO N.be/\(∀b,N.gr b->RO b)/\RO 0)(hi:i<8)(hS:pw (eX prog 184 Wg C n val RO) i (lQ N C n) (· =bi) (λ_=>False) w)(hbi:w.heap[bi]?=some (.cells #[.int .i64 i] 3)):
 aE (eX prog 184 Wg C n val RO) i ⟨(· =bi),born prog {target:=.fn (.func 117) #[.pk Wg 0,.pk N.bs 0,.pk bi 0,.pk N.bg 0,.pk N.be 0],args:=#[]},w⟩:=by
 have hL:=jw (ty:=184) (Wg:=Wg) (C:=C) (n:=n) (val:=val) hR;refine Wk.born (X:=eX prog 184 Wg C n val RO) (i:=i) (V:=(· =bi)) (f:=117) (fn:=f117) func117 k_ k_ ?_;rw[show(#[]:Array Value)++#[.pk Wg 0,.pk N.bs 0,.pk bi 0,.pk N.bg 0,.pk N.be 0]=[.pk Wg 0,.pk N.bs 0,.pk bi 0,.pk N.bg 0,.pk N.be 0].toArray from by simp,
  II (N:=23) _ func117 N4 rfl]
 have hF:=dc [.pk Wg 0,.pk N.bs 0,.pk bi 0,.pk N.bg 0,.pk N.be 0] 23 s_;revert hF;generalize (Act.mk (([.pk Wg 0,.pk N.bs 0,.pk bi 0,.pk N.bg 0,.pk N.be 0]:List Value).toArray++Array.replicate (23-([.pk Wg 0,.pk N.bs 0,.pk bi 0,.pk N.bg 0,.pk N.be 0]:List Value).toArray.size) undef) [])=a;intro hF;refine Wk.plain rfl (Wk.region (L:=[0]) rfl ?_);cases ho:(bC f117 0)[0]? with
 |none=>exact absurd ho (by simp;decide)
 |some o=>
 obtain⟨e1,e2,e3⟩:=dS (d:=none) (p:=.defer {callee:=.value (.func 118),args:=#[.tmp 0],argTypes:=#[184]}) ho k_;refine Wk.defer ho (e3 _) (by simp[baseD]) rfl e2 ?_;have hF1:ay (dT 0 [.pk Wg 0,.pk N.bs 0,.pk bi 0,.pk N.bg 0,.pk N.be 0]) 23 [dcall Gk.done #[.pk Wg 0]] (Act.put ⟨a.tmps,dcall 118 (#[Operand.tmp 0].map a.eval)::a.defers⟩ o.dst undef):=by
  rw[e1,hF.defers,show(#[Operand.tmp 0]:Array Operand).map a.eval=#[.pk Wg 0]from by simp[hF.g 0]];exact⟨rfl,hF.size,hF.slot⟩
 revert hF1;generalize Act.put ⟨a.tmps,dcall 118 (#[Operand.tmp 0].map a.eval)::a.defers⟩ o.dst undef=a;clear hF e1 e2 e3 ho;intro hF;refine Wk.plain rfl (Wk.plain rfl (Wk.region (L:=[0,1,2]) rfl ?_));refine Wk.op hF 7 (.load 119 (.tmp 1)) (.agg N.s.cells) d_ k_ s_ (λo ho w r=>Fj (.inr hR.1) (kn ho (hF.g 1) (hS.rely hL r).pap.sig)) λa hF=>?_;refine Wk.op hF 8 (.load 3 (.tmp 2)) (.int .i64 i) d_ k_ s_ (λo ho w r=>oU (.inl rfl) (an az ho (hF.g 2) (by rw[ak ((r.own.keep bi (.inl rfl)).trans hbi)];rfl))) λa hF=>?_;cases ho:(bC f117 1)[2]? with
 |none=>exact absurd ho (by simp;decide)
 |some o=>
 obtain⟨e1,e2,e3⟩:=dS (d:=some 9) (p:=.call {callee:=.value (.func 119),args:=#[.tmp 7,.tmp 8],argTypes:=#[119,3]}) ho k_;have hr:=λw=>kW (w:=w) e2 (show(#[Operand.tmp 7,.tmp 8]:Array Operand).map a.eval=[.agg N.s.cells,.int .i64 i].toArray from by simp[hF.g 7,hF.g 8]) (jm func119 k_ k_ _);refine Wk.enter ho (e3 _) (by rw[e2];simp) (λw _=>⟨(hr w).1,λe he=>by rw[(hr w).2]at he;simp at he⟩) ?_;rw[fJ (N:=6) _ func119 N3 rfl];have hG:=dc [.agg N.s.cells,.int .i64 i] 6 s_;revert hG;generalize (Act.mk ([.agg N.s.cells,.int .i64 i].toArray++Array.replicate (6-[.agg N.s.cells,Value.int .i64 i].toArray.size) undef) [])=g;intro hG;refine Wk.plain rfl (Wk.region (L:=[0,1,2]) rfl ?_);refine Wk.mk hG 2 (.box 119 (.tmp 0)) N.s.cells 119 d_ k_ s_ (λo ho w=>?_) λg w1 r1 hG=>?_
 .have:=rc (ev:=g.eval) (w:=w) prog ho;rw[hG.g 0]at this;exact this
 have TB:=(hS.rely hL r1).own hL (lw (· =bi) RO w1 (.cells N.s.cells 119));refine Wk.mk hG 3 (.box 3 (.tmp 1)) #[.int .i64 i] 3 d_ k_ s_ (λo ho w=>?_) λg w2 r2 hG=>?_
 .have:=rc (ev:=g.eval) (w:=w) prog ho;rw[hG.g 1]at this;exact this
 have TM:=(TB.rely hL r2).own hL (lw (grown (· =bi) w1 (w1.alloc (.cells N.s.cells 119))) RO w2 (.cells #[.int .i64 i] 3));have QM:w1.heap.size<w2.heap.size:=by have:=r2.own.size;rw[ao]at this;omega
 have hV1:grown (· =bi) w1 (w1.alloc (.cells N.s.cells 119)) w1.heap.size:=.inr ⟨Nat.le_refl _,by rw[ao];omega⟩;have Ro:(w2.alloc (.cells #[.int .i64 i] 3)).heap[w1.heap.size]?=some (.cells N.s.cells 119):=by
  rw[bp _ _ QM,r2.own.keep _ (.inl hV1),aK]
 have hV2:grown (grown (· =bi) w1 (w1.alloc (.cells N.s.cells 119))) w2 (w2.alloc (.cells #[.int .i64 i] 3)) w2.heap.size:=.inr ⟨Nat.le_refl _,by rw[ao];omega⟩;have W3:grown (grown (· =bi) w1 (w1.alloc (.cells N.s.cells 119))) w2 (w2.alloc (.cells #[.int .i64 i] 3)) w1.heap.size:=.inl hV1;have hint:=aK w2 (.cells #[.int .i64 i] 3);revert TM Ro hV2 W3 hint;generalize grown (grown (· =bi) w1 (w1.alloc (.cells N.s.cells 119))) w2 (w2.alloc (.cells #[.int .i64 i] 3))=V;generalize w2.alloc (.cells #[.int .i64 i] 3)=wz;generalize hB1:w1.heap.size=b1 at QM hG⊢;generalize RD:w2.heap.size=b2 at QM hG⊢;intro TM Ro hV2 W3 hint;clear TB r1 r2 hV1 hB1 RD hS hbi;refine Wk.op hG 4 (.assign (.const .nilFunc)) .nilFunc d_ k_ s_ (λo ho w _=>bI (cF (ev:=g.eval) (w:=w) prog (.inr ho))) λg hG=>?_;refine Wk.plain rfl (Wk.plain rfl (Wk.region (L:=[0,1]) rfl ?_));refine Wk.op hG 5 (.makeFunc (.func 149) #[] #[.tmp 3,.tmp 2]) (.func (.func 149) #[] #[.pk b2 0,.pk b1 0]) d_ k_ s_ (λo ho w _=>?_) λg hG=>?_
 .have hy:=dG (ev:=g.eval) (w:=w) prog ho;rw[show(#[Operand.tmp 3,.tmp 2]:Array Operand).map g.eval=#[.pk b2 0,.pk b1 0]from by simp[hG.g 3,hG.g 2]]at hy;exact bI hy
 refine Wk.op hG 4 (.assign (.tmp 5)) (.func (.func 149) #[] #[.pk b2 0,.pk b1 0]) d_ k_ s_ (λo ho w _=>?_) λg hG=>?_
 .have hy:=cF (ev:=g.eval) (w:=w) prog (.inr ho);rw[hG.g 5]at hy;exact bI hy
 refine Wk.plain rfl (Wk.ends rfl (.inr ⟨_,rfl⟩) (Wk.leave (.func (.func 149) #[] #[.pk b2 0,.pk b1 0]) rfl hG.defers func119 (λw=>tS (t:=4) rfl (hG.slot 4 _ rfl) w) ?_));rw[Frame.finish_atR,ho,Option.bind_some,e1];have hF:=hF.put (d:=9) d_ (.func (.func 149) #[] #[.pk b2 0,.pk b1 0]);revert hF;generalize a.put (some 9) (.func (.func 149) #[] #[.pk b2 0,.pk b1 0])=a;intro hF;clear e1 e2 e3 ho hr hG;refine Wk.plain rfl (Wk.plain rfl ?_);refine Wk.range (first:=#[]) rfl func149 k_ k_ (hF.g 9) λw3 r3=>?_;have Uw:=r3.own.size;have l1:b1<w3.heap.size:=Nat.lt_of_lt_of_le (TM.low.1 b1 (.inl W3)) Uw;have l2:b2<w3.heap.size:=Nat.lt_of_lt_of_le (TM.low.1 b2 (.inl hV2)) Uw;have Ra:bo V RO w3 (bU w3 {state:=.ready,pending:=none,fn:=(baseD 117).fn,tmps:=a.tmps,params:=#[10,11],assign:=dV f117,body:=roundOf f117,defers:=w3.heap.size}) #[]:=
  ⟨λm hm _=>aX w3 _ hm,by rw[gn];omega,rfl,rfl,rfl,λe he=>by simp at he⟩
 have UW:=(TM.rely hL r3).own hL Ra;have eg:grown V w3 (bU w3 {state:=.ready,pending:=none,fn:=(baseD 117).fn,tmps:=a.tmps,params:=#[10,11],assign:=dV f117,body:=roundOf f117,defers:=w3.heap.size})=jd V w3:=by
  funext m
  apply propext;unfold grown jd;rw[gn];constructor
  .rintro(h|h)
   .exact .inl h
   .exact .inr o_
  .rintro(h|h)
   .exact .inl h
   .exact .inr o_
 rw[eg]at UW;have hM:kR N b1 w3.heap.size (w3.heap.size+1) a.tmps .ready (bU w3 {state:=.ready,pending:=none,fn:=(baseD 117).fn,tmps:=a.tmps,params:=#[10,11],assign:=dV f117,body:=roundOf f117,defers:=w3.heap.size}):=
  ⟨(aX w3 _ l1).trans ((r3.own.keep _ (.inl W3)).trans Ro),dK w3 _,dJ w3 _⟩
 have hint3:(bU w3 {state:=.ready,pending:=none,fn:=(baseD 117).fn,tmps:=a.tmps,params:=#[10,11],assign:=dV f117,body:=roundOf f117,defers:=w3.heap.size}).heap[b2]?=some (.cells #[.int .i64 i] 3):=
  (aX w3 _ l2).trans ((r3.own.keep _ (.inl hV2)).trans hint)
 rw[show(#[]:Array Value)++#[.func (.yield (w3.heap.size+1)) #[] #[]]++#[.pk b2 0,.pk b1 0]=[.func (.yield (w3.heap.size+1)) #[] #[],.pk b2 0,.pk b1 0].toArray from by simp,
  fJ (N:=25) _ func149 Jv rfl]
 have hH:=dc [.func (.yield (w3.heap.size+1)) #[] #[],.pk b2 0,.pk b1 0] 25 s_;revert hH;generalize (Act.mk ([.func (.yield (w3.heap.size+1)) #[] #[],.pk b2 0,.pk b1 0].toArray++Array.replicate (25-[.func (.yield (w3.heap.size+1)) #[] #[],.pk b2 0,Value.pk b1 0].toArray.size) undef) [])=g;intro hH;have hV3:jd V w3 b1/\jd V w3 w3.heap.size/\jd V w3 (w3.heap.size+1):=⟨.inl W3,.inr (.inl rfl),.inr (.inr rfl)⟩;have QQ:b1≠w3.heap.size+1/\w3.heap.size≠w3.heap.size+1:=⟨by omega,by omega⟩;refine Wk.plain rfl (Wk.region (L:=[0,1]) rfl ?_);refine Wk.op hH 5 (.load 3 (.tmp 1)) (.int .i64 i) d_ k_ s_ (λo ho w r=>oU (.inl (.inl hV2)) (an az ho (hH.g 1) (by rw[ak ((r.own.keep b2 (.inl (.inl hV2))).trans hint3)];rfl))) λg hH=>?_;refine Wk.op hH 4 (.assign (.tmp 5)) (.int .i64 i) d_ k_ s_ (λo ho w _=>?_) λg hH=>?_
 .have hy:=cF (ev:=g.eval) (w:=w) prog (.inr ho);rw[hH.g 5]at hy;exact bI hy
 refine Wk.plain rfl (Wk.plain rfl (Wk.plain rfl ?_));have look3:∀{x y z:Value} (F:List (Nat×Value)),F.lookup 0=some x->F.lookup 2=some y->F.lookup 4=some z->∀d v,[(0,x),(2,y),(4,z)].lookup d=some v->F.lookup d=some v:=by
  intro x y z F h0 h2 h4 d v hd;by_cases e0:d=0
  .subst e0;rw[h0];exact hd
  by_cases e2:d=2
  .subst e2;rw[h2];exact hd
  by_cases e4:d=4
  .subst e4;rw[h4];exact hd
  simp[List.lookup,show(d==0)=false from by simpa using e0,show(d==2)=false from by simpa using e2,show(d==4)=false from by simpa using e4]at hd
 have XF:∀{x y z:Value} (F:List (Nat×Value)),F.lookup 1=some x->F.lookup 3=some y->F.lookup 4=some z->∀d v,[(1,x),(3,y),(4,z)].lookup d=some v->F.lookup d=some v:=by
  intro x y z F h0 h2 h4 d v hd;by_cases e0:d=1
  .subst e0;rw[h0];exact hd
  by_cases e2:d=3
  .subst e2;rw[h2];exact hd
  by_cases e4:d=4
  .subst e4;rw[h4];exact hd
  simp[List.lookup,show(d==1)=false from by simpa using e0,show(d==3)=false from by simpa using e2,show(d==4)=false from by simpa using e4]at hd
 refine Iy (l:=w3.heap.size+1) (ld:=w3.heap.size) (b1:=b1) D hR (T:=a.tmps) ⟨rfl,hF.size,λd v hd=>hF.slot d v (XF _ rfl rfl rfl d v hd)⟩ hV3 QQ (λw hSe hMe=>?_) n i g _ o_ o_ o_ (hH.sub (look3 _ rfl rfl rfl)) (UW.mono λc hc QK=>?_) hM
 .show Wk _ i (jd V w3) ((baseD 117).atR ⟨a.tmps,{target:=.collected w3.heap.size,args:=#[]}::a.defers⟩ (.endRangeFunc (w3.heap.size+1)::[.inBlock 0])) [rV prog] w;refine uK hV3.2.2 hMe.loop rfl rfl λw4 r4=>?_;have Yi:=(hSe.rely hL r4).own hL (gN (RO:=RO) (w:=w4) {state:=.exhausted,pending:=none,fn:=117,tmps:=a.tmps,params:=#[10,11],assign:=dV f117,body:=roundOf f117,defers:=w3.heap.size} hV3.2.2);rw[eW]at Yi;have hM4:=(hMe.rely hV3 r4).turn (st':=.exhausted) QQ;refine Wk.plain rfl (Wk.ends rfl (.inl rfl) (Wk.take rfl hV3.2.1 hM4.list λw5 r5=>?_));rw[hF.defers];have hown5:bo (jd V w3) RO w5 {w5 with heap:=w5.heap.setIfInBounds w3.heap.size (.deferred none)} #[]:=
   ⟨λm _ hm=>Array.getElem?_setIfInBounds_ne (show w3.heap.size≠m from λe=>hm (e▸hV3.2.1)),by simp,rfl,rfl,rfl,λe he=>by simp at he⟩
  have hS5:=(Yi.rely hL r5).own hL hown5;obtain⟨v0,h0⟩:=hS5.pap.zero;exact Wk.done (X:=eX prog 184 Wg C n val RO) ow rfl hR.2.2.2.2 func117 rfl h0 hS5.live λc hc=>hS5.cells c hc trivial
 .have:=hc.1;have:=hc.2;omega
end

end Go.Proofs.YtkmoglhgkcnalaaGreatDoor
namespace Go.Proofs.YtkmoglhgkcnalaaGreatDoor
open Go Go.Conc
open Go.ConcN (WgLive)
open Go.ConcR (KK WgAt stA smA rd wr mk DC0)
open Go.ConcN.Gen Go.RowKit Go.Conc.Lib Go.ConcR.Gen
section
variable{L:WgLink}
structure ki (X:aA) (V:Nat->Prop) (w00 w:World):Prop where
 live:WgLive X.ty X.Wg w
 since:dw (λb=>V b\/X.RO b) w00 w
 ne:¬(V X.Wg\/X.RO X.Wg)
theorem ae{X:aA}{w00:World}(h:ki X V w00 w)(r:aY X V w QI):ki X V w00 QI:=⟨r.live h.live,h.since.trans r.own,h.ne⟩
theorem ki.set{X:aA}{w00:World}{a:Addr}(h:ki X V w00 w)(ha:a.block=X.Wg)(hl:WgLive X.ty X.Wg (w.setCell a v)):ki X V w00 (w.setCell a v):=
 ⟨hl,⟨λb hb=>(by simp only[World.setCell];exact nS λe=>h.ne (by rw[←ha,←e];exact hb):(w.setCell a v).heap[b]?=w.heap[b]?).trans (h.since.keep b hb),by simpa[World.setCell]using h.since.size,h.since.os,h.since.output,h.since.tape⟩,h.ne⟩
theorem co{X:aA}{St:(Nat->Prop)->Goroutine->World->Prop}{g:Goroutine}(h:Goes X.P true (aY X V) DC0 (St V) m g w):bq X St m V g w:=
 (nE h).mono λ_ _ _ ⟨e,hs⟩=>e▸hs
theorem lB{X:aA}{St:(Nat->Prop)->Goroutine->World->Prop}{k:Nat}{g:Goroutine}(h:Goes X.P true (aY X V) DC0 (λg w=>bq X St k V g w) m g w):bq X St (m+k) V g w:=
 (co (St:=λV g w=>bq X St k V g w) h).trans λ_ _ _ h=>h
theorem Jz(X:aA)(H:WgLib X.P L){Next:(Nat->Prop)->Goroutine->World->Prop}{UY:Frame}{UZ:Act}{Sb:Array Oper}{UJ:Nat}{Sq:List Nat}{UI:List Item}{mT:Nat}
 {w00:World} (hT:∀w,ki X V w00 w->bq X (NO X i Next) mT V (G (UY.at (UZ.put ((Sb[UJ]?).bind (·.dst)) (.tuple #[])) (.inRegion Sb Sq::UI)) cs) w) (w:World) (hK:ki X V w00 w):
 Goes X.P true (aY X V) DC0 (xf X i Next V) 200 (G ((base L.add).at ⟨#[.pk X.Wg 0,.int .i64 1]++Array.replicate 115 undef,[]⟩ [.code (body_add L)]) (UY.at UZ (.inRegion Sb (UJ::Sq)::UI)::cs)) w:=by
 lib_facts
 simp only[body_add,addFn,Option.getD_some];simp only[Array.replicate_succ,Array.replicate_zero,List.push_toArray,List.nil_append,List.cons_append,List.append_toArray]
 repeat (first
  |u_c stepG_seq ae hK
  |u_c stepG_region_end ae hK
  |u_reg ae hK
  |u_c stepG_skip ae hK
  |u_cond true ae hK
  |u_cond false ae hK
  |u_skip ae hK
  |u_defer ae hK
  |u_bub ae hK
  |u_c stepG_ret' ae hK
  |u_call H.f_uAdd (nm_uAdd L) uAddFn ae hK
  |u_leave1 H.f_uAdd ae hK
  |u_op ae hK)
 refine Goes.stop (λQI QJ=>?_)
 replace hK:=ae hK QJ
 clear QJ;refine⟨rfl,_,stepG_mark0 .disable s_ rfl rfl (by k_ne) rfl H.f_disable (x_disable_n L) (x_disable_b L) (x_disable_x L) (x_disable_f L),200,co ?_⟩
 walk_nrm
 repeat (first
  |u_c stepG_seq ae hK
  |u_c stepG_region_end ae hK
  |u_reg ae hK
  |u_c stepG_skip ae hK
  |u_cond true ae hK
  |u_cond false ae hK
  |u_skip ae hK
  |u_defer ae hK
  |u_bub ae hK
  |u_c stepG_ret' ae hK
  |u_call H.f_uAdd (nm_uAdd L) uAddFn ae hK
  |u_leave1 H.f_uAdd ae hK
  |u_op ae hK)
 refine Goes.stop (λRJ SQ=>?_)
 replace hK:=ae hK SQ
 clear SQ;refine⟨rfl,λv hv hw=>?_⟩;rcases Nat.eq_zero_or_pos v with rfl|hvp
 .have RG:WgAt X.ty X.Wg RJ 0 0:=by simpa using hw
  have z:(((0:Nat):Int)+1)*KK=KK:=by simp
  rw[z];have e0:IntKind.u64.wrap (0+4294967296)=KK:=by decide
  refine⟨_,(stepG_add_atomic rfl rfl (by k_ne) rfl H.f_addU64 (x_addU64_n L) (x_addU64_b L) (x_addU64_x L) .u64 (x_addU64_f L) rfl rfl RG.cellSt (RG.thaw 0)).trans (by rw[e0];rfl),λ_=>⟨200,co ?_⟩,λh=>absurd rfl h⟩
  replace hK:ki X V w00 (RJ.setCell (stA X.Wg) (.int .u64 KK)):=hK.set rfl ⟨_,_,RG.setSt _⟩
  clear hw RG;simp only[KK]at hK⊢
  walk_nrm
  repeat (first
   |u_c stepG_seq ae hK
   |u_c stepG_region_end ae hK
   |u_reg ae hK
   |u_c stepG_skip ae hK
   |u_cond true ae hK
   |u_cond false ae hK
   |u_skip ae hK
   |u_defer ae hK
   |u_bub ae hK
   |u_c stepG_ret' ae hK
   |u_call H.f_uAdd (nm_uAdd L) uAddFn ae hK
   |u_leave1 H.f_uAdd ae hK
   |u_op ae hK)
  u_in ae hK
  refine goes_oper_k rfl rfl (by k_ne) (λKx UE=>?_);have VW:=run_convert_to_unsafe (P:=X.P) H.underlying_tPU32 H.underlying_tUP H.room_tU32 (Go.ConcN.Gen.WgLive.cell1 hK.live).choose_spec;have SX:=λes=>events_convert_to_unsafe (P:=X.P) H.underlying_tPU32 H.underlying_tUP H.room_tU32 (Go.ConcN.Gen.WgLive.cell1 hK.live).choose_spec es
  go_simp
  refine UE _ _ ⟨?_,?_⟩
  .u_none
   intro ex hex;have WM:=mem_listed hex;simp[go_sem,SX]at WM
  clear UE Kx VW SX;refine Goes.stop (λw₃ VD=>?_)
  replace hK:=ae hK VD
  clear VD;refine⟨rfl,_,stepG_markAt .read s_ rfl rfl (by k_ne) rfl H.f_raceRead (x_raceRead_n L) (x_raceRead_b L) (x_raceRead_x L) (x_raceRead_f L) (ad:=⟨X.Wg,1,none⟩) (by simp[Act.eval]),200,co ?_⟩
  walk_nrm
  iterate 39 (first
   |u_c stepG_seq ae hK
   |u_c stepG_region_end ae hK
   |u_reg ae hK
   |u_c stepG_skip ae hK
   |u_cond true ae hK
   |u_cond false ae hK
   |u_skip ae hK
   |u_defer ae hK
   |u_bub ae hK
   |u_c stepG_ret' ae hK
   |u_call H.f_uAdd (nm_uAdd L) uAddFn ae hK
   |u_leave1 H.f_uAdd ae hK
   |u_op ae hK)
  refine Goes.stop (λw₄ Wy=>?_)
  replace hK:=ae hK Wy
  clear Wy;refine⟨rfl,_,stepG_unwind_entry (v:=.tuple #[]) (evs:=#[mk .enable]) rfl H.f_enable (x_enable_n L) (x_enable_b L) (x_enable_x L) (x_enable_f L) (by simp[Extern.Race.none_]) (by simp[mk]) (by simp[mk]),1+mT,lB ?_⟩
  u_leave0 H.f_add ae hK
  exact λw₅ h₅=>hT _ (ae hK h₅)
 .obtain⟨z,hz⟩:∃z:Int,z=(v:Int)+1:=⟨_,rfl⟩;obtain⟨s,hs⟩:∃s:Int,s=z*KK:=⟨_,rfl⟩;have es:IntKind.u64.wrap ((v:Int)*KK+4294967296)=s:=by rw[IntKind.wrap_u64,hs,hz];simp only[KK];omega
  rw[←hz,←hs];have n1:s/4294967296=z:=by rw[hs];simp only[KK];omega
  have n2:bits .and .u64 s 2147483648=0:=by rw[hs,hz];have:=Go.ConcN.st_flag (v+1) 0 o_ o_;simpa[KK]using this
  have n3:bits .and .u64 s 2147483647=0:=by rw[hs,hz];have:=Go.ConcN.st_waiters (v+1) 0 o_ o_;simpa[KK]using this
  have n4:IntKind.i32.wrap z=z:=by rw[IntKind.wrap_i32];omega
  have n5:1<z:=by omega
  have n6:z<2147483648:=by omega
  have n7:(z==1)=false:=by simp;omega
  have n8:decide (z=1)=false:=decide_eq_false o_;have n9:decide (z<0)=false:=decide_eq_false o_;have m1:decide (0<z)=true:=decide_eq_true o_;have m2:(z==0)=false:=by simp;omega
  have m3:decide (z=0)=false:=decide_eq_false o_;refine⟨_,(stepG_add_atomic rfl rfl (by k_ne) rfl H.f_addU64 (x_addU64_n L) (x_addU64_b L) (x_addU64_x L) .u64 (x_addU64_f L) rfl rfl hw.cellSt (hw.thaw 0)).trans (by rw[es];rfl),λh=>by omega,λ_=>⟨200,co ?_⟩⟩
  replace hK:ki X V w00 (RJ.setCell (stA X.Wg) (.int .u64 s)):=hK.set rfl ⟨_,_,hw.setSt _⟩
  clear hw hs hz es
  walk_nrm
  u_op ae hK
  u_c stepG_region_end ae hK
  u_c stepG_ret' ae hK
  u_leave1 H.f_uAdd ae hK
  iterate 82 (first
   |u_c stepG_seq ae hK
   |u_c stepG_region_end ae hK
   |u_reg ae hK
   |u_c stepG_skip ae hK
   |u_cnd true ae hK
   |u_cnd false ae hK
   |u_skip ae hK
   |u_op ae hK)
  u_c stepG_ret' ae hK
  refine Goes.stop (λw₃ VD=>?_)
  replace hK:=ae hK VD
  clear VD;refine⟨rfl,_,stepG_unwind_entry (v:=.tuple #[]) (evs:=#[mk .enable]) rfl H.f_enable (x_enable_n L) (x_enable_b L) (x_enable_x L) (x_enable_f L) (by simp[Extern.Race.none_]) (by simp[mk]) (by simp[mk]),1+mT,lB ?_⟩
  u_leave0 H.f_add ae hK
  exact λw₄ Wy=>hT _ (ae hK Wy)
end

section
variable{L:WgLink}
def AO(X:aA)(L:WgLink)(w00:World)(c:Frame)(cs:List Frame)(V:Nat->Prop)(g:Goroutine)(w:World):Prop:=
 ∃T:Array Value,g=G ((base L.wait).at ⟨T,[]⟩ [.code (L7 L),.inLoop (L7 L),.inBlock 0]) (c::cs)/\T.size=84/\T[0]?=some (.pk X.Wg 0)/\ki X V w00 w
theorem O0(X:aA)(H:WgLib X.P L){Fin:(Nat->Prop)->Goroutine->World->Prop}{UY:Frame}{UZ:Act}{Sb:Array Oper}{UJ:Nat}{Sq:List Nat}{UI:List Item}{mT:Nat}
 {w00:World} (hT:∀w,ki X V w00 w->bq X Fin mT V (G (UY.at (UZ.put ((Sb[UJ]?).bind (·.dst)) (.tuple #[])) (.inRegion Sb Sq::UI)) cs) w)
 (g:Goroutine) (w:World) (h:AO X L w00 (UY.at UZ (.inRegion Sb (UJ::Sq)::UI)) cs V g w):
 Goes X.P true (aY X V) DC0 (pE X Fin (AO X L w00 (UY.at UZ (.inRegion Sb (UJ::Sq)::UI)) cs) V) 30 g w:=by
 lib_facts
 obtain⟨T,rfl,hS,t0,hK⟩:=h;obtain⟨v0,v1,v2,v3,v4,v5,v6,v7,v8,v9,v10,v11,v12,v13,v14,v15,v16,v17,v18,v19,v20,v21,v22,v23,v24,v25,v26,v27,v28,v29,v30,v31,v32,v33,v34,v35,v36,v37,v38,v39,v40,v41,v42,v43,v44,v45,v46,v47,v48,v49,v50,v51,v52,v53,v54,v55,v56,v57,v58,v59,v60,v61,v62,v63,v64,v65,v66,v67,v68,v69,v70,v71,v72,v73,v74,v75,v76,v77,v78,v79,v80,v81,v82,v83,rfl⟩:=array84 T hS;simp only[List.getElem?_toArray,List.getElem?_cons_zero,Option.some.injEq]at t0;subst t0;simp only[L7,body_wait,waitFn,Option.getD_some]
 iterate 16 (first
  |u_c stepG_seq ae hK
  |u_c stepG_region_end ae hK
  |u_reg ae hK
  |u_c stepG_ret' ae hK
  |u_leave1 H.f_uLoad ae hK
  |u_leave1 H.f_uCas ae hK
  |u_c stepG_block ae hK
  |u_c stepG_inBlock ae hK
  |u_c stepG_inLoop ae hK
  |u_c stepG_loop ae hK
  |u_c stepG_skip ae hK
  |u_cnd true ae hK
  |u_cnd false ae hK
  |u_skip ae hK
  |u_bub ae hK
  |u_call H.f_uLoad (nm_uLoad L) uLoadFn ae hK
  |u_call H.f_uCas (nm_uCas L) uCasFn ae hK
  |u_op ae hK)
 refine Goes.stop (λw1 h1=>?_)
 replace hK:=ae hK h1
 clear h1;refine⟨rfl,λv hv hw=>?_⟩;rcases Nat.eq_zero_or_pos v with rfl|hvp
 .have RG:WgAt X.ty X.Wg w1 0 0:=by simpa using hw
  refine⟨_,stepG_load_atomic (v:=0) rfl rfl (by k_ne) rfl H.f_loadU64 (x_loadU64_n L) (x_loadU64_b L) (x_loadU64_x L) .u64 (x_loadU64_f L) rfl RG.cellSt,λ_=>⟨50,co ?_⟩,λh=>absurd rfl h⟩;clear hw RG
  walk_nrm
  iterate 31 (first
   |u_c stepG_seq ae hK
   |u_c stepG_region_end ae hK
   |u_reg ae hK
   |u_c stepG_ret' ae hK
   |u_leave1 H.f_uLoad ae hK
   |u_leave1 H.f_uCas ae hK
   |u_c stepG_block ae hK
   |u_c stepG_inBlock ae hK
   |u_c stepG_inLoop ae hK
   |u_c stepG_loop ae hK
   |u_c stepG_skip ae hK
   |u_cnd true ae hK
   |u_cnd false ae hK
   |u_skip ae hK
   |u_bub ae hK
   |u_call H.f_uLoad (nm_uLoad L) uLoadFn ae hK
   |u_call H.f_uCas (nm_uCas L) uCasFn ae hK
   |u_op ae hK)
  refine Goes.stop (λw2 h2=>?_)
  replace hK:=ae hK h2
  clear h2;refine⟨rfl,_,stepG_mark0 .enable s_ rfl rfl (by k_ne) rfl H.f_enable (x_enable_n L) (x_enable_b L) (x_enable_x L) (x_enable_f L),12,co ?_⟩
  walk_nrm
  iterate 3 (first
   |u_c stepG_seq ae hK
   |u_c stepG_region_end ae hK
   |u_reg ae hK
   |u_c stepG_ret' ae hK
   |u_leave1 H.f_uLoad ae hK
   |u_leave1 H.f_uCas ae hK
   |u_c stepG_block ae hK
   |u_c stepG_inBlock ae hK
   |u_c stepG_inLoop ae hK
   |u_c stepG_loop ae hK
   |u_c stepG_skip ae hK
   |u_cnd true ae hK
   |u_cnd false ae hK
   |u_skip ae hK
   |u_bub ae hK
   |u_call H.f_uLoad (nm_uLoad L) uLoadFn ae hK
   |u_call H.f_uCas (nm_uCas L) uCasFn ae hK
   |u_op ae hK)
  u_in ae hK
  refine goes_oper_k rfl rfl (by k_ne) (λKx UE=>?_);have VW:=run_convert_to_unsafe (P:=X.P) H.underlying_tWgP H.underlying_tUP H.room_tWg (Go.ConcN.Gen.WgLive.cell0 hK.live).choose_spec;have SX:=λes=>events_convert_to_unsafe (P:=X.P) H.underlying_tWgP H.underlying_tUP H.room_tWg (Go.ConcN.Gen.WgLive.cell0 hK.live).choose_spec es
  go_simp
  refine UE _ _ ⟨?_,?_⟩
  .u_none
   intro ex hex;have WM:=mem_listed hex;simp[go_sem,SX]at WM
  clear UE Kx VW SX;refine Goes.stop (λw3 h3=>?_)
  replace hK:=ae hK h3
  clear h3;refine⟨rfl,_,stepG_markAt .acquire s_ rfl rfl (by k_ne) rfl H.f_acquire (x_acquire_n L) (x_acquire_b L) (x_acquire_x L) (x_acquire_f L) (by simp[Act.eval,stA]),60+mT,lB ?_⟩
  walk_nrm
  iterate 19 (first
   |u_c stepG_seq ae hK
   |u_c stepG_region_end ae hK
   |u_reg ae hK
   |u_c stepG_ret' ae hK
   |u_leave1 H.f_uLoad ae hK
   |u_leave1 H.f_uCas ae hK
   |u_c stepG_block ae hK
   |u_c stepG_inBlock ae hK
   |u_c stepG_inLoop ae hK
   |u_c stepG_loop ae hK
   |u_c stepG_skip ae hK
   |u_cnd true ae hK
   |u_cnd false ae hK
   |u_skip ae hK
   |u_bub ae hK
   |u_call H.f_uLoad (nm_uLoad L) uLoadFn ae hK
   |u_call H.f_uCas (nm_uCas L) uCasFn ae hK
   |u_op ae hK)
  u_leave0 H.f_wait ae hK
  exact Goes.stop λw9 h9=>hT _ (ae hK h9)
 .obtain⟨s,hs⟩:∃s:Int,(v:Int)*KK=s:=⟨_,rfl⟩;have n1:s/4294967296=(v:Int):=by rw[←hs];simp only[KK];omega
  have n2:bits .and .u64 s 2147483648=0:=by rw[←hs];have:=Go.ConcN.st_flag v 0 o_ o_;simpa[KK]using this
  have n3:bits .and .u64 s 2147483647=0:=by rw[←hs];have:=Go.ConcN.st_waiters v 0 o_ o_;simpa[KK]using this
  have n4:IntKind.i32.wrap (v:Int)=(v:Int):=by rw[IntKind.wrap_i32];omega
  have n5:IntKind.u64.wrap (s+1)=s+1:=by rw[IntKind.wrap_u64,←hs];simp only[KK];omega
  have n6:decide ((v:Int)<0)=false:=decide_eq_false o_;have n7:decide (0<(v:Int))=true:=decide_eq_true o_;have n8:((v:Int)==0)=false:=by simp;omega
  have n9:decide ((v:Int)=0)=false:=decide_eq_false o_;rw[hs]at hw;refine⟨_,stepG_load_atomic (v:=s) rfl rfl (by k_ne) rfl H.f_loadU64 (x_loadU64_n L) (x_loadU64_b L) (x_loadU64_x L) .u64 (x_loadU64_f L) rfl hw.cellSt,λh0=>absurd h0 o_,λ_=>⟨60,co ?_⟩⟩;clear hw
  walk_nrm
  iterate 48 (first
   |u_c stepG_seq ae hK
   |u_c stepG_region_end ae hK
   |u_reg ae hK
   |u_c stepG_ret' ae hK
   |u_leave1 H.f_uLoad ae hK
   |u_leave1 H.f_uCas ae hK
   |u_c stepG_block ae hK
   |u_c stepG_inBlock ae hK
   |u_c stepG_inLoop ae hK
   |u_c stepG_loop ae hK
   |u_c stepG_skip ae hK
   |u_cnd true ae hK
   |u_cnd false ae hK
   |u_skip ae hK
   |u_bub ae hK
   |u_call H.f_uLoad (nm_uLoad L) uLoadFn ae hK
   |u_call H.f_uCas (nm_uCas L) uCasFn ae hK
   |u_op ae hK)
  refine Goes.stop (λw2 h2=>?_)
  replace hK:=ae hK h2
  clear h2;refine⟨rfl,λv' S9 hw=>⟨λe=>?_,λe=>?_⟩⟩
  .subst e;rw[hs]at hw⊢;refine⟨_,(stepG_cas_hit (v:=s) (n:=s+1) rfl rfl (by k_ne) rfl H.f_casU64 (x_casU64_n L) (x_casU64_b L) (x_casU64_x L) .u64 (x_casU64_f L) rfl rfl rfl hw.cellSt (hw.thaw 0)).trans (by rfl),70,co ?_⟩
   replace hK:ki X V w00 (w2.setCell (stA X.Wg) (.int .u64 (s+1))):=hK.set rfl ⟨_,_,hw.setSt _⟩
   clear hw
   walk_nrm
   iterate 19 (first
    |u_c stepG_seq ae hK
    |u_c stepG_region_end ae hK
    |u_reg ae hK
    |u_c stepG_ret' ae hK
    |u_leave1 H.f_uLoad ae hK
    |u_leave1 H.f_uCas ae hK
    |u_c stepG_block ae hK
    |u_c stepG_inBlock ae hK
    |u_c stepG_inLoop ae hK
    |u_c stepG_loop ae hK
    |u_c stepG_skip ae hK
    |u_cnd true ae hK
    |u_cnd false ae hK
    |u_skip ae hK
    |u_bub ae hK
    |u_call H.f_uLoad (nm_uLoad L) uLoadFn ae hK
    |u_call H.f_uCas (nm_uCas L) uCasFn ae hK
    |u_op ae hK)
   u_in ae hK
   refine goes_oper_k rfl rfl (by k_ne) (λKx UE=>?_);have VW:=run_convert_to_unsafe (P:=X.P) H.underlying_tPU32 H.underlying_tUP H.room_tU32 (Go.ConcN.Gen.WgLive.cell1 hK.live).choose_spec;have SX:=λes=>events_convert_to_unsafe (P:=X.P) H.underlying_tPU32 H.underlying_tUP H.room_tU32 (Go.ConcN.Gen.WgLive.cell1 hK.live).choose_spec es
   go_simp
   refine UE _ _ ⟨?_,?_⟩
   .u_none
    intro ex hex;have WM:=mem_listed hex;simp[go_sem,SX]at WM
   clear UE Kx VW SX;refine Goes.stop (λw3 h3=>?_)
   replace hK:=ae hK h3
   clear h3;refine⟨rfl,_,stepG_markAt .write s_ rfl rfl (by k_ne) rfl H.f_raceWrite (x_raceWrite_n L) (x_raceWrite_b L) (x_raceWrite_x L) (x_raceWrite_f L) (ad:=⟨X.Wg,1,none⟩) (by simp[Act.eval]),60,co ?_⟩
   walk_nrm
   iterate 23 (first
    |u_c stepG_seq ae hK
    |u_c stepG_region_end ae hK
    |u_reg ae hK
    |u_c stepG_ret' ae hK
    |u_leave1 H.f_uLoad ae hK
    |u_leave1 H.f_uCas ae hK
    |u_c stepG_block ae hK
    |u_c stepG_inBlock ae hK
    |u_c stepG_inLoop ae hK
    |u_c stepG_loop ae hK
    |u_c stepG_skip ae hK
    |u_cnd true ae hK
    |u_cnd false ae hK
    |u_skip ae hK
    |u_bub ae hK
    |u_call H.f_uLoad (nm_uLoad L) uLoadFn ae hK
    |u_call H.f_uCas (nm_uCas L) uCasFn ae hK
    |u_op ae hK)
   refine Goes.stop (λw4 h4=>?_)
   replace hK:=ae hK h4
   clear h4;refine⟨rfl,rfl,λ⟨st,hw⟩=>stepG_semacquire_wait rfl rfl rfl H.f_semacquire (x_semacquire_n L) (x_semacquire_b L) (x_semacquire_x L) (x_semacquire_f L) (by simp[Act.eval,smA]) hw.cellSm,λhf=>?_⟩;refine⟨_,(stepG_semacquire (n:=1) rfl rfl (by k_ne) rfl H.f_semacquire (x_semacquire_n L) (x_semacquire_b L) (x_semacquire_x L) (x_semacquire_f L) (by simp[Act.eval,smA]) hf.cellSm (by k_ne) (hf.thaw 1)).trans (by rfl),30,co ?_⟩
   replace hK:ki X V w00 (w4.setCell (smA X.Wg) (.int .u32 0)):=hK.set rfl ⟨_,_,hf.setSm _⟩
   clear hf
   walk_nrm
   iterate 16 (first
    |u_c stepG_seq ae hK
    |u_c stepG_region_end ae hK
    |u_reg ae hK
    |u_c stepG_ret' ae hK
    |u_leave1 H.f_uLoad ae hK
    |u_leave1 H.f_uCas ae hK
    |u_c stepG_block ae hK
    |u_c stepG_inBlock ae hK
    |u_c stepG_inLoop ae hK
    |u_c stepG_loop ae hK
    |u_c stepG_skip ae hK
    |u_cnd true ae hK
    |u_cnd false ae hK
    |u_skip ae hK
    |u_bub ae hK
    |u_call H.f_uLoad (nm_uLoad L) uLoadFn ae hK
    |u_call H.f_uCas (nm_uCas L) uCasFn ae hK
    |u_op ae hK)
   refine Goes.stop (λw5 h5=>?_)
   replace hK:=ae hK h5
   clear h5;refine⟨rfl,λhw=>⟨_,stepG_load_atomic (v:=0) rfl rfl (by k_ne) rfl H.f_loadU64 (x_loadU64_n L) (x_loadU64_b L) (x_loadU64_x L) .u64 (x_loadU64_f L) rfl hw.cellSt,30,co ?_⟩⟩;clear hw
   walk_nrm
   iterate 11 (first
    |u_c stepG_seq ae hK
    |u_c stepG_region_end ae hK
    |u_reg ae hK
    |u_c stepG_ret' ae hK
    |u_leave1 H.f_uLoad ae hK
    |u_leave1 H.f_uCas ae hK
    |u_c stepG_block ae hK
    |u_c stepG_inBlock ae hK
    |u_c stepG_inLoop ae hK
    |u_c stepG_loop ae hK
    |u_c stepG_skip ae hK
    |u_cnd true ae hK
    |u_cnd false ae hK
    |u_skip ae hK
    |u_bub ae hK
    |u_call H.f_uLoad (nm_uLoad L) uLoadFn ae hK
    |u_call H.f_uCas (nm_uCas L) uCasFn ae hK
    |u_op ae hK)
   refine Goes.stop (λw6 h6=>?_)
   replace hK:=ae hK h6
   clear h6;refine⟨rfl,_,stepG_mark0 .enable s_ rfl rfl (by k_ne) rfl H.f_enable (x_enable_n L) (x_enable_b L) (x_enable_x L) (x_enable_f L),12,co ?_⟩
   walk_nrm
   iterate 3 (first
    |u_c stepG_seq ae hK
    |u_c stepG_region_end ae hK
    |u_reg ae hK
    |u_c stepG_ret' ae hK
    |u_leave1 H.f_uLoad ae hK
    |u_leave1 H.f_uCas ae hK
    |u_c stepG_block ae hK
    |u_c stepG_inBlock ae hK
    |u_c stepG_inLoop ae hK
    |u_c stepG_loop ae hK
    |u_c stepG_skip ae hK
    |u_cnd true ae hK
    |u_cnd false ae hK
    |u_skip ae hK
    |u_bub ae hK
    |u_call H.f_uLoad (nm_uLoad L) uLoadFn ae hK
    |u_call H.f_uCas (nm_uCas L) uCasFn ae hK
    |u_op ae hK)
   u_in ae hK
   refine goes_oper_k rfl rfl (by k_ne) (λKx UE=>?_);have VW:=run_convert_to_unsafe (P:=X.P) H.underlying_tWgP H.underlying_tUP H.room_tWg (Go.ConcN.Gen.WgLive.cell0 hK.live).choose_spec;have SX:=λes=>events_convert_to_unsafe (P:=X.P) H.underlying_tWgP H.underlying_tUP H.room_tWg (Go.ConcN.Gen.WgLive.cell0 hK.live).choose_spec es
   go_simp
   refine UE _ _ ⟨?_,?_⟩
   .u_none
    intro ex hex;have WM:=mem_listed hex;simp[go_sem,SX]at WM
   clear UE Kx VW SX;refine Goes.stop (λw7 h7=>?_)
   replace hK:=ae hK h7
   clear h7;refine⟨rfl,_,stepG_markAt .acquire s_ rfl rfl (by k_ne) rfl H.f_acquire (x_acquire_n L) (x_acquire_b L) (x_acquire_x L) (x_acquire_f L) (by simp[Act.eval,stA]),60+mT,lB ?_⟩
   walk_nrm
   iterate 9 (first
    |u_c stepG_seq ae hK
    |u_c stepG_region_end ae hK
    |u_reg ae hK
    |u_c stepG_ret' ae hK
    |u_leave1 H.f_uLoad ae hK
    |u_leave1 H.f_uCas ae hK
    |u_c stepG_block ae hK
    |u_c stepG_inBlock ae hK
    |u_c stepG_inLoop ae hK
    |u_c stepG_loop ae hK
    |u_c stepG_skip ae hK
    |u_cnd true ae hK
    |u_cnd false ae hK
    |u_skip ae hK
    |u_bub ae hK
    |u_call H.f_uLoad (nm_uLoad L) uLoadFn ae hK
    |u_call H.f_uCas (nm_uCas L) uCasFn ae hK
    |u_op ae hK)
   u_leave0 H.f_wait ae hK
   exact Goes.stop λw9 h9=>hT _ (ae hK h9)
  .refine⟨_,stepG_cas_miss (v:=(v':Int)*KK) (old:=s) (n:=s+1) rfl rfl (by k_ne) rfl H.f_casU64 (x_casU64_n L) (x_casU64_b L) (x_casU64_x L) .u64 (x_casU64_f L) rfl rfl rfl hw.cellSt (hw.thaw 0) (by rw[←hs];simp only[KK];omega),20,co ?_⟩;clear hw
   walk_nrm
   iterate 9 (first
    |u_c stepG_seq ae hK
    |u_c stepG_region_end ae hK
    |u_reg ae hK
    |u_c stepG_ret' ae hK
    |u_leave1 H.f_uLoad ae hK
    |u_leave1 H.f_uCas ae hK
    |u_c stepG_block ae hK
    |u_c stepG_inBlock ae hK
    |u_c stepG_inLoop ae hK
    |u_c stepG_loop ae hK
    |u_c stepG_skip ae hK
    |u_cnd true ae hK
    |u_cnd false ae hK
    |u_skip ae hK
    |u_bub ae hK
    |u_call H.f_uLoad (nm_uLoad L) uLoadFn ae hK
    |u_call H.f_uCas (nm_uCas L) uCasFn ae hK
    |u_op ae hK)
   refine Goes.stop (λw3 h3=>?_)
   replace hK:=ae hK h3
   clear h3;exact⟨_,rfl,by simp,by simp,hK⟩
end

section
variable{L:WgLink}
theorem xq(X:aA)(H:WgLib X.P L){c:Frame}{w00:World}(w:World)(hK:ki X V w00 w):
 Goes X.P true (aY X V) DC0 (Gg X (AO X L w00 c cs) V) 3 (G ((base L.wait).at ⟨#[.pk X.Wg 0]++Array.replicate 83 undef,[]⟩ [.code (body_wait L)]) (c::cs)) w:=by
 lib_facts
 simp only[body_wait,waitFn,Option.getD_some]
 u_c stepG_seq ae hK
 u_cond true ae hK
 u_reg ae hK
 refine Goes.stop (λQI QJ=>?_)
 replace hK:=ae hK QJ
 clear QJ;refine⟨rfl,_,stepG_mark0 .disable s_ rfl rfl (by k_ne) rfl H.f_disable (x_disable_n L) (x_disable_b L) (x_disable_x L) (x_disable_f L),3,co ?_⟩
 walk_nrm
 u_c stepG_region_end ae hK
 u_c stepG_block ae hK
 u_c stepG_loop ae hK
 exact Goes.stop (λRJ SQ=>⟨_,rfl,by simp,by simp,ae hK SQ⟩)
end

end Go.Proofs.YtkmoglhgkcnalaaGreatDoor
namespace Go.Proofs.YtkmoglhgkcnalaaGreatDoor
open Go Go.Conc Go.RowKit
open Go.ConcN (WgLive)
open Go.ConcR (DC0)
def gP(f:Func):Code:=.seq (rG f 4) (.seq (.cond (.tmp 13) .skip (.exit 0)) (.seq (.block 1 (.seq (rG f 5) (.seq (rG f 6) (rG f 7)))) (rG f 8)))
def j9(f:Func):Code:=.seq (rG f 9) (.seq (rG f 10) .ret)
theorem zi:f94.body=some (.seq (rG f94 0) (.seq (rG f94 1) (.seq (rG f94 2)
 (.seq (.seq (rG f94 3) (.block 0 (.loop (gP f94)))) (j9 f94))))):=by kernel_rfl
theorem Ik.cond{X:aA}{Next:(Nat->Prop)->Goroutine->World->Prop}{b:Frame}{k:List Item}{A B:Code}(q:Bool)(hq:a.eval x=.bool q)(h:Ik X Next m V (b.atR a (.code (if q then A else B)::k)) cs w0):Ik X Next (m+1) V (b.atR a (.code (.cond x A B)::k)) cs w0:=by
 refine Ik.plain (t:=.code (if q then A else B)::k) ?_ h;have e:(b.atR a (.code (.cond x A B)::k)).eval x=.bool q:=by rw[Frame.eval_atR];exact hq
 show(match (b.atR a (.code (.cond x A B)::k)).eval x with| .bool q=>some (Item.code (if q then A else B)::k)|_=>none)=_;rw[e]
theorem NI{X:aA}{pw:(Nat->Prop)->Goroutine->World->Prop}(h:∀w,aY X V w0 w->Goes X.P true (aY X V) DC0 (pw V) m (G fr cs) w):Ik X pw m V fr cs w0:=λw hw=>co (h w hw)
theorem bq.up{X:aA}{Next:(Nat->Prop)->Goroutine->World->Prop}:∀{m:Nat} {V:Nat->Prop} {g:Goroutine} {w:World},bq X Next m V g w->bq X Next (m+1) V g w
 |0,_,_,_,h=>.inl h
 |_+1,_,_,_,h=>h.elim .inl λ⟨hs,h⟩=>.inr ⟨hs,λQI QJ=>let ⟨g',w',es,h1,h2,h3⟩:=h QI QJ;⟨g',w',es,h1,h2,bq.up h3⟩⟩
theorem bq.to{X:aA}{Next:(Nat->Prop)->Goroutine->World->Prop}{g:Goroutine}(h:bq X Next m V g w):∀e,bq X Next (m+e) V g w
 |0=>h
 |e+1=>(bq.to h e).up
theorem Ik.to{X:aA}{Next:(Nat->Prop)->Goroutine->World->Prop}(hmn:m<=n)(h:Ik X Next m V fr cs w0):Ik X Next n V fr cs w0:=λw hw=>by
 have:=(h w hw).to (n- m)
 rwa [show m+(n- m)=n from by omega]at this
structure Sn (X:aA) (wE w:World):Prop where
 live:WgLive X.ty X.Wg w
 since:dw X.RO wE w
theorem Sn.rely{X:aA}(h:Sn X wE w)(r:aY X V w QI):Sn X wE QI:=⟨r.live h.live,h.since.trans (r.own.mono λ_ hb=>.inr hb)⟩
theorem Sn.meet{X:aA}(h:Sn X wE w)(r:ki X V w QI):Sn X wE QI:=⟨r.live,h.since.trans (r.since.mono λ_ hb=>.inr hb)⟩
structure wT (N:eT) (Wg C n:Nat) (RO:Nat->Prop) (wE:World):Prop where
 pap:lQ N C n wE
 ro:RO N.bs/\RO N.bg/\RO N.be/\(∀b,N.gr b->RO b)/\RO 0
 low:(∀b,RO b->b<wE.heap.size)/\Wg<wE.heap.size/\C<wE.heap.size
 sep:¬RO C/\C≠Wg/\¬RO Wg
abbrev Vn:Nat->Prop:=λ_=>False
section
variable{N:eT}{val:Nat->Value}{c:Frame}
def JI(N:eT)(Wg j:Nat):List (Nat×Value):=[(2,.pk N.bs 0),(3,.pk N.bg 0),(5,.pk N.be 0),(6,.pk Wg 0),(12,.int .i64 j)]
theorem ui(h2:F.lookup 2=some (.pk N.bs 0))(h3:F.lookup 3=some (.pk N.bg 0))(h5:F.lookup 5=some (.pk N.be 0))(h6:F.lookup 6=some (.pk Wg 0))(h12:F.lookup 12=some (.int .i64 j)):
 ∀d v,(JI N Wg j).lookup d=some v->F.lookup d=some v:=by
 intro d v hd;by_cases e0:d=2
 .subst e0;rw[h2];exact hd
 by_cases e1:d=3
 .subst e1;rw[h3];exact hd
 by_cases e2:d=5
 .subst e2;rw[h5];exact hd
 by_cases e3:d=6
 .subst e3;rw[h6];exact hd
 by_cases e4:d=12
 .subst e4;rw[h12];exact hd
 simp[JI,List.lookup,show(d==2)=false from by simpa using e0,show(d==3)=false from by simpa using e1,show(d==5)=false from by simpa using e2,show(d==6)=false from by simpa using e3,show(d==12)=false from by simpa using e4]at hd
def AR(X:aA)(wE:World)(c:Frame)(cs:List Frame)(_:Nat->Prop)(g:Goroutine)(w:World):Prop:=g=cQ (c.finish (.sk X.C X.n X.n)) cs/\dw X.RO wE w
def NP(f:FuncId)(ops:Array Oper)(k:List Item)(X:aA)(N:eT)(wE:World)(cs:List Frame)(V:Nat->Prop)(g:Goroutine)(w:World):Prop:=
 ∃w00 a,ay (JI N X.Wg 8) 20 [] a/\Sn X wE w00/\AO X Gk w00 ((base f).at a (.inRegion ops [0]::k)) cs V g w
theorem pE.mono{X:aA}{Fin A A':(Nat->Prop)->Goroutine->World->Prop}(hA:∀V g w,A V g w->A' V g w){g:Goroutine}(h:pE X Fin A V g w):pE X Fin A' V g w:=by
 refine⟨h.1,λv hv hw=>?_⟩;obtain⟨g',h1,h2,h3⟩:=h.2 v hv hw;refine⟨g',h1,h2,λh0=>?_⟩;obtain⟨k,hk⟩:=h3 h0;refine⟨k,hk.mono λV g w h4=>⟨h4.1,λv' S9 Uv=>⟨(h4.2 v' S9 Uv).1,λQQ=>?_⟩⟩⟩;obtain⟨g2,h5,k2,UN⟩:=(h4.2 v' S9 Uv).2 QQ;exact⟨g2,h5,k2,UN.mono hA⟩
end

theorem sX(V:Nat->Prop)(w:World)(a:Addr)(v:Value):grown V w (w.setCell a v)=V:=by
 funext b
 apply propext;exact⟨λh=>h.elim id λh=>absurd h.2 (by simpa[World.setCell]using h.1),.inl⟩
theorem sY(w:World)(o:Obj):grown Vn w (w.alloc o)=(· =w.heap.size):=by
 funext b
 apply propext;unfold grown;rw[ao];exact⟨λh=>h.elim (λh=>h.elim) λh=>by omega,λh=>.inr o_⟩
theorem KB{o:Oper}{cap:Array Value}(QH:o.op=.go {callee:=.value x,args:=#[],argTypes:=#[]})(hx:ev x=.func (.func f) #[] cap)(w:World):
 (execOp ev o).run P w=.ok (.spawn {target:=.fn (.func f) cap,args:=#[]}) w/\(execOp ev o).events P w #[]=#[]:=by
 constructor<;>simp[execOp,QH,resolve,Deferred.ofValue,hx]
section
variable{N:eT}{val:Nat->Value}{c:Frame}
theorem sM(h0:wT N Wg C n RO wE)(h:dw RO wE w):lQ N C n w:=jw (ty:=0) (Wg:=Wg) (val:=λ_=>undef) h0.ro wE w h.keep h.size h0.pap
theorem vc(h0:wT N Wg C n RO wE){w00:World}(hF:ay (JI N Wg 8) 20 [] a)(UV:Sn (eX prog 184 Wg C n val RO) wE w00)(w:World)(hM:ki (eX prog 184 Wg C n val RO) V w00 w):
 bq (eX prog 184 Wg C n val RO) (AR (eX prog 184 Wg C n val RO) wE c cs) 12 V (G ((base 94).at (a.put (((bC f94 9)[0]?).bind (·.dst)) (.tuple #[])) (.inRegion (bC f94 9) []::[.code (.seq (rG f94 10) .ret)])) (c::cs)) w:=by
 have hS:=UV.meet hM;have hF:=hF.put (d:=18) d_ (.tuple #[]);rw[show((bC f94 9)[0]?).bind (·.dst)=some 18 from by kernel_rfl];revert hF;generalize a.put (some 18) (.tuple #[])=a;intro hF;refine Ik.now (fr:=(base 94).atR a (.inRegion (bC f94 9) []::[.code (.seq (rG f94 10) .ret)])) (cs:=c::cs) ?_;refine Ik.plain rfl (Ik.plain rfl (Ik.region (L:=[0,1]) rfl ?_));refine Ik.op hF 19 (.load 43 (.tmp 5)) (.sk C n n) d_ k_ s_ (λo ho w r=>oU (.inr h0.ro.2.2.1) (an oJ ho (hF.g 5) (by rw[ak (sM h0 (hS.rely r).since).ends];rfl))) λa hF=>?_;refine Ik.op hF 4 (.assign (.tmp 19)) (.sk C n n) d_ k_ s_ (λo ho w _=>?_) λa hF=>?_
 .have hy:=cF (ev:=a.eval) (w:=w) prog (.inr ho);rw[hF.g 19]at hy;exact bI hy
 refine Ik.plain rfl (Ik.ends rfl (.inr ⟨_,rfl⟩) (Ik.leave (.sk C n n) rfl hF.defers func94 (λw=>tS (t:=4) rfl (hF.slot 4 _ rfl) w) (Ik.stop λw1 r1=>⟨rfl,(hS.rely r1).since⟩)))
abbrev An(X:aA)(f:Func)(g:FuncId)(N:eT)(wE:World)(cs:List Frame):=NP g (bC f 9) [.code (.seq (rG f 10) .ret)] X N wE cs
theorem CL(h0:wT N Wg C n RO wE)(V:Nat->Prop)(g:Goroutine)(w:World)(h:An (eX prog 184 Wg C n val RO) f94 94 N wE (c::cs) V g w):
 ∃k,bq (eX prog 184 Wg C n val RO) (pE (eX prog 184 Wg C n val RO) (AR (eX prog 184 Wg C n val RO) wE c cs) (An (eX prog 184 Wg C n val RO) f94 94 N wE (c::cs))) k V g w:=by
 obtain⟨w00,a,hF,UV,hH⟩:=h;have hw:=O0 (eX prog 184 Wg C n val RO) ow (Fin:=AR (eX prog 184 Wg C n val RO) wE c cs) (V:=V) (w00:=w00) (mT:=12) (vc h0 hF UV) g w hH;exact⟨30,(co hw).mono λV g w=>pE.mono λV g w h=>⟨w00,a,hF,UV,h⟩⟩
theorem Jy(X:aA)(f:Func)(g0:FuncId)(wE:World)(V:Nat->Prop)(g:Goroutine)(w:World)(h:An X f g0 N wE cs V g w):g.status=.running:=by
 obtain⟨w00,a,_,_,T,rfl,_⟩:=h;rfl
end

def Ph(X:aA)(Anch:(Nat->Prop)->Goroutine->World->Prop):Nat->(Nat->Prop)->Goroutine->World->Prop
 |0=>Gg X Anch
 |r+1=>xf X (8-(r+1)) (ji X Anch 8 r)
theorem O4{X:aA}{Anch:(Nat->Prop)->Goroutine->World->Prop}{k:Nat}{g:Goroutine}(h:bq X (Ph X Anch r) k V g w):ji X Anch 8 r V g w:=by
 cases r with
 |zero=>exact⟨k,h⟩
 |succ r=>exact⟨k,h⟩
section
variable{N:eT}{val:Nat->Value}{c:Frame}
theorem OX(h0:wT N Wg C n RO wE)(hF:ay (JI N Wg 8) 20 [] a)(UV:Sn (eX prog 184 Wg C n val RO) wE w0):
 Ik (eX prog 184 Wg C n val RO) (Gg (eX prog 184 Wg C n val RO) (An (eX prog 184 Wg C n val RO) f94 94 N wE (c::cs))) 300 Vn ((base 94).atR a [.code (gP f94),.inLoop (gP f94),.inBlock 0,.code (j9 f94)]) (c::cs) w0:=by
 refine Ik.plain rfl (Ik.region (L:=[0]) rfl ?_);refine Ik.op hF 13 (.binOp .lss 3 (.tmp 12) (.const (.int .i64 8)) 3) (.bool false) d_ k_ s_ (λo ho w _=>bI (iq (m:=8) (n:=8) ho (hF.g 12) rfl)) λa hF=>?_;refine Ik.plain rfl (Ik.plain rfl (Ik.cond false (hF.g 13) ?_));refine Ik.plain rfl (Ik.plain rfl (Ik.region (L:=[0]) rfl ?_));cases ho:(bC f94 9)[0]? with
 |none=>exact absurd ho (by simp;decide)
 |some o=>
 obtain⟨e1,e2,e3⟩:=dS (d:=some 18) (p:=.call {callee:=.value (.func 121),args:=#[.tmp 6],argTypes:=#[184]}) ho k_;have hr:=λw=>kW (w:=w) e2 (show(#[Operand.tmp 6]:Array Operand).map a.eval=#[.pk Wg 0]from by simp[hF.g 6]) (jm (P:=prog) ow.f_wait k_ k_ _);refine Ik.enter ho (e3 _) (by rw[e2];simp) hr ?_;refine Ik.to (m:=3) d_ λw r=>?_;have hM:ki (eX prog 184 Wg C n val RO) Vn w0 w:=⟨r.live UV.live,r.own,λh=>h.elim (λh=>h.elim) h0.sep.2.2⟩;have hg:=xq (eX prog 184 Wg C n val RO) ow (V:=Vn) (c:=(base 94).atR a (.inRegion (bC f94 9) [0]::[.code (.seq (rG f94 10) .ret)])) (cs:=c::cs) w hM;have he:Frame.enter prog 121 #[.pk Wg 0] .normal=(base Gk.wait).at ⟨#[.pk Wg 0]++Array.replicate 83 undef,[]⟩ [.code (Go.ConcR.Gen.body_wait Gk)]:=fJ (N:=84) (c:=Go.ConcR.Gen.body_wait Gk) [.pk Wg 0] ow.f_wait k_ k_;rw[he];refine(co hg).mono λV g w h=>⟨h.1,?_⟩;obtain⟨g',h1,k,h2⟩:=h.2;exact⟨g',h1,k,h2.mono λV g w h3=>⟨w0,a,hF.sub (ui rfl rfl rfl rfl rfl),UV,h3⟩⟩
theorem OW(D:ov N n val)(h0:wT N Wg C n RO wE)(hj:j<8){Next:(Nat->Prop)->Goroutine->World->Prop}(hF:ay (JI N Wg j) 20 [] a)(UV:Sn (eX prog 184 Wg C n val RO) wE w0)
 (Rl:∀a w,ay (JI N Wg j) 20 [] a->Sn (eX prog 184 Wg C n val RO) wE w->Next Vn (cQ ((base 94).atR a (.inRegion (bC f94 7) []::[.inBlock 1,.code (rG f94 8),.inLoop (gP f94),.inBlock 0,.code (j9 f94)])) cs) w):
 Ik (eX prog 184 Wg C n val RO) (xf (eX prog 184 Wg C n val RO) j Next) 300 Vn ((base 94).atR a [.code (gP f94),.inLoop (gP f94),.inBlock 0,.code (j9 f94)]) cs w0:=by
 refine Ik.plain rfl (Ik.region (L:=[0]) rfl ?_);refine Ik.op hF 13 (.binOp .lss 3 (.tmp 12) (.const (.int .i64 8)) 3) (.bool true) d_ k_ s_ (λo ho w _=>?_) λa hF=>?_
 .have hy:=iq (ev:=a.eval) (w:=w) (m:=j) (n:=8) ho (hF.g 12) rfl;rw[decide_eq_true (show(j:Int)<8 from by omega)]at hy;exact bI hy
 refine Ik.plain rfl (Ik.plain rfl (Ik.cond true (hF.g 13) ?_));refine Ik.plain rfl (Ik.plain rfl (Ik.plain rfl (Ik.plain rfl (Ik.region (L:=[0,1,2]) rfl ?_))));refine Ik.op hF 14 (.move (.tmp 12)) (.int .i64 j) d_ k_ s_ (λo ho w _=>?_) λa hF=>?_
 .have hy:=cF (ev:=a.eval) (w:=w) prog (.inl ho);rw[hF.g 12]at hy;exact bI hy
 refine Ik.mk hF 7 (.alloc 3) (λw=>.pk w.heap.size 0) (λ_=>.cells #[.int .i64 0] 3) d_ k_ s_ (λo ho w _=>⟨(jQ ho).1,λe he=>by rw[(jQ ho).2]at he;simp at he⟩) λa w1 r1 hF=>?_;have TB:=UV.rely r1;rw[sY];have Ur:=aK w1 (.cells #[.int .i64 0] 3);have QY:=ao w1 (.cells #[.int .i64 0] 3);have hSa:Sn (eX prog 184 Wg C n val RO) wE (w1.alloc (.cells #[.int .i64 0] 3)):=by
  have hsE:=TB.since.size;have hlw:=h0.low.2.1;refine⟨?_,⟨λb hb=>(bp _ _ (Nat.lt_of_lt_of_le (h0.low.1 b hb) hsE)).trans (TB.since.keep b hb),by rw[QY];have:=TB.since.size;omega,TB.since.os,TB.since.output,TB.since.tape⟩⟩;obtain⟨st,sm,hl⟩:=TB.live;exact⟨st,sm,(bp _ _ (show Wg<w1.heap.size from Nat.lt_of_lt_of_le hlw hsE)).trans hl⟩
 have hbE:wE.heap.size<=w1.heap.size:=TB.since.size;revert Ur hSa;generalize w1.alloc (.cells #[.int .i64 0] 3)=w2 at QY⊢;generalize w1.heap.size=bi at hbE hF QY⊢;intro Ur hSa;clear TB r1;cases ho:(bC f94 5)[2]? with
 |none=>exact absurd ho (by simp;decide)
 |some o=>
 obtain⟨e1,e2,e3⟩:=dS (d:=none) (p:=.store 3 (.tmp 7) (.tmp 14)) ho k_;refine w_ ho (e3 _) (by rw[e2];simp) λw3 r3=>?_;have V_:w3.heap[bi]?=some (.cells #[.int .i64 0] 3):=(r3.own.keep bi (.inl rfl)).trans Ur;have QZ:=dr (w:=w3) (b:=bi) (k:=0) (v:=.int .i64 j) (v0:=.int .i64 0) rfl rfl (I6.1 w3) e2 (hF.g 7) (hF.g 14) (by rw[ak V_];rfl) (by unfold World.frozen?;rw[show w3.heap[(⟨bi,0,none⟩:Addr).block]?=_ from V_];simp);refine⟨_,QZ.1,?_,?_⟩
 .rw[QZ.2];exact A5 (V:=(· =bi)) (a:=⟨bi,0,none⟩) rfl _
 rw[sX,e1];have UW:=hSa.rely r3;have hbi:bi<w3.heap.size:=(Array.getElem?_eq_some_iff.1 V_).1;have hbR:∀b,RO b->b≠bi:=λb hb e=>by have:=h0.low.1 b hb;omega
 have Yi:Sn (eX prog 184 Wg C n val RO) wE (w3.setCell ⟨bi,0,none⟩ (.int .i64 j)):=by
  have hlw:=h0.low.2.1;refine⟨?_,⟨λb hb=>(br w3 _ (hbR b hb)).trans (UW.since.keep b hb),by simpa[World.setCell]using UW.since.size,UW.since.os,UW.since.output,UW.since.tape⟩⟩;obtain⟨st,sm,hl⟩:=UW.live;exact⟨st,sm,(br w3 _ (show Wg≠bi from by omega)).trans hl⟩
 have Yf:=jb (v:=.int .i64 j) V_;have hF:ay ((7,.pk bi 0)::(14,.int .i64 j)::(13,.bool true)::JI N Wg j) 20 [] (a.put none undef):=hF;revert Yf Yi hF;generalize w3.setCell ⟨bi,0,none⟩ (.int .i64 j)=w4;generalize a.put none undef=a;intro Yi Yf hF;clear UW r3 V_ QZ hSa Ur e1 e2 e3 ho QY;refine Ik.plain rfl (Ik.plain rfl (Ik.region (L:=[0]) rfl ?_));cases ho:(bC f94 6)[0]? with
 |none=>exact absurd ho (by simp;decide)
 |some o=>
 obtain⟨e1,e2,e3⟩:=dS (d:=some 15) (p:=.call {callee:=.value (.func 116),args:=#[.tmp 6,.const (.int .i64 1)],argTypes:=#[184,3]}) ho k_;have hr:=λw=>kW (w:=w) e2 (show(#[Operand.tmp 6,.const (.int .i64 1)]:Array Operand).map a.eval=#[.pk Wg 0,.int .i64 1]from by simp[hF.g 6];rfl) (jm (P:=prog) ow.f_add k_ k_ _);refine Ik.enter ho (e3 _) (by rw[e2];simp) hr ?_;have he:Frame.enter prog 116 #[.pk Wg 0,.int .i64 1] .normal=(base Gk.add).at ⟨#[.pk Wg 0,.int .i64 1]++Array.replicate 115 undef,[]⟩ [.code (Go.ConcR.Gen.body_add Gk)]:=fJ (N:=117) (c:=Go.ConcR.Gen.body_add Gk) [.pk Wg 0,.int .i64 1] ow.f_add k_ k_;rw[he];refine Ik.to (m:=200) d_ (NI λw5 r5=>?_);have hM5:ki (eX prog 184 Wg C n val RO) (· =bi) w4 w5:=⟨r5.live Yi.live,r5.own,λh=>h.elim (λh=>by have:=h0.low.2.1;have h:Wg=bi:=h;omega) h0.sep.2.2⟩;refine Jz (eX prog 184 Wg C n val RO) ow (mT:=4) (w00:=w4) (λw6 hM6=>?_) w5 hM5;have hF:=hF.put (d:=15) d_ (.tuple #[]);rw[ho,Option.bind_some,e1];revert hF;generalize a.put (some 15) (.tuple #[])=a;intro hF;refine Ik.now (fr:=(base 94).atR a (.inRegion (bC f94 6) []::_)) ?_;refine Ik.plain rfl (Ik.region (L:=[0,1]) rfl ?_);refine Ik.op hF 16 (.makeFunc (.func 117) #[] #[.tmp 6,.tmp 2,.tmp 7,.tmp 3,.tmp 5]) (.func (.func 117) #[] #[.pk Wg 0,.pk N.bs 0,.pk bi 0,.pk N.bg 0,.pk N.be 0]) d_ k_ s_ (λo ho w _=>?_) λa hF=>?_
 .have hy:=dG (ev:=a.eval) (w:=w) prog ho;rw[show(#[Operand.tmp 6,.tmp 2,.tmp 7,.tmp 3,.tmp 5]:Array Operand).map a.eval=#[.pk Wg 0,.pk N.bs 0,.pk bi 0,.pk N.bg 0,.pk N.be 0]from by simp[hF.g 6,hF.g 2,hF.g 7,hF.g 3,hF.g 5]]at hy;exact bI hy
 refine Ik.stop λw7 r7=>?_;have hM7:=ae hM6 r7;have hS7:=Yi.meet hM7;clear e1 e2 e3 ho hr;cases ho:(bC f94 7)[1]? with
 |none=>exact absurd ho (by simp;decide)
 |some o=>
 obtain⟨e1,e2,e3⟩:=dS (d:=none) (p:=.go {callee:=.value (.tmp 16),args:=#[],argTypes:=#[]}) ho k_;have hgo:=KB (P:=prog) e2 (hF.g 16) w7;have WG:=stepG_spawn (P:=prog) (main:=true) (b:=base 94) (a:=a) (k:=[.inBlock 1,.code (rG f94 8),.inLoop (gP f94),.inBlock 0,.code (j9 f94)]) (cs:=cs) (rest:=[]) ho (e3 _) (by simp[base]) hgo.1 rfl;unfold listed at WG;rw[hgo.2,seen_none,e1]at WG;refine⟨rfl,_,_,(· =bi),WG,λb hb=>hb,λRP Ri=>?_,?_⟩
 .have VF:=hS7.since.size;refine worker D h0.ro hj ⟨sM h0 hS7.since,hS7.live,RP,λ_ _ h=>h.elim,⟨λb hb=>hb.elim (Ri b) λhb=>Nat.lt_of_lt_of_le (h0.low.1 b hb) VF,Nat.lt_of_lt_of_le h0.low.2.1 VF,Nat.lt_of_lt_of_le h0.low.2.2 VF⟩,⟨λb hb=>?_,h0.sep.1,h0.sep.2.1⟩⟩ ((hM7.since.keep bi (.inl rfl)).trans Yf);have hb:b=bi:=hb;subst hb;exact⟨λhr=>hbR b hr rfl,λe=>by have:=h0.low.2.2;have e:b=C:=e;omega,λe=>by have:=h0.low.2.1;have e:b=Wg:=e;omega⟩
 .have eV:(λb=>b=bi/\¬b=bi)=Vn:=by
   funext b
   apply propext;exact⟨λh=>h.2 h.1,λh=>h.elim⟩
  show Next (λb=>b=bi/\¬b=bi) _ w7;rw[eV];exact Rl (a.put none undef) w7 (hF.sub (ui rfl rfl rfl rfl rfl)) hS7
end

section
variable{o:Oper}{y:Operand}
theorem yg(Un:0<n)(hn:n<=65536)(QH:o.op=.makeSlice 43 x y)(hx:ev x=.int .i64 n)(hy:ev y=.int .i64 n):
 (execOp ev o).run prog w=.ok (.value (.sk w.heap.size n n)) (w.alloc (.cells (Array.replicate n (.string ⟨#[]⟩)) 9))/\(execOp ev o).events prog w #[]=#[]:=by
 have hu:prog.underlying 43=some (.slice 9):=by kernel_rfl
 have wl:IntKind.i64.wrap (n:Int)=n:=by rw[IntKind.wrap_i64];omega
 have hb:t9.bytes=16:=by kernel_rfl
 have n2:¬(281474976710656<16*(n:Int)):=by omega
 have XP:n*16<=roomBytes:=by unfold roomBytes;omega
 have h0:¬n=0:=by omega
 constructor
 .simp[execOp,QH,hx,hy,Instr.makeSlice,run_underlying hu,wl,n2,askRoom,newRow,hb,h0,go_sem];refine congrArg (λz=>Result.ok (Next.value (Value.sk w.heap.size n n)) (w.alloc (Obj.cells z 9))) (Array.ext s_ λi h1 h2=>?_);simp[Nat.mod_one]
 .simp[execOp,QH,hx,hy,Instr.makeSlice,run_underlying hu,wl,n2,askRoom,XP,newRow,hb,go_sem]
theorem Es(QH:o.op=.alloc 184):Mk prog ev o w #[.int .u64 0,.int .u32 0] 184:=by
 have e:execOp ev o=(do pure (.value (←Instr.alloc 184 true (.tuple #[])))):=by simp only[execOp,QH]
 unfold Mk;rw[e];constructor<;>kernel_rfl
end
section
variable{N:eT}{val:Nat->Value}{c:Frame}
theorem J_(D:ov N n val)(h0:wT N Wg C n RO wE):∀r,r<=8->∀(a:Act) (w0:World),ay (JI N Wg (8- r)) 20 [] a->Sn (eX prog 184 Wg C n val RO) wE w0->
 Ik (eX prog 184 Wg C n val RO) (Ph (eX prog 184 Wg C n val RO) (An (eX prog 184 Wg C n val RO) f94 94 N wE (c::cs)) r) 300 Vn ((base 94).atR a [.code (gP f94),.inLoop (gP f94),.inBlock 0,.code (j9 f94)]) (c::cs) w0
 |0,_,a,w0,hF,UV=>OX h0 hF UV
 |r+1,hr,a,w0,hF,UV=>by
  refine OW D h0 (j:=8-(r+1)) o_ hF UV λa w hF hS=>?_;refine O4 (k:=307) (Ik.now ?_);refine Ik.plain rfl (Ik.plain rfl (Ik.region (L:=[0,1]) rfl ?_));refine Ik.op hF 17 (.binOp .add 3 (.tmp 12) (.const (.int .i64 1)) 3) (.int .i64 (8- r:Nat)) d_ k_ s_ (λo ho w _=>?_) λa hF=>?_
  .have hy:=pZ (ev:=a.eval) (w:=w) (m:=(8-(r+1):Nat)) (n:=1) ho (hF.g 12) rfl o_;rw[show(((8-(r+1):Nat):Int)+1)=((8- r:Nat):Int)from by omega]at hy;exact bI hy
  refine Ik.op hF 12 (.move (.tmp 17)) (.int .i64 (8- r:Nat)) d_ k_ s_ (λo ho w _=>?_) λa hF=>?_
  .have hy:=cF (ev:=a.eval) (w:=w) prog (.inl ho);rw[hF.g 17]at hy;exact bI hy
  exact Ik.plain rfl (Ik.plain rfl (J_ D h0 r o_ a w (hF.sub (ui rfl rfl rfl rfl rfl)) hS))
theorem GB(D:ov N n val)(h0:wT N Wg C n RO wE)(hF:ay [(6,.pk Wg 0),(2,.pk N.bs 0),(3,.pk N.bg 0),(5,.pk N.be 0)] 20 [] a)(hl:WgLive 184 Wg wE):
 ji (eX prog 184 Wg C n val RO) (An (eX prog 184 Wg C n val RO) f94 94 N wE (c::cs)) 8 8 Vn
  (cQ ((base 94).atR a (.inRegion (bC f94 2) []::[.code (.seq (.seq (rG f94 3) (.block 0 (.loop (gP f94)))) (j9 f94))])) (c::cs)) wE:=by
 refine O4 (k:=308) (Ik.now ?_);refine Ik.plain rfl (Ik.plain rfl (Ik.plain rfl (Ik.region (L:=[0]) rfl ?_)));refine Ik.op hF 12 (.move (.const (.int .i64 0))) (.int .i64 0) d_ k_ s_ (λo ho w _=>bI (cF (ev:=a.eval) (w:=w) prog (.inl ho))) λa hF=>?_;exact Ik.plain rfl (Ik.plain rfl (Ik.plain rfl (J_ D h0 8 (Nat.le_refl _) a wE (hF.sub (ui rfl rfl rfl rfl rfl)) ⟨hl,dw.refl _ _⟩)))
end

theorem kH(V:Nat->Prop)(w:World)(o:Obj):grown V w (w.alloc o)=λb=>V b\/b=w.heap.size:=by
 funext b
 apply propext;unfold grown;rw[ao];exact⟨λh=>h.imp id λh=>by omega,λh=>h.imp id λh=>by omega⟩
theorem dw.alloc{R:Nat->Prop}{wK:World}(h:dw R wK w)(hl:∀b,R b->b<wK.heap.size)(o:Obj):dw R wK (w.alloc o):=
 ⟨λb hb=>(bp _ _ (Nat.lt_of_lt_of_le (hl b hb) h.size)).trans (h.keep b hb),by rw[ao];have:=h.size;omega,h.os,h.output,h.tape⟩
theorem dw.set{R:Nat->Prop}{wK:World}(h:dw R wK w){a:Addr}(ha:¬R a.block)(v:Value):dw R wK (w.setCell a v):=
 ⟨λb hb=>(br w v (λe=>ha (e▸hb))).trans (h.keep b hb),by simpa[World.setCell]using h.size,h.os,h.output,h.tape⟩
theorem dw.rely{X:aA}{wK:World}(h:dw X.RO wK w)(r:aY X V w QI):dw X.RO wK QI:=h.trans (r.own.mono λ_ hb=>.inr hb)
section
variable{s:eD}{ex:Array Value}{ga:Addr}{glen gcap ty:Nat}{val:Nat->Value}{wK:World}{c:Frame}
structure QG (s:eD) (ex:Array Value) (ga:Addr) (glen gcap n:Nat) (RO:Nat->Prop) (wK:World) (f:Func) (g0:FuncId) (cs:List Frame) (V:Nat->Prop) (g:Goroutine) (w:World) (a:Act) (bs bg C be:Nat):Prop where
 here:g=cQ ((base g0).atR a (.inRegion (bC f 2) [0]::[.code (.seq (.seq (rG f 3) (.block 0 (.loop (gP f)))) (j9 f))])) cs
 has:ay [(2,.pk bs 0),(3,.pk bg 0),(5,.pk be 0)] 20 [] a
 sig:w.heap[bs]?=some (.cells (s.cells++ex) 119)
 gone:w.heap[bg]?=some (.cells #[.slice (some ga) glen gcap] 24)
 list:w.heap[C]?=some (.cells (Array.replicate n (.string ⟨#[]⟩)) 9)
 ends:w.heap[be]?=some (.cells #[.sk C n n] 43)
 own:∀b,V b↔b=bs\/b=bg\/b=C\/b=be
 order:wK.heap.size<=bs/\bs<bg/\bg<C/\C<be/\be<w.heap.size
 kept:dw RO wK w
theorem Oq(Un:0<n)(hn:n<=65536)(Yb:s.count=n)(hl:∀b,RO b->b<wK.heap.size)(hF:ay [(0,.agg (s.cells++ex)),(1,.slice (some ga) glen gcap)] 20 [] a):
 Ik (eX prog ty 0 0 n val RO) (λV g w=>∃a bs bg C be,QG s ex ga glen gcap n RO wK f94 94 (c::cs) V g w a bs bg C be) 30 Vn
  ((base 94).atR a [.code (.seq (rG f94 0) (.seq (rG f94 1) (.seq (rG f94 2)
    (.seq (.seq (rG f94 3) (.block 0 (.loop (gP f94)))) (j9 f94)))))]) (c::cs) wK:=by
 refine Ik.plain rfl (Ik.region (L:=[0,1,2]) rfl ?_);refine Ik.mk hF 2 (.box 119 (.tmp 0)) (λw=>.pk w.heap.size 0) (λ_=>.cells (s.cells++ex) 119) d_ k_ s_ (λo ho w _=>?_) λa w1 r1 hF=>?_
 .have:=rc (ev:=a.eval) (w:=w) prog ho;rw[hF.g 0]at this;exact⟨this.1,λe he=>by rw[this.2]at he;simp at he⟩
 have k1:=(dw.rely (dw.refl RO wK) r1).alloc hl (.cells (s.cells++ex) 119);rw[sY];have s1:wK.heap.size<=w1.heap.size:=r1.own.size;have f1:=aK w1 (.cells (s.cells++ex) 119);have z1:=ao w1 (.cells (s.cells++ex) 119);revert k1 f1 z1;generalize w1.alloc (.cells (s.cells++ex) 119)=u1;generalize w1.heap.size=bs at s1 hF⊢;intro k1 f1 z1;clear r1;refine Ik.mk hF 3 (.box 24 (.tmp 1)) (λw=>.pk w.heap.size 0) (λ_=>.cells #[.slice (some ga) glen gcap] 24) d_ k_ s_ (λo ho w _=>?_) λa w2 r2 hF=>?_
 .have:=rc (ev:=a.eval) (w:=w) prog ho;rw[hF.g 1]at this;exact⟨this.1,λe he=>by rw[this.2]at he;simp at he⟩
 have k2:=(dw.rely k1 r2).alloc hl (.cells #[.slice (some ga) glen gcap] 24);rw[kH];have s2:bs<w2.heap.size:=by have:=r2.own.size;omega
 have f2:(w2.alloc (.cells #[.slice (some ga) glen gcap] 24)).heap[bs]?=some (.cells (s.cells++ex) 119):=(bp _ _ s2).trans ((r2.own.keep bs (.inl rfl)).trans f1);have g2:=aK w2 (.cells #[.slice (some ga) glen gcap] 24);have z2:=ao w2 (.cells #[.slice (some ga) glen gcap] 24);revert k2 f2 g2 z2;generalize w2.alloc (.cells #[.slice (some ga) glen gcap] 24)=u2;generalize w2.heap.size=bg at s2 hF⊢;intro k2 f2 g2 z2;clear r2 k1 f1 z1;refine Ik.op hF 4 (.assign (.const (.slice none 0 0))) (.slice none 0 0) d_ k_ s_ (λo ho w _=>bI (cF (ev:=a.eval) (w:=w) prog (.inr ho))) λa hF=>?_;refine Ik.plain rfl (Ik.plain rfl (Ik.region (L:=[0,1,2,3,4,5]) rfl ?_));refine Ik.op hF 8 (.fieldAddr 119 (.tmp 2) 0) (.pk bs 0) d_ k_ s_ (λo ho w _=>bI (D3 ho (hF.g 2))) λa hF=>?_;refine Ik.op hF 9 (.fieldAddr 115 (.tmp 8) 6) (.pk bs 6) d_ k_ s_ (λo ho w _=>bI (uS ho (hF.g 8))) λa hF=>?_;refine Ik.op hF 10 (.load 3 (.tmp 9)) (.int .i64 n) d_ k_ s_ (λo ho w r=>oU (.inl (.inl rfl)) (an az ho (hF.g 9) (by rw[ak ((r.own.keep bs (.inl (.inl rfl))).trans f2),←Yb,Array.getElem?_append_left (show 6<s.cells.size by simp[eD.cells])];rfl))) λa hF=>?_;refine Ik.mk hF 11 (.makeSlice 43 (.tmp 10) (.tmp 10)) (λw=>.sk w.heap.size n n) (λ_=>.cells (Array.replicate n (.string ⟨#[]⟩)) 9) d_ k_ s_ (λo ho w _=>?_) λa w3 r3 hF=>?_
 .have:=yg (ev:=a.eval) (w:=w) Un hn ho (hF.g 10) (hF.g 10);exact⟨this.1,λe he=>by rw[this.2]at he;simp at he⟩
 have k3:=(dw.rely k2 r3).alloc hl (.cells (Array.replicate n (.string ⟨#[]⟩)) 9);rw[kH];have s3:bg<w3.heap.size:=by have:=r3.own.size;omega
 have f3:(w3.alloc (.cells (Array.replicate n (.string ⟨#[]⟩)) 9)).heap[bs]?=some (.cells (s.cells++ex) 119):=(bp _ _ o_).trans ((r3.own.keep bs (.inl (.inl rfl))).trans f2);have g3:(w3.alloc (.cells (Array.replicate n (.string ⟨#[]⟩)) 9)).heap[bg]?=some (.cells #[.slice (some ga) glen gcap] 24):=(bp _ _ s3).trans ((r3.own.keep bg (.inl (.inr rfl))).trans g2);have l3:=aK w3 (.cells (Array.replicate n (.string ⟨#[]⟩)) 9);have z3:=ao w3 (.cells (Array.replicate n (.string ⟨#[]⟩)) 9);revert k3 f3 g3 l3 z3;generalize w3.alloc (.cells (Array.replicate n (.string ⟨#[]⟩)) 9)=u3;generalize w3.heap.size=C at s3 hF⊢;intro k3 f3 g3 l3 z3;clear r3 k2 f2 g2 z2;refine Ik.mk hF 5 (.alloc 43) (λw=>.pk w.heap.size 0) (λ_=>.cells #[.slice none 0 0] 43) d_ k_ s_ (λo ho w _=>⟨(jC ho).1,λe he=>by rw[(jC ho).2]at he;simp at he⟩) λa w4 r4 hF=>?_;have k4:=(dw.rely k3 r4).alloc hl (.cells #[.slice none 0 0] 43);rw[kH];have s4:C<w4.heap.size:=by have:=r4.own.size;omega
 have f4:(w4.alloc (.cells #[.slice none 0 0] 43)).heap[bs]?=some (.cells (s.cells++ex) 119):=(bp _ _ o_).trans ((r4.own.keep bs (.inl (.inl (.inl rfl)))).trans f3);have g4:(w4.alloc (.cells #[.slice none 0 0] 43)).heap[bg]?=some (.cells #[.slice (some ga) glen gcap] 24):=(bp _ _ o_).trans ((r4.own.keep bg (.inl (.inl (.inr rfl)))).trans g3);have l4:(w4.alloc (.cells #[.slice none 0 0] 43)).heap[C]?=some (.cells (Array.replicate n (.string ⟨#[]⟩)) 9):=(bp _ _ s4).trans ((r4.own.keep C (.inl (.inr rfl))).trans l3);have e4:=aK w4 (.cells #[.slice none 0 0] 43);have z4:=ao w4 (.cells #[.slice none 0 0] 43);revert k4 f4 g4 l4 e4 z4;generalize w4.alloc (.cells #[.slice none 0 0] 43)=u4;generalize w4.heap.size=be at s4 hF⊢;intro k4 f4 g4 l4 e4 z4;clear r4 k3 f3 g3 l3 z3;cases ho:(bC f94 1)[5]? with
 |none=>exact absurd ho (by simp;decide)
 |some o=>
 obtain⟨e1,e2,e3⟩:=dS (d:=none) (p:=.store 43 (.tmp 5) (.tmp 11)) ho k_;refine w_ ho (e3 _) (by rw[e2];simp) λw5 r5=>?_;have e5:w5.heap[be]?=some (.cells #[.slice none 0 0] 43):=(r5.own.keep be (.inl (.inr rfl))).trans e4;have QZ:=dr (w:=w5) (b:=be) (k:=0) (v:=.sk C n n) (v0:=.slice none 0 0) rfl rfl k_ e2 (hF.g 5) (hF.g 11) (by rw[ak e5];rfl) (by unfold World.frozen?;rw[show w5.heap[(⟨be,0,none⟩:Addr).block]?=_ from e5];simp);refine⟨_,QZ.1,?_,?_⟩
 .rw[QZ.2];exact A5 (a:=⟨be,0,none⟩) (.inr rfl) _
 rw[sX,e1];have z5:be<w5.heap.size:=(Array.getElem?_eq_some_iff.1 e5).1;have hRb:¬RO be:=λh=>by have:=hl be h;omega
 have k5:=(dw.rely k4 r5).set (a:=⟨be,0,none⟩) hRb (.sk C n n);have f5:=(br w5 (a:=⟨be,0,none⟩) (b:=bs) (.sk C n n) (show bs≠be from by omega)).trans ((r5.own.keep bs (.inl (.inl (.inl (.inl rfl))))).trans f4);have g5:=(br w5 (a:=⟨be,0,none⟩) (b:=bg) (.sk C n n) (show bg≠be from by omega)).trans ((r5.own.keep bg (.inl (.inl (.inl (.inr rfl))))).trans g4);have l5:=(br w5 (a:=⟨be,0,none⟩) (b:=C) (.sk C n n) (show C≠be from by omega)).trans ((r5.own.keep C (.inl (.inl (.inr rfl)))).trans l4);have h5:=jb (v:=.sk C n n) e5;have z6:be<(w5.setCell ⟨be,0,none⟩ (.sk C n n)).heap.size:=by simpa[World.setCell]using z5
 refine Ik.plain rfl (Ik.plain rfl (Ik.region (L:=[0]) rfl (Ik.stop λw6 r6=>⟨a.put none undef,bs,bg,C,be,?_⟩)));exact
  {here:=rfl
   has:=hF.sub λd v hd=>by
    by_cases q2:d=2
    .subst q2;exact hd
    by_cases q3:d=3
    .subst q3;exact hd
    by_cases q5:d=5
    .subst q5;exact hd
    simp[List.lookup,show(d==2)=false from by simpa using q2,show(d==3)=false from by simpa using q3,show(d==5)=false from by simpa using q5]at hd
   sig:=(r6.own.keep bs (.inl (.inl (.inl (.inl rfl))))).trans f5
   gone:=(r6.own.keep bg (.inl (.inl (.inl (.inr rfl))))).trans g5
   list:=(r6.own.keep C (.inl (.inl (.inr rfl)))).trans l5
   ends:=(r6.own.keep be (.inl (.inr rfl))).trans h5
   own:=λb=>⟨λh=>by rcases h with((h|h)|h)|h<;>simp[h],λh=>by rcases h with h|h|h|h<;>simp[h]⟩
   order:=⟨s1,s2,s3,s4,Nat.lt_of_lt_of_le z6 r6.own.size⟩
   kept:=dw.rely k5 r6}
end

end Go.Proofs.YtkmoglhgkcnalaaGreatDoor
namespace Go.Proofs.YtkmoglhgkcnalaaGreatDoor
open Go Go.Conc
open Go.ConcN (sumTo upd sumTo_upd upd_ne upd_same CT Apart PermW WgLive RelBy WD ShN OkW Ok0 norel_of)
open Go.ConcR (KK WgAt stA smA rd wr mk DC0)
section
variable{X:aA}{S:Nat->Prop}{gs:Array Goroutine}{t:Trace}{D:Nat->WD}{Nd:Nat->ep}{d0:Nat}{q:Nat->Nat}
theorem fe(f:Goroutine->Goroutine)(x:Goroutine){a:Nat}(h:a≠b):((gs.map f).setIfInBounds a x)[b]?=(gs[b]?).map f:=by
 rw[Array.getElem?_setIfInBounds_ne h,Array.getElem?_map]
theorem mY(f:Goroutine->Goroutine)(x:Goroutine){a:Nat}(h:a<gs.size):((gs.map f).setIfInBounds a x)[a]?=some x:=by simp[h]
theorem mf{dd:WD}{x:ep}{g:Goroutine}(h:(dd.stage=7/\dd.fuel=0/\dd.deaf=0/\g=x.g/\aE X i x/\aV X i x.V x.w w)\/(dd.stage<=6/\wZ X dd.stage dd.fuel dd.deaf g w))(a a':Goroutine)(v:World):woken X.P a a' v g=g:=by
 rcases h with⟨_,_,_,rfl,h,_⟩|⟨_,h⟩
 .exact woken_run h.running
 .exact @Go.ConcN.WSit.woken dh _ _ _ _ _ _ _ _ _ _ _ _ _ _ _ h a a' v
theorem pF{dd:WD}{x:ep}{g:Goroutine}(h:(dd.stage=7/\dd.fuel=0/\dd.deaf=0/\g=x.g/\aE X i x/\aV X i x.V x.w w)\/(dd.stage<=6/\wZ X dd.stage dd.fuel dd.deaf g w))
 (hr:aV X i x.V w w') (hl:tu X.ty X.Wg w w'):(dd.stage=7/\dd.fuel=0/\dd.deaf=0/\g=x.g/\aE X i x/\aV X i x.V x.w w')\/(dd.stage<=6/\wZ X dd.stage dd.fuel dd.deaf g w'):=by
 rcases h with⟨h1,h2,h3,h4,h5,h6⟩|⟨h1,h2⟩
 .exact .inl ⟨h1,h2,h3,h4,h5,h6.trans hr⟩
 .exact .inr ⟨h1, @Go.ConcN.WSit.rely dh _ _ _ _ _ _ _ _ _ _ _ _ _ _ _ _ h2 hl⟩
theorem qX{u:Trace}{k:Nat}(hu:∀op∈u,op.g=k)(hk:k=0\/m<k)(h:∀(i g:Nat),t.g? i=some g->g≠0->g<=m->t.counts i->∃k,t.g? k=some 0/\HappensBefore t i k):
 ∀(i g:Nat),(t++u).g? i=some g->g≠0->g<=m->(t++u).counts i->∃k,(t++u).g? k=some 0/\HappensBefore (t++u) i k:=by
 intro i g hg h0 hm hc;rcases Nat.lt_or_ge i t.size with QK|hge
 .obtain⟨n,h1,h2⟩:=h i g (by rw[←g?_old (u:=u) QK];exact hg) h0 hm ((counts_old QK).1 hc);have hn:n<t.size:=by
   unfold Trace.g? at h1;obtain⟨z,hz,_⟩:=Option.map_eq_some_iff.1 h1;exact lt_size_of_getElem? hz
  exact⟨n,by rw[g?_old hn];exact h1,hb_app u h2⟩
 .exfalso;unfold Trace.g? at hg;obtain⟨z,hz,e⟩:=Option.map_eq_some_iff.1 hg;rcases getElem?_append_cases hz with⟨h1,_⟩|⟨_,h1⟩
  .omega
  .have:=hu z h1;omega
theorem nW{Sh:Loc->Prop}{u:Trace}{k:Nat}(hu:∀op∈u,op.g=k)(hk:k=0\/m<k)(h:∀(i:Nat) (a:Touch) (g:Nat),touchAt t i=some a->t.g? i=some g->g<=m->a.loc.isMemory=true->Knows t 0 i\/(Sh a.loc/\a.kind=.atomic)):
 ∀(i:Nat) (a:Touch) (g:Nat),touchAt (t++u) i=some a->(t++u).g? i=some g->g<=m->a.loc.isMemory=true->Knows (t++u) 0 i\/(Sh a.loc/\a.kind=.atomic):=by
 intro i a g ha hg hm RY;obtain⟨x,hx,TP⟩:=touch_of ha;rcases getElem?_append_cases hx with⟨h1,RE⟩|⟨_,h1⟩
 .exact(h i a g (by rw[touchAt_of RE];exact TP) (by rw[←g?_old (u:=u) h1];exact hg) hm RY).imp (·.app u) id
 .have hxg:=hu x h1;have hgx:g=x.g:=by
   unfold Trace.g? at hg;rw[hx]at hg;exact(Option.some.inj hg).symm
  rcases hk with hk|hk
  .have:=knows_own hx;rw[hxg,hk]at this;exact .inl this
  .omega
theorem kN{Sh:Loc->Prop}{u:Trace}(hu:∀op∈u,op.g<=m\/∀x,op.act.touch?=some x->x.kind=.atomic->Sh x.loc)(h:∀(i:Nat) (a:Touch) (g:Nat),touchAt t i=some a->t.g? i=some g->m<g->a.kind=.atomic->Sh a.loc):
 ∀(i:Nat) (a:Touch) (g:Nat),touchAt (t++u) i=some a->(t++u).g? i=some g->m<g->a.kind=.atomic->Sh a.loc:=by
 intro i a g ha hg hm hk;obtain⟨x,hx,TP⟩:=touch_of ha;rcases getElem?_append_cases hx with⟨h1,RE⟩|⟨_,h1⟩
 .exact h i a g (by rw[touchAt_of RE];exact TP) (by rw[←g?_old (u:=u) h1];exact hg) hm hk
 .have hgx:g=x.g:=by
   unfold Trace.g? at hg;rw[hx]at hg;exact(Option.some.inj hg).symm
  rcases hu x h1 with h2|h2
  .omega
  .exact h2 a TP hk
theorem iC.work(h:iC X S m j gs w t D Nd V0 d0 q)(hi:i<j){g:Goroutine}(hg:gs[1+m+i]?=some g)(h7:(D i).stage=7)(hfd:(D i).fuel=0/\(D i).deaf=0)
 (V2:iU X i (Nd i).V w w' es) (hn:aE X i ((Nd i).next w g' w')):
 iC X S m j ((gs.map (woken X.P g g' w')).setIfInBounds (1+m+i) g') w' (t++MemOp.ofEvents (1+m+i) g.frame.fn g.frame.place es) D (upd Nd i ((Nd i).next w g' w')) V0 d0 q:=by
 obtain⟨_,hrw,VS,RP,QU,VH,_⟩:=qe h.lies h.list hi V2;have QK:1+m+i<gs.size:=by rw[h.size];omega
 have hL':iB X S j (upd Nd i ((Nd i).next w g' w')) V0 w':=h.lies.work hi VH;have hanew:CT (gF S X.Wg) (mL X m j (upd Nd i ((Nd i).next w g' w'))) (tW X m) t (m+j):=by
  refine J7 h.ct (λn a ha k=>?_) λ_ _ _ _=>Iff.rfl;have Ri:=oy h.seen ha;have hV:∀k,k<j->(di (upd Nd i ((Nd i).next w g' w') k).V a.loc↔di (Nd k).V a.loc):=by
   intro k _;by_cases e:k=i
   .subst e;rw[upd_same];cases hl:a.loc with
    |cell b=>
     rw[hl]at Ri;exact⟨λx=>x.elim id λy=>absurd Ri (Nat.not_lt.2 y.1),.inl⟩
    |obj b=>
     rw[hl]at Ri;exact⟨λx=>x.elim id λy=>absurd Ri (Nat.not_lt.2 y.1),.inl⟩
    |_=>exact Iff.rfl
   .rw[upd_ne Nd _ e]
  exact⟨λ⟨x,hx,hk,ho⟩=>⟨x,hx,hk,ho.imp (hV x hx).1 id⟩,λ⟨x,hx,hk,ho⟩=>⟨x,hx,hk,ho.imp (hV x hx).2 id⟩⟩
 have Va:∀e∈es,(∀fn pos,OkW (gF S X.Wg) (mL X m j (upd Nd i ((Nd i).next w g' w'))) (tW X m) (1+m+i) {g:=1+m+i,fn,pos,act:=.ofEvent e})/\(MemAct.ofEvent e).low w'.heap.size/\e.loc≠ .mark .disable/\e.loc≠ .mark .enable/\∀a,e.loc≠ .mark (.release a):=by
  intro e he;rcases V2 with V2|⟨c,v,hc,rfl,rfl⟩
  .have h1:=V2.ev e he;refine⟨λfn pos=>I8 (λl hl=>⟨i,hi,rfl,.inl (by rw[upd_same];exact hl)⟩) (λl hl=>⟨by omega,hl⟩) h1 fn pos,t_ (λb hb=>?_) (λb hb=>(hL'.ro b hb).1) h1,iG h1⟩;rcases hb with hb|hb
   .exact Nat.lt_of_lt_of_le (h.lies.priv i hi b hb).1 VH
   .exact hb.2
  .rw[Array.mem_singleton]at he;subst he;refine⟨λfn pos=>⟨rfl,λx hx=>?_⟩,?_,by simp,by simp,by simp⟩
   .simp only[ofEvent_cell0,MemAct.touch?,Option.some.injEq]at hx;subst hx;exact .inr (.inl ⟨i,hi,rfl,.inr ⟨c,hc,rfl⟩⟩)
   .show X.C<_;exact hL'.wgl.2
 refine
  {size:=by simp[h.size]
   old:=λk h0 hk=>?_
   wk:=λk hk=>?_
   lies:=hL'
   tabRO:=h.tabRO
   ct:=hanew.appW hL'.apart (k:=1+m+i) o_ o_ λop QH=>?_
   norel:=h.norel.app (norel_of λe he=>(Va e he).2.2.2.2 _)
   deaf0:=by rw[Deaf_other t o_ _ bA];exact h.deaf0
   deafW:=λk hk=>?_
   rel:=λk hk hs=>?_
   has:=λk hk hs c hc=>?_
   list:=RP
   seen:=λop QH=>?_
   over:=qX bA (.inr o_) h.over
   known:=nW bA (.inr o_) h.known
   atom:=kN (λop QH=>.inr λx hx hk=>?_) h.atom}
 .obtain⟨x,hx,hq⟩:=h.old k h0 hk;refine⟨x,by rw[fe _ _ o_,hx,Option.map_some,woken_quitsD hq],?_⟩;rw[Deaf_other t o_ _ bA];exact hq
 .by_cases e:k=i
  .subst e;exact⟨g',mY _ _ QK,.inl ⟨h7,hfd.1,hfd.2,by rw[upd_same];rfl,by rw[upd_same];exact hn,by rw[upd_same];exact aV.refl _ _ _ _⟩⟩
  .obtain⟨x,hx,hs⟩:=h.wk k hk;refine⟨x,by rw[fe _ _ o_,hx,Option.map_some,mf hs],?_⟩;rw[upd_ne Nd _ e];exact pF hs (hrw k hk e) (VS h.tabRO)
 .obtain⟨e,he,rfl⟩:=Go.Conc.mem_ofEvents QH;exact(Va e he).1 _ _
 .by_cases e:k=i
  .subst e;rw[Deaf_own,deafBehind_still λe he=>⟨(Va e he).2.2.1,(Va e he).2.2.2.1⟩];exact h.deafW k hk
  .rw[Deaf_other t o_ _ bA];exact h.deafW k hk
 .have e:k≠i:=λe=>by rw[e]at hs;omega
  obtain⟨r,hr⟩:=h.rel k hk hs;exact⟨r,hr.appOther bA o_⟩
 .have e:k≠i:=λe=>by rw[e]at hs;omega
  rw[QU k e c hc];exact h.has k hk hs c hc
 .rcases Array.mem_append.1 QH with QH|QH
  .exact MemAct.low_mono VH (h.seen op QH)
  .obtain⟨e,he,rfl⟩:=Go.Conc.mem_ofEvents QH;exact(Va e he).2.1
 .obtain⟨e,he,rfl⟩:=Go.Conc.mem_ofEvents QH;rcases V2 with V2|⟨c,v,hc,rfl,rfl⟩
  .rw[BK (V2.ev e he) hx]at hk;cases hk
  .rw[Array.mem_singleton]at he;subst he;have RE:(MemAct.access ⟨.cell (X.at c),true,false⟩).touch?=some x:=hx;simp only[MemAct.touch?,Option.some.injEq]at RE;subst RE;cases hk
end

section
variable{X:aA}{S:Nat->Prop}{gs:Array Goroutine}{t:Trace}{D:Nat->WD}{Nd:Nat->ep}{d0:Nat}{q:Nat->Nat}
theorem qg(hL:iB X S j Nd V0 w)(hl:X.list w)(hT:iV (· =X.Wg) w w')(S0:WgLive X.ty X.Wg w'):
 aY X V0 w w'/\(∀i',i'<j->aV X i' (Nd i').V w w')/\(X.RO 0->tu X.ty X.Wg w w')/\X.list w'/\(∀c,w'.cell? (X.at c)=w.cell? (X.at c)):=by
 have hC:¬X.C=X.Wg:=λe=>hL.wgc e.symm;have V7:=hT.list hC hL.wgl.2 hl;have QR:∀c,w'.cell? (X.at c)=w.cell? (X.at c):=λc=>hT.cell (a:=X.at c) hC hL.wgl.2;have RA:∀b,X.RO b->¬b=X.Wg/\b<w.heap.size:=λb hb=>⟨(hL.ro b hb).2.1,(hL.ro b hb).1⟩;refine⟨⟨hT.kept λb hb=>?_,λ_=>S0⟩,λi' R5=>⟨hT.kept λb hb=>?_,λ_=>S0,λ_=>V7,λc _=>QR c⟩,λh0=> @Go.ConcN.RW.mk dh _ _ _ _ _ _ _ _ (λb hb=>absurd hb (Nat.not_lt_zero _)) (λ_=>S0) (λ⟨cs,h1,h2⟩=>⟨cs,(hT.keep 0 (RA 0 h0).2 (RA 0 h0).1).trans h1,h2⟩) (hT.cell (RA 0 h0).1 (RA 0 h0).2),V7,QR⟩
 .rcases hb with hb|hb
  .exact⟨(hL.v0 b hb).2.2.1,(hL.v0 b hb).1⟩
  .exact RA b hb
 .rcases hb with hb|hb
  .exact⟨(hL.priv i' R5 b hb).2.2.1,(hL.priv i' R5 b hb).1⟩
  .exact RA b hb
theorem vi(A:Nat->Prop)(w:World):iV A w w:=⟨λ_ _ _=>rfl,Nat.le_refl _,rfl,rfl,rfl⟩
theorem iC.stepW(h:iC X S m j gs w t D Nd V0 d0 q)(hi:i<j){g:Goroutine}{s' f' TI:Nat}(hT:iV (· =X.Wg) w w')(S0:WgLive X.ty X.Wg w')(h6:s'<=6)(SI:wZ X s' f' TI g' w')
 (Sr:∀e∈es,(∀fn pos,OkW (gF S X.Wg) (mL X m j Nd) (tW X m) (1+m+i) {g:=1+m+i,fn,pos,act:=.ofEvent e})/\(MemAct.ofEvent e).low w.heap.size/\e.loc≠ .mark (.release (stA X.Wg)))
 (Ur:∀e∈es,∀x,(MemAct.ofEvent e).touch?=some x->gF S X.Wg x.loc) (hdeaf:deafBehind (D i).deaf es=TI) (U1:∃r,RelBy (stA X.Wg) (t++MemOp.ofEvents (1+m+i) g.frame.fn g.frame.place es) (1+m+i) r) (Y5:∀c,X.mine i c->w.cell? (X.at c)=some (X.val c)):
 iC X S m j ((gs.map (woken X.P g g' w')).setIfInBounds (1+m+i) g') w' (t++MemOp.ofEvents (1+m+i) g.frame.fn g.frame.place es) (upd D i ⟨s',f',TI⟩) Nd V0 d0 q:=by
 obtain⟨_,hrw,VS,RP,QU⟩:=qg h.lies h.list hT S0;have QK:1+m+i<gs.size:=by rw[h.size];omega
 refine
  {size:=by simp[h.size]
   old:=λk h0 hk=>?_
   wk:=λk hk=>?_
   lies:=h.lies.grow hT.size
   tabRO:=h.tabRO
   ct:=h.ct.appW h.lies.apart (k:=1+m+i) o_ o_ λop QH=>?_
   norel:=h.norel.app (norel_of λe he=>(Sr e he).2.2)
   deaf0:=by rw[Deaf_other t o_ _ bA];exact h.deaf0
   deafW:=λk hk=>?_
   rel:=λk hk hs=>?_
   has:=λk hk hs c hc=>?_
   list:=RP
   seen:=λop QH=>?_
   over:=qX bA (.inr o_) h.over
   known:=nW bA (.inr o_) h.known
   atom:=kN (λop QH=>.inr λx hx _=>by obtain⟨e,he,rfl⟩:=Go.Conc.mem_ofEvents QH;exact Ur e he x hx) h.atom}
 .obtain⟨x,hx,hq⟩:=h.old k h0 hk;refine⟨x,by rw[fe _ _ o_,hx,Option.map_some,woken_quitsD hq],?_⟩;rw[Deaf_other t o_ _ bA];exact hq
 .by_cases e:k=i
  .subst e;exact⟨g',mY _ _ QK,.inr (by rw[upd_same];exact⟨h6,SI⟩)⟩
  .obtain⟨x,hx,hs⟩:=h.wk k hk;refine⟨x,by rw[fe _ _ o_,hx,Option.map_some,mf hs],?_⟩;rw[upd_ne D _ e];exact pF hs (hrw k hk) (VS h.tabRO)
 .obtain⟨e,he,rfl⟩:=Go.Conc.mem_ofEvents QH;exact(Sr e he).1 _ _
 .by_cases e:k=i
  .subst e;rw[Deaf_own,h.deafW k hk,upd_same];exact hdeaf
  .rw[Deaf_other t o_ _ bA,upd_ne D _ e];exact h.deafW k hk
 .by_cases e:k=i
  .subst e;exact U1
  .rw[upd_ne D _ e]at hs;obtain⟨r,hr⟩:=h.rel k hk hs;exact⟨r,hr.appOther bA o_⟩
 .rw[QU];by_cases e:k=i
  .subst e;exact Y5 c hc
  .rw[upd_ne D _ e]at hs;exact h.has k hk hs c hc
 .rcases Array.mem_append.1 QH with QH|QH
  .exact MemAct.low_mono hT.size (h.seen op QH)
  .obtain⟨e,he,rfl⟩:=Go.Conc.mem_ofEvents QH;exact MemAct.low_mono hT.size (Sr e he).2.1
structure Pi (X:aA) (j:Nat) (Nd:Nat->ep) (w w':World):Prop where
 wk:∀i',i'<j->aV X i' (Nd i').V w w'
 late:X.RO 0->tu X.ty X.Wg w w'
 list:X.list w'
 cells:∀c,w'.cell? (X.at c)=w.cell? (X.at c)
 size:w.heap.size<=w'.heap.size
theorem iC.step0(h:iC X S m j gs w t D Nd V0 d0 q){V0':Nat->Prop}{a a':Goroutine}(hS:Pi X j Nd w w')(hL:iB X S j Nd V0' w')
 (Sr:∀e∈es,(∀fn pos,Ok0 (gF S X.Wg) (mL X m j Nd) (tW X m) (m+j) {g:=0,fn,pos,act:=.ofEvent e})/\(MemAct.ofEvent e).low w'.heap.size/\e.loc≠ .mark (.release (stA X.Wg))):
 iC X S m j ((gs.map (woken X.P a a' w')).setIfInBounds 0 a') w' (t++MemOp.ofEvents 0 a.frame.fn a.frame.place es) D Nd V0' (deafBehind d0 es) q:=by
 refine
  {size:=by simp[h.size]
   old:=λk h0 hk=>?_
   wk:=λk hk=>?_
   lies:=hL
   tabRO:=h.tabRO
   ct:=h.ct.app0 hL.apart λop QH=>?_
   norel:=h.norel.app (norel_of λe he=>(Sr e he).2.2)
   deaf0:=by rw[Deaf_own,h.deaf0]
   deafW:=λk hk=>by rw[Deaf_other t o_ _ bA];exact h.deafW k hk
   rel:=λk hk hs=>?_
   has:=λk hk hs c hc=>by rw[hS.cells];exact h.has k hk hs c hc
   list:=hS.list
   seen:=λop QH=>?_
   over:=qX bA (.inl rfl) h.over
   known:=nW bA (.inl rfl) h.known
   atom:=kN (λop QH=>.inl (by rw[bA op QH];exact Nat.zero_le _)) h.atom}
 .obtain⟨x,hx,hq⟩:=h.old k h0 hk;refine⟨x,by rw[fe _ _ o_,hx,Option.map_some,woken_quitsD hq],?_⟩;rw[Deaf_other t o_ _ bA];exact hq
 .obtain⟨x,hx,hs⟩:=h.wk k hk;exact⟨x,by rw[fe _ _ o_,hx,Option.map_some,mf hs],pF hs (hS.wk k hk) (hS.late h.tabRO)⟩
 .obtain⟨e,he,rfl⟩:=Go.Conc.mem_ofEvents QH;exact(Sr e he).1 _ _
 .obtain⟨r,hr⟩:=h.rel k hk hs;exact⟨r,hr.appOther bA o_⟩
 .rcases Array.mem_append.1 QH with QH|QH
  .exact MemAct.low_mono hS.size (h.seen op QH)
  .obtain⟨e,he,rfl⟩:=Go.Conc.mem_ofEvents QH;exact(Sr e he).2.1
theorem Ee(hL:iB X S j Nd V0 w)(hl:X.list w)(h:bo V0 X.RO w w' es):Pi X j Nd w w'/\iB X S j Nd (grown V0 w w') w'/\w'.heap[X.Wg]?=w.heap[X.Wg]?:=by
 have hT:=h.turns;have Rm:¬V0 X.Wg:=λhv=>(hL.v0 _ hv).2.2.1 rfl;have hC:¬V0 X.C:=λhv=>(hL.v0 _ hv).2.2.2.1 rfl;have S0:=hT.live (ty:=X.ty) Rm hL.wgl.1;have RA:∀b,X.RO b->¬V0 b/\b<w.heap.size:=λb hb=>⟨λhv=>(hL.v0 b hv).2.1 hb,(hL.ro b hb).1⟩;have QR:∀c,w'.cell? (X.at c)=w.cell? (X.at c):=λc=>hT.cell (a:=X.at c) hC hL.wgl.2;have V7:=hT.list hC hL.wgl.2 hl;refine⟨⟨λi' R5=>⟨hT.kept λb hb=>?_,S0,λ_=>V7,λc _=>QR c⟩,λh0=> @Go.ConcN.RW.mk dh _ _ _ _ _ _ _ _ (λb hb=>absurd hb (Nat.not_lt_zero _)) S0 (λ⟨cs,h1,h2⟩=>⟨cs,(hT.keep 0 (RA 0 h0).2 (RA 0 h0).1).trans h1,h2⟩) (hT.cell (RA 0 h0).1 (RA 0 h0).2),V7,QR,hT.size⟩,hL.main hT.size,hT.keep _ hL.wgl.1 Rm⟩;rcases hb with hb|hb
 .exact⟨(hL.priv i' R5 b hb).2.2.2.2.2,(hL.priv i' R5 b hb).1⟩
 .exact RA b hb
theorem I9(hL:iB X S j Nd (grown V0 w w') w'){e:Event}(he:eC (grown V0 w w') X.RO e)(fn:FuncId)(pos:String):Ok0 (gF S X.Wg) (mL X m j Nd) (tW X m) (m+j) {g:=0,fn,pos,act:=.ofEvent e}:=by
 have key:∀l:Loc,(di (grown V0 w w') l\/di X.RO l)->¬gF S X.Wg l/\∀k,¬mL X m j Nd k l:=by
  intro l hl;refine⟨λhs=>?_,λk ⟨i,hi,_,ho⟩=>?_⟩
  .rcases hl with hl|hl
   .obtain⟨b,h1,h2⟩:=tG hl hs;exact h2.elim (hL.v0 b h1).2.2.2.2 (hL.v0 b h1).2.2.1
   .obtain⟨b,h1,h2⟩:=tG hl hs;exact h2.elim (λh2=>(hL.sh b h2).2.1 h1) (hL.ro b h1).2.1
  .rcases ho with ho|⟨c,_,rfl⟩
   .rcases hl with hl|hl
    .obtain⟨b,h1,h2⟩:=fa hl ho;exact(hL.priv i hi b h2).2.2.2.2.2 h1
    .obtain⟨b,h1,h2⟩:=fa hl ho;exact(hL.priv i hi b h2).2.1 h1
   .rcases hl with hl|hl
    .exact(hL.v0 _ hl).2.2.2.1 rfl
    .exact(hL.ro _ hl).2.2 rfl
 have TQ:∀l:Loc,di (grown V0 w w') l->∀k,¬tW X m k l:=λl hl k ⟨_,hr⟩=>by
  obtain⟨b,h1,h2⟩:=fa hl hr;exact(hL.v0 b h1).2.1 h2
 refine⟨rfl,λx hx=>?_⟩;obtain⟨loc,wr,sy⟩:=e;cases loc with
 |cell a=>
  obtain⟨rfl,h⟩:=he;have RE:(MemAct.access ⟨.cell a,wr,false⟩).touch?=some x:=hx;simp only[MemAct.touch?,Option.some.injEq]at RE;subst RE;rcases h with h|⟨h,h2⟩
  .exact .inr ⟨(key (.cell a) (.inl h)).1,λk _ _=>(key (.cell a) (.inl h)).2 k,λ_ k _ _=>TQ (.cell a) h k⟩
  .have Yo:wr=false:=h2;exact .inr ⟨(key (.cell a) (.inr h)).1,λk _ _=>(key (.cell a) (.inr h)).2 k,λhw=>by rw[Yo]at hw;cases hw⟩
 |obj r=>
  obtain⟨rfl,h⟩:=he;have RE:(MemAct.ofEvent ⟨.obj r,wr,false⟩).touch?=some x:=hx;simp only[MemAct.ofEvent,MemAct.touch?,Option.some.injEq]at RE;subst RE;exact .inr ⟨(key (.obj r) (.inl h)).1,λk _ _=>(key (.obj r) (.inl h)).2 k,λ_ k _ _=>TQ (.obj r) h k⟩
 |mark mm=>
  have hm:gw mm=true:=he;cases mm with
  |extern f=>cases hx
  |noRoom=>cases hx
  |_=>simp[gw]at hm
 |output=>exact he.elim
 |goroutines=>exact he.elim
end

section
variable{X:aA}{S:Nat->Prop}{gs:Array Goroutine}{t u:Trace}{D:Nat->WD}{Nd:Nat->ep}{d0:Nat}{q:Nat->Nat}
theorem aV.at(X:aA)(i:Nat)(V:Nat->Prop)(w:World)(d:Nat):aV X i V w (w.at d):=⟨dw.at _ w d,id,id,λ_ _=>rfl⟩
theorem aY.at(X:aA)(V:Nat->Prop)(w:World)(d:Nat):aY X V w (w.at d):=⟨dw.at _ w d,id⟩
theorem iC.at(h:iC X S m j gs w t D Nd V0 d0 q)(d:Nat):iC X S m j gs (w.at d) t D Nd V0 d0 q:=
 {size:=h.size
  old:=h.old
  wk:=λi hi=>let ⟨g,hg,hs⟩:=h.wk i hi;⟨g,hg,pF hs (aV.at X i _ w d) (@Go.ConcN.RW.at dh _ _ _ _ _ _ w d)⟩
  lies:=h.lies.grow (Nat.le_refl _)
  tabRO:=h.tabRO
  ct:=h.ct
  norel:=h.norel
  deaf0:=h.deaf0
  deafW:=h.deafW
  rel:=h.rel
  has:=h.has
  list:=h.list
  seen:=h.seen
  over:=h.over
  known:=h.known
  atom:=h.atom}
theorem sN(hu:∀op∈u,op.act.touch?=none)(h:∀(i g:Nat),t.g? i=some g->g≠0->g<=m->t.counts i->∃k,t.g? k=some 0/\HappensBefore t i k):
 ∀(i g:Nat),(t++u).g? i=some g->g≠0->g<=m->(t++u).counts i->∃k,(t++u).g? k=some 0/\HappensBefore (t++u) i k:=by
 intro i g hg h0 hm hc;rcases Nat.lt_or_ge i t.size with QK|hge
 .obtain⟨n,h1,h2⟩:=h i g (by rw[←g?_old (u:=u) QK];exact hg) h0 hm ((counts_old QK).1 hc);have hn:n<t.size:=by
   unfold Trace.g? at h1;obtain⟨z,hz,_⟩:=Option.map_eq_some_iff.1 h1;exact lt_size_of_getElem? hz
  exact⟨n,by rw[g?_old hn];exact h1,hb_app u h2⟩
 .exfalso;obtain⟨x,hx,_⟩:=hc;obtain⟨op,QH,hox⟩:=touch_of hx;rcases getElem?_append_cases QH with⟨h1,_⟩|⟨_,h1⟩
  .omega
  .rw[hu op h1]at hox;cases hox
theorem rm{Sh:Loc->Prop}(hu:∀op∈u,op.act.touch?=none)(h:∀(i:Nat) (a:Touch) (g:Nat),touchAt t i=some a->t.g? i=some g->g<=m->a.loc.isMemory=true->Knows t 0 i\/(Sh a.loc/\a.kind=.atomic)):
 ∀(i:Nat) (a:Touch) (g:Nat),touchAt (t++u) i=some a->(t++u).g? i=some g->g<=m->a.loc.isMemory=true->Knows (t++u) 0 i\/(Sh a.loc/\a.kind=.atomic):=by
 intro i a g ha hg hm RY;obtain⟨x,hx,TP⟩:=touch_of ha;rcases getElem?_append_cases hx with⟨h1,RE⟩|⟨_,h1⟩
 .exact(h i a g (by rw[touchAt_of RE];exact TP) (by rw[←g?_old (u:=u) h1];exact hg) hm RY).imp (·.app u) id
 .rw[hu x h1]at TP;cases TP
theorem yd{e:Event}(h:e.mute=true)(a:Addr):e.loc≠ .mark (.release a):=by
 obtain⟨loc,wr,sy⟩:=e;intro e1;cases e1;simp[Event.mute]at h
theorem iC.oldStep(h:iC X S m j gs w t D Nd V0 d0 q){k:Nat}(h0:0<i)(hi:i<=m){g:Goroutine}(hm:∀e∈es,e.mute=true)(hq:QuitsD X.P k (deafBehind (Deaf t i) es) g'):
 iC X S m j ((gs.map (woken X.P g g' w)).setIfInBounds i g') w (t++MemOp.ofEvents i g.frame.fn g.frame.place es) D Nd V0 d0 (upd q i k):=by
 have QK:i<gs.size:=by rw[h.size];omega
 have R_:∀op∈MemOp.ofEvents i g.frame.fn g.frame.place es,op.act.touch?=none:=λop QH=>by
  obtain⟨e,he,rfl⟩:=Go.Conc.mem_ofEvents QH;exact touch_mute (hm e he)
 refine
  {size:=by simp[h.size]
   old:=λk' RQ hk=>?_
   wk:=λk' hk=>?_
   lies:=h.lies
   tabRO:=h.tabRO
   ct:=h.ct.appW h.lies.apart (k:=i) h0 o_ λop QH=>⟨bA op QH,λx hx=>by rw[R_ op QH]at hx;cases hx⟩
   norel:=h.norel.app (norel_of λe he=>yd (hm e he) _)
   deaf0:=by rw[Deaf_other t o_ _ bA];exact h.deaf0
   deafW:=λk' hk=>by rw[Deaf_other t o_ _ bA];exact h.deafW k' hk
   rel:=λk' hk hs=>?_
   has:=h.has
   list:=h.list
   seen:=λop QH=>?_
   over:=sN R_ h.over
   known:=rm R_ h.known
   atom:=kN (λop QH=>.inr λx hx _=>by rw[R_ op QH]at hx;cases hx) h.atom}
 .by_cases e:k'=i
  .subst e;refine⟨g',mY _ _ QK,?_⟩;rw[upd_same,Deaf_own];exact hq
  .obtain⟨x,hx,V5⟩:=h.old k' RQ hk;refine⟨x,by rw[fe _ _ o_,hx,Option.map_some,woken_quitsD V5],?_⟩;rw[Deaf_other t o_ _ bA,upd_ne q _ e];exact V5
 .obtain⟨x,hx,hs⟩:=h.wk k' hk;exact⟨x,by rw[fe _ _ o_,hx,Option.map_some,mf hs],hs⟩
 .obtain⟨r,hr⟩:=h.rel k' hk hs;exact⟨r,hr.appOther bA o_⟩
 .rcases Array.mem_append.1 QH with QH|QH
  .exact h.seen op QH
  .obtain⟨e,he,rfl⟩:=Go.Conc.mem_ofEvents QH;exact low_mute (hm e he) _
theorem J6{Sh:Loc->Prop}{Own Wb Rd:Nat->Loc->Prop}(h:CT Sh Own Rd t n)(ho:∀k,k<=n->∀l,Wb k l↔Own k l):CT Sh Wb Rd t n:=
 {quiet:=h.quiet
  own:=λk k1 kj l hl=>h.own k k1 kj l ((ho k kj l).1 hl)
  rd:=h.rd
  free:=λl hs hl=>h.free l hs λk k1 kj=>⟨λx=>(hl k k1 kj).1 ((ho k kj l).2 x),(hl k k1 kj).2⟩
  mine:=λl hs hl=>h.mine l hs λk k1 kj x=>hl k k1 kj ((ho k kj l).2 x)
  nr:=h.nr
  gs:=h.gs}
theorem iB.spawn(h:iB X S j Nd V0 w){Vc:Nat->Prop}(hv:∀b,Vc b->V0 b)(g:Goroutine):iB X S (j+1) (upd Nd j ⟨Vc,g,w⟩) (λb=>V0 b/\¬Vc b) w:=by
 refine⟨h.mine,h.wgc,h.wgl,h.ro,h.sh,λb hb=>h.v0 b hb.1,λi hi b hb=>?_,λi i' hi R5 b hb Sk=>?_⟩
 .by_cases e:i=j
  .subst e;rw[upd_same]at hb;have S9:=h.v0 b (hv b hb);exact⟨S9.1,S9.2.1,S9.2.2.1,S9.2.2.2.1,S9.2.2.2.2,λx=>x.2 hb⟩
  .rw[upd_ne Nd _ e]at hb;obtain⟨h1,h2,h3,h4,h5,h6⟩:=h.priv i o_ b hb;exact⟨h1,h2,h3,h4,h5,λx=>h6 x.1⟩
 .by_cases e:i=j<;>by_cases e':i'=j
  .omega
  .subst e;rw[upd_same]at hb;rw[upd_ne Nd _ e']at Sk;exact absurd (hv b hb) (h.priv i' o_ b Sk).2.2.2.2.2
  .subst e';rw[upd_same]at Sk;rw[upd_ne Nd _ e]at hb;exact absurd (hv b Sk) (h.priv i o_ b hb).2.2.2.2.2
  .rw[upd_ne Nd _ e]at hb;rw[upd_ne Nd _ e']at Sk;exact h.two i i' o_ o_ b hb Sk
theorem iC.spawn(h:iC X S m j gs w t D Nd V0 0 q){a' child:Goroutine}{x y:MemOp}{Vc:Nat->Prop}(hx:x.g=0/\x.act=.go (1+m+j))(hy:y.g=1+m+j/\y.act=.start)(hv:∀b,Vc b->V0 b)(hc:aE X j ⟨Vc,child,w⟩):
 iC X S m (j+1) ((gs.setIfInBounds 0 a').push child) w (t++#[x,y]) (upd D j ⟨7,0,0⟩) (upd Nd j ⟨Vc,child,w⟩) (λb=>V0 b/\¬Vc b) 0 q:=by
 have hL:=h.lies.spawn hv child;have RY:∀op∈#[x,y],op=x\/op=y:=λop QH=>by simpa using QH
 have R_:∀op∈#[x,y],op.act.touch?=none:=λop QH=>by
  rcases RY op QH with rfl|rfl
  .rw[hx.2];rfl
  .rw[hy.2];rfl
 have Uj:∀op∈#[x,y],op.act≠ .mark .disable/\op.act≠ .mark .enable:=λop QH=>by
  rcases RY op QH with rfl|rfl
  .rw[hx.2];exact⟨s_,s_⟩
  .rw[hy.2];exact⟨s_,s_⟩
 have VN:∀k,0<k->k<1+m+j->((gs.setIfInBounds 0 a').push child)[k]?=gs[k]?:=λk hk V9=>by
  rw[Array.getElem?_push,if_neg (by simp[h.size];omega),Array.getElem?_setIfInBounds_ne o_]
 have hct:CT (gF S X.Wg) (mL X m (j+1) (upd Nd j ⟨Vc,child,w⟩)) (tW X m) t (m+j):=J6 h.ct λk hk l=>by
  constructor
  .rintro⟨i,hi,rfl,ho⟩;have hij:i≠j:=(by omega);rw[upd_ne Nd _ hij]at ho;exact⟨i,by omega,rfl,ho⟩
  .rintro⟨i,hi,rfl,ho⟩;refine⟨i,by omega,rfl,?_⟩;rw[upd_ne Nd _ o_];exact ho
 refine
  {size:=by simp[h.size];omega
   old:=λk RQ hk=>?_
   wk:=λk hk=>?_
   lies:=hL
   tabRO:=h.tabRO
   ct:=hct.fork hL.apart (by rw[show m+j+1=1+m+j from by omega];exact hx) (by rw[show m+j+1=1+m+j from by omega];exact hy) h.deaf0
   norel:=h.norel.app λop QH=>?_
   deaf0:=by rw[Go.ConcN.Deaf_still t 0 _ Uj];exact h.deaf0
   deafW:=λk hk=>?_
   rel:=λk hk hs=>?_
   has:=λk hk hs=>?_
   list:=h.list
   seen:=λop QH=>?_
   over:=sN R_ h.over
   known:=rm R_ h.known
   atom:=kN (λop QH=>.inr λx hx _=>by rw[R_ op QH]at hx;cases hx) h.atom}
 .obtain⟨g,hg,hq⟩:=h.old k RQ hk;refine⟨g,by rw[VN k RQ o_];exact hg,?_⟩;rw[Go.ConcN.Deaf_still t k _ Uj];exact hq
 .by_cases e:k=j
  .subst e;refine⟨child,?_,.inl ⟨by rw[upd_same],by rw[upd_same],by rw[upd_same],by rw[upd_same],by rw[upd_same];exact hc,by rw[upd_same];exact aV.refl _ _ _ _⟩⟩;rw[Array.getElem?_push,if_pos (by simp[h.size])]
  .obtain⟨g,hg,hs⟩:=h.wk k o_;refine⟨g,by rw[VN _ o_ o_];exact hg,?_⟩;rw[upd_ne D _ e,upd_ne Nd _ e];exact hs
 .rcases RY op QH with rfl|rfl
  .rw[hx.2];simp
  .rw[hy.2];simp
 .rw[Go.ConcN.Deaf_still t _ _ Uj];by_cases e:k=j
  .subst e;rw[upd_same];exact Go.ConcN.Deaf_absent λi op hi e1=>by have:=h.ct.gs i op hi;omega
  .rw[upd_ne D _ e];exact h.deafW k o_
 .by_cases e:k=j
  .subst e;rw[upd_same]at hs;exact absurd hs s_
  .rw[upd_ne D _ e]at hs;obtain⟨r,hr⟩:=h.rel k o_ hs;refine⟨r,hr.appNot λop QH=>?_⟩;rcases RY op QH with rfl|rfl
   .rw[hx.1];omega
   .rw[hy.1];omega
 .by_cases e:k=j
  .subst e;rw[upd_same]at hs;exact absurd hs s_
  .rw[upd_ne D _ e]at hs;exact h.has k o_ hs
 .rcases Array.mem_append.1 QH with QH|QH
  .exact h.seen op QH
  .rcases RY op QH with rfl|rfl
   .rw[hx.2];trivial
   .rw[hy.2];trivial
end

end Go.Proofs.YtkmoglhgkcnalaaGreatDoor
namespace Go.Proofs.YtkmoglhgkcnalaaGreatDoor
open Go Go.Conc
open Go.ConcN (sumTo upd sumTo_upd upd_ne upd_same CT Apart PermW WgLive RelBy WD ShN OkW Ok0 norel_of CTag phi Vc Ssum Fsum)
open Go.ConcR (KK WgAt stA smA rd wr mk DC0 again_blocked)
section
variable(X:aA)(Fin Anch:(Nat->Prop)->Goroutine->World->Prop)(N:Nat)
def CP:CTag->Nat->Nat->Nat->Nat->(Nat->Prop)->Goroutine->World->Prop
 | .sp r s,u,j,f,d,V,g,w=>u=0/\r<N/\j=N-(r+1)/\
   ((s=5/\d=0/\bq X (xf X j (ji X Anch N r)) f V g w)\/(s=4/\d=1/\bq X (PC X j (ji X Anch N r)) f V g w)\/(s=3/\d=1/\bq X (Pz X j (ji X Anch N r)) f V g w)\/
     (s=2/\d=1/\bq X (Gf X j (ji X Anch N r)) f V g w)\/(s=1/\d=0/\bq X (NO X j (ji X Anch N r)) f V g w))
 | .kd,u,j,f,d,V,g,w=>u=0/\j=N/\d=0/\bq X (Gg X Anch) f V g w
 | .anch,u,j,f,d,V,g,w=>u=0/\j=N/\d=1/\bq X Anch f V g w
 | .w1,u,j,f,d,V,g,w=>u=0/\j=N/\d=1/\bq X (pE X Fin Anch) f V g w
 | .w2 vs,u,j,f,d,V,g,w=>u=0/\j=N/\d=1/\bq X (Py X Fin Anch vs) f V g w
 | .w3,u,j,f,d,V,g,w=>j=N/\d=1/\((u=0/\∃k,f=k+1/\bq X (NL X Fin) k V g w)\/(u=1/\bq X (Pw X Fin) f V g w))
 | .blk,u,j,f,d,V,g,w=>u=0/\j=N/\d=1/\f=0/\∃g0:Goroutine,g={g0 with status:=.blocked}/\∀QI,aY X V w QI->NL X Fin V g0 QI
 | .w4,u,j,f,d,V,g,w=>u=0/\j=N/\d=1/\bq X (Px X Fin) f V g w
 | .ke,u,j,f,d,V,g,w=>u=0/\j=N/\d=1/\bq X (NN X Fin) f V g w
 | .acq,u,j,f,d,V,g,w=>u=0/\j=N/\d=0/\bq X (Kj X Fin) f V g w
 | .ret,u,j,f,d,V,g,w=>u=0/\j=N/\d=0/\bq X Fin f V g w
end
section
variable{X:aA}{Fin Anch:(Nat->Prop)->Goroutine->World->Prop}{tag:CTag}{u f d:Nat}{g:Goroutine}
theorem CP.rely(h:CP X Fin Anch N tag u j f d V g w)(hr:aY X V w w'):CP X Fin Anch N tag u j f d V g w':=by
 cases tag with
 |sp r s=>
  obtain⟨h0,h1,h2,h⟩:=h;refine⟨h0,h1,h2,?_⟩;rcases h with⟨a,b,c⟩|⟨a,b,c⟩|⟨a,b,c⟩|⟨a,b,c⟩|⟨a,b,c⟩
  .exact .inl ⟨a,b,c.rely hr⟩
  .exact .inr (.inl ⟨a,b,c.rely hr⟩)
  .exact .inr (.inr (.inl ⟨a,b,c.rely hr⟩))
  .exact .inr (.inr (.inr (.inl ⟨a,b,c.rely hr⟩)))
  .exact .inr (.inr (.inr (.inr ⟨a,b,c.rely hr⟩)))
 |w3=>
  obtain⟨h0,h1,h⟩:=h;rcases h with⟨a,k,b,c⟩|⟨a,c⟩
  .exact⟨h0,h1,.inl ⟨a,k,b,c.rely hr⟩⟩
  .exact⟨h0,h1,.inr ⟨a,c.rely hr⟩⟩
 |blk=>
  obtain⟨h0,h1,h2,h3,g0,h4,h5⟩:=h;exact⟨h0,h1,h2,h3,g0,h4,λQI QJ=>h5 QI (hr.trans QJ)⟩
 |_=>
  obtain⟨h0,h1,h2,h⟩:=h;exact⟨h0,h1,h2,h.rely hr⟩
theorem CP.status(hF:∀V g w,Fin V g w->g.status=.running)(hA:∀V g w,Anch V g w->g.status=.running)(h:CP X Fin Anch N tag u j f d V g w):(g.status=.running/\tag≠ .blk)\/(g.status=.blocked/\tag=.blk):=by
 cases tag with
 |sp r s=>
  obtain⟨h0,h1,h2,h⟩:=h;rcases h with⟨a,b,c⟩|⟨a,b,c⟩|⟨a,b,c⟩|⟨a,b,c⟩|⟨a,b,c⟩<;>exact .inl ⟨c.running λ_ _ _ x=>x.1,by simp⟩
 |w3=>
  obtain⟨h0,h1,h⟩:=h;rcases h with⟨a,k,b,c⟩|⟨a,c⟩<;>exact .inl ⟨c.running λ_ _ _ x=>x.1,by simp⟩
 |blk=>
  obtain⟨h0,h1,h2,h3,g0,rfl,h5⟩:=h;exact .inr ⟨rfl,rfl⟩
 |anch=>exact .inl ⟨h.2.2.2.running hA,by simp⟩
 |ret=>exact .inl ⟨h.2.2.2.running hF,by simp⟩
 |_=>exact .inl ⟨h.2.2.2.running λ_ _ _ x=>x.1,by simp⟩
theorem CP.wokenBy(hF:∀V g w,Fin V g w->g.status=.running)(hA:∀V g w,Anch V g w->g.status=.running){a:Goroutine}(h:CP X Fin Anch N tag u j f d V a w)(hr:aY X V w w')(g g':Goroutine):
 ∃tag' f',CP X Fin Anch N tag' u j f' d V (woken X.P g g' w' a) w'/\f'<=f+1/\(tag'=tag\/(tag=.blk/\tag'= .w3))/\(mayWake X.P g=true->g'.status=.running->tag'≠ .blk):=by
 have h':=h.rely hr;unfold Go.Conc.woken;split
 .rcases h'.status hF hA with⟨hs,QQ⟩|⟨_,rfl⟩
  .exact⟨tag,f,by rw[again_running _ (.inl hs)];exact h',by omega,.inl rfl,λ_ _=>QQ⟩
  .obtain⟨h0,h1,h2,h3,g0,rfl,h5⟩:=h';have h6:=h5 w' (aY.refl X V w');refine⟨.w3,0+1,?_,by omega,.inr ⟨rfl,rfl⟩,λ_ _=>by simp⟩;rw[again_blocked h6.1 h6.2.1];exact⟨h1,h2,.inl ⟨h0,0,rfl,bq.stop h5⟩⟩
 .rename_i hc;exact⟨tag,f,h',by omega,.inl rfl,λh1 h2=>absurd (by simp[h1,h2]) hc⟩
theorem CP.bound(h:CP X Fin Anch N tag u j f d V g w):j+Go.ConcN.pend tag<=N:=by
 cases tag with
 |sp r s=>
  obtain⟨_,h1,h2,_⟩:=h;simp only[Go.ConcN.pend];split<;>omega
 |w3=>
  have:=h.1;simp only[Go.ConcN.pend];omega
 |_=>
  have:=h.2.1;simp only[Go.ConcN.pend];omega
end
def uQ(X:aA)(m j:Nat)(t:Trace):Prop:=
 ∃k,t.act? k=some (.mark (.acquire (stA X.Wg)))/\t.g? k=some 0/\t.heard k/\∀i,i<j->∃r,RelBy (stA X.Wg) t (1+m+i) r/\r<k
theorem uQ.app{X:aA}{t u:Trace}(h:uQ X m j t)(hu:∀i r,i<j->RelBy (stA X.Wg) t (1+m+i) r->RelBy (stA X.Wg) (t++u) (1+m+i) r):uQ X m j (t++u):=by
 obtain⟨k,h1,h2,h3,h4⟩:=h;have hk:=lt_of_act? h1;exact⟨k,by rw[act?_old hk];exact h1,by rw[g?_old hk];exact h2,(heard_old hk).2 h3,λi hi=>let ⟨r,hr,hrk⟩:=h4 i hi;⟨r,hu i r hi hr,hrk⟩⟩
structure dz (X:aA) (Fin Anch:(Nat->Prop)->Goroutine->World->Prop) (N:Nat) (S:Nat->Prop) (m j:Nat) (gs:Array Goroutine) (w:World) (t:Trace) (D:Nat->WD) (Nd:Nat->ep) (V0:Nat->Prop) (d0:Nat) (q:Nat->Nat) (tag:CTag) (u f0:Nat) (a:Goroutine) (st sm:Int):Prop where
 at0:gs[0]?=some a
 sit:CP X Fin Anch N tag u j f0 d0 V0 a w
 crew:iC X S m j gs w t D Nd V0 d0 q
 wg:WgAt X.ty X.Wg w st sm
 mode:Go.ConcN.Mode j D tag st sm
 acq:tag=.ret->uQ X m j t
 acc:∀i,i<j->Acc (jj X i) (Nd i)
def gm(N j:Nat)(D:Nat->WD)(tag:CTag)(u:Nat):Nat:=2*phi N (Vc j D) tag+u+2*Ssum j D
def kx(m j:Nat)(D:Nat->WD)(f0:Nat)(q:Nat->Nat):Nat:=f0+2*Fsum j D+2*sumTo (m+1) q
def Kd(X:aA)(j' j r1' r1:Nat)(Nd' Nd:Nat->ep)(r3' r3:Nat):Prop:=
 r1'<r1\/(r1'=r1/\j'=j/\((∃i x,i<j/\jj X i x (Nd i)/\Nd'=upd Nd i x)\/(Nd'=Nd/\r3'<r3)))
def NJ(X:aA)(Fin Anch:(Nat->Prop)->Goroutine->World->Prop)(N:Nat)(S:Nat->Prop)(m:Nat)(QS:Value->World->Prop)(j:Nat)(Nd:Nat->ep)(r1 r3:Nat):Prop:=
 ∀j' TD w' S8 t' D' Nd' V0' d0' q' tag' u' f' a' st' SU,dz X Fin Anch N S m j' TD w' t' D' Nd' V0' d0' q' tag' u' f' a' st' SU->Kd X j' j (gm N j' D' tag' u') r1 Nd' Nd (kx m j' D' f' q') r3->dB X.P QS (crowd TD w' S8) t'
section
variable{X:aA}{Fin Anch:(Nat->Prop)->Goroutine->World->Prop}{S:Nat->Prop}{gs:Array Goroutine}{t:Trace}{D D':Nat->WD}{Nd Nd':Nat->ep}{d0:Nat}{q q':Nat->Nat}{tag:CTag}{u f0:Nat}{a:Goroutine}{st sm SU:Int}
theorem dz.at(h:dz X Fin Anch N S m j gs w t D Nd V0 d0 q tag u f0 a st sm)(d:Nat):dz X Fin Anch N S m j gs (w.at d) t D Nd V0 d0 q tag u f0 a st sm:=
 ⟨h.at0,h.sit.rely (aY.at X V0 w d),h.crew.at d,h.wg,h.mode,h.acq,h.acc⟩
theorem dz.other(hF:∀V g w,Fin V g w->g.status=.running)(hA:∀V g w,Anch V g w->g.status=.running)(h:dz X Fin Anch N S m j gs w t D Nd V0 d0 q tag u f0 a st sm){k:Nat}(hk:0<k){g:Goroutine}{ops:Trace}
 (hcrew:iC X S m j ((gs.map (woken X.P g g' w')).setIfInBounds k g') w' (t++ops) D' Nd' V0 d0 q') (hrm:aY X V0 w w') (Rm:WgAt X.ty X.Wg w' st' SU)
 (QO:∀tag',(tag'=tag\/(tag=.blk/\tag'= .w3))->(mayWake X.P g=true->g'.status=.running->tag'≠ .blk)->Go.ConcN.Mode j D' tag' st' SU)
 (Yh:tag=.ret->uQ X m j (t++ops)) (W2:∀i,i<j->Acc (jj X i) (Nd' i)):
 ∃tag' f' a',dz X Fin Anch N S m j ((gs.map (woken X.P g g' w')).setIfInBounds k g') w' (t++ops) D' Nd' V0 d0 q' tag' u f' a' st' SU/\f'<=f0+1/\∀v,phi N v tag'=phi N v tag:=by
 obtain⟨tag',f',hs,hf,ht,hw⟩:=h.sit.wokenBy hF hA hrm g g';refine⟨tag',f',woken X.P g g' w' a,⟨by rw[fe _ _ o_,h.at0];rfl,hs,hcrew,Rm,QO tag' ht hw,λe=>?_,W2⟩,hf,λv=>Go.ConcN.phi_retag N v ht⟩;rcases ht with rfl|⟨_,rfl⟩
 .exact Yh e
 .cases e
end

end Go.Proofs.YtkmoglhgkcnalaaGreatDoor
namespace Go.Proofs.YtkmoglhgkcnalaaGreatDoor
open Go Go.Conc
open Go.ConcN (sumTo upd sumTo_upd upd_ne upd_same CT Apart PermW WgLive RelBy WD ShN OkW Ok0 norel_of CTag phi Vc Ssum Fsum cnt pend isOpen isW3 OpenSt AllQuit Vc_upd Vc_le others_uncounted le_sumTo bk_cell)
open Go.ConcR (KK WgAt stA smA rd wr mk DC0 Bk bk_of_mute ofEvent_loc_mark)
section
variable{X:aA}{Fin Anch:(Nat->Prop)->Goroutine->World->Prop}{S:Nat->Prop}{gs:Array Goroutine}{t:Trace}{D D':Nat->WD}{Nd Nd':Nat->ep}{d0:Nat}{q q':Nat->Nat}{tag:CTag}{u f0:Nat}{a:Goroutine}{st sm SU:Int}{sl:Option (Nat×Nat)}
theorem kO(h:Aside b w w'):iV (· =b) w w':=⟨λk _ hk=>h.block k hk,by rw[h.size];exact Nat.le_refl _,h.os,h.output,h.tape⟩
theorem Nw{Own Rd:Nat->Loc->Prop}{k:Nat}{e:Event}(h:Bk X.Wg e)(fn:FuncId)(pos:String):OkW (gF S X.Wg) Own Rd k {g:=k,fn,pos,act:=.ofEvent e}:=by
 refine⟨rfl,λx hx=>?_⟩;rcases h with h1|h1|⟨a,wr,rfl,ha⟩
 .simp only[ofEvent_loc_mark h1]at hx;cases hx
 .simp only[ofEvent_loc_mark h1]at hx;cases hx
 .have RE:(MemAct.access ⟨.cell a,wr,true⟩).touch?=some x:=hx;simp only[MemAct.touch?,Option.some.injEq]at RE;subst RE;exact .inl ⟨.inl (.inr ha),by simp,by simp⟩
theorem Nx{Own Rd:Nat->Loc->Prop}{k:Nat}{e:Event}(h:Bk X.Wg e)(fn:FuncId)(pos:String):Ok0 (gF S X.Wg) Own Rd k {g:=0,fn,pos,act:=.ofEvent e}:=by
 refine⟨rfl,λx hx=>?_⟩;rcases h with h1|h1|⟨a,wr,rfl,ha⟩
 .simp only[ofEvent_loc_mark h1]at hx;cases hx
 .simp only[ofEvent_loc_mark h1]at hx;cases hx
 .have RE:(MemAct.access ⟨.cell a,wr,true⟩).touch?=some x:=hx;simp only[MemAct.touch?,Option.some.injEq]at RE;subst RE;exact .inl ⟨.inl (.inr ha),by simp⟩
theorem Pe{e:Event}(h:Bk X.Wg e){x:Touch}(hx:(MemAct.ofEvent e).touch?=some x):gF S X.Wg x.loc:=by
 rcases h with h1|h1|⟨a,wr,rfl,ha⟩
 .rw[ofEvent_loc_mark h1]at hx;cases hx
 .rw[ofEvent_loc_mark h1]at hx;cases hx
 .have RE:(MemAct.access ⟨.cell a,wr,true⟩).touch?=some x:=hx;simp only[MemAct.touch?,Option.some.injEq]at RE;subst RE;exact .inl (.inr ha)
theorem FH(hB:X.Wg<B){e:Event}(h:Bk X.Wg e):(MemAct.ofEvent e).low B:=by
 rcases h with h1|h1|⟨a,wr,rfl,ha⟩
 .rw[ofEvent_loc_mark h1];trivial
 .rw[ofEvent_loc_mark h1];trivial
 .show a.block<B;omega
theorem wO{e:Event}(h:Bk X.Wg e)(b:Addr):e.loc≠ .mark (.release b):=by
 rcases h with h1|h1|⟨a,wr,rfl,ha⟩
 .rw[h1];simp
 .rw[h1];simp
 .simp
theorem dz.worker(hF:∀V g w,Fin V g w->g.status=.running)(hA:∀V g w,Anch V g w->g.status=.running)(hN:N<2147483648)(h:dz X Fin Anch N S m j gs w t D Nd V0 d0 q tag u f0 a st sm)
 (TH:NJ X Fin Anch N S m QS j Nd (gm N j D tag u) (kx m j D f0 q)) {i:Nat} (hi:i<j) {g:Goroutine} (hg:gs[1+m+i]?=some g) (Q_:g.status=.running):
 ∃m₁ ops,runT X.P (crowd gs w sl) (1+m+i)=(.next m₁,ops)/\dB X.P QS m₁ (t++ops):=by
 letI:Go.ConcR.Payload:=dh
 have hb:=h.sit.bound;have hVj:=Vc_le j D;have hib:(1+m+i==0)=false:=by simp
 have QO:=h.mode;have Rm:=h.wg;have fin:∀{g':Goroutine} {w':World} {es:Array Event} {D':Nat->WD} {Nd':Nat->ep} {st' SU:Int},stepG X.P false g w=.go g' w' es->
  iC X S m j ((gs.map (woken X.P g g' w')).setIfInBounds (1+m+i) g') w' (t++MemOp.ofEvents (1+m+i) g.frame.fn g.frame.place es) D' Nd' V0 d0 q->aY X V0 w w'->WgAt X.ty X.Wg w' st' SU->
  (∀tag',(tag'=tag\/(tag=.blk/\tag'= .w3))->(mayWake X.P g=true->g'.status=.running->tag'≠ .blk)->Go.ConcN.Mode j D' tag' st' SU)->(tag=.ret->uQ X m j (t++MemOp.ofEvents (1+m+i) g.frame.fn g.frame.place es))->
  (∀i,i<j->Acc (jj X i) (Nd' i))->(∀f',f'<=f0+1->Kd X j j (gm N j D' tag u) (gm N j D tag u) Nd' Nd (kx m j D' f' q) (kx m j D f0 q))->∃m₁ ops,runT X.P (crowd gs w sl) (1+m+i)=(.next m₁,ops)/\dB X.P QS m₁ (t++ops):=by
  intro g' w' es D' Nd' st' SU hgo hc hrm hw hm hq W2 Ri;obtain⟨tag',f',a',hS,hf,U3⟩:=h.other hF hA (k:=1+m+i) o_ hc hrm hw hm hq W2;refine⟨_,_,runT_crowd_go (P:=X.P) (sl:=sl) (i:=1+m+i) hg (by rw[hib];exact hgo),TH _ _ _ _ _ _ _ _ _ _ _ _ _ _ _ _ hS ?_⟩;have:=Ri f' hf;unfold gm at this⊢;rw[U3];exact this
 obtain⟨g₁,Xg,hs⟩:=h.crew.wk i hi;obtain rfl:g=g₁:=by rw[hg]at Xg;exact Option.some.inj Xg
 rcases hs with⟨h7,hfu,hde,hgn,hW,hR⟩|⟨h6,hs⟩
 .
  have nr:tag≠ .ret:=QO.not_ret hi o_;by_cases Yj:tz X i (Nd i)
  .obtain⟨_,U1⟩:=Yj;obtain⟨Y5,g',hgo,k,hk⟩:=U1 w hR;rw[←hgn]at hgo;have hdk:Deaf t (1+m+i)=0:=(by rw[h.crew.deafW i hi,hde]);have e1:=sumTo_upd D (⟨6,k,0⟩:WD) cnt hi;have e2:=sumTo_upd D (⟨6,k,0⟩:WD) WD.stage hi;have c1:cnt (D i)=1:=(by simp[cnt,h7]);have c2:cnt (⟨6,k,0⟩:WD)=1:=(by simp[cnt]);refine fin (D':=upd D i ⟨6,k,0⟩) (Nd':=Nd) hgo ?_ (aY.refl X V0 w) Rm (λ_ ht _=>(QO.counted hi o_ (.inl rfl) _ _).retag ht) (λe=>absurd e nr) h.acc λf' _=>.inl ?_
   .refine h.crew.stepW hi (vi _ w) ⟨_,_,Rm⟩ o_ (Go.ConcN.WSit.k1 hk) (λe he=>?_) (λe he x hx=>by simp only[List.mem_toArray,List.mem_singleton]at he;subst he;cases hx) (by rw[hde];rfl) ⟨t.size,RelBy.new hdk _ _⟩ Y5;simp only[List.mem_toArray,List.mem_singleton]at he;subst he;refine⟨λfn pos=>⟨rfl,λx hx=>by cases hx⟩,?_,by simp[Go.ConcR.mk]⟩;show X.Wg<_;exact h.crew.lies.wgl.1
   .have:=Go.ConcN.phi_mono N (v':=Vc j (upd D i ⟨6,k,0⟩)) (v:=Vc j D) (by simp only[Vc]at*;omega) tag;simp only[gm,Vc,Ssum]at*;omega
  .obtain⟨_,Rj⟩:=hW.cases.resolve_left Yj;obtain⟨g',w',es,hgo,V2,hn⟩:=Rj w hR;have hgo':=hgo;rw[←hgn]at hgo';obtain⟨hrm,_,_,_,_,_,US⟩:=qe h.crew.lies h.crew.list hi V2;have hbel:jj X i ((Nd i).next w g' w') (Nd i):=⟨Yj,w,g',w',es,hR,hgo,rfl⟩;refine fin (D':=D) (Nd':=upd Nd i ((Nd i).next w g' w')) hgo' (h.crew.work hi hg h7 ⟨hfu,hde⟩ V2 hn) hrm (Rm.of_block US) (λ_ ht _=>QO.retag ht) (λe=>absurd e nr) (λk hk=>?_) λf' _=>.inr ⟨rfl,rfl,.inl ⟨i,_,hi,hbel,rfl⟩⟩;by_cases e:k=i
   .subst e;rw[upd_same];exact(h.acc k hk).inv hbel
   .rw[upd_ne Nd _ e];exact h.acc k hk
 .generalize QZ:(D i).stage=s at hs h6;generalize hfu:(D i).fuel=fu at hs;generalize hde:(D i).deaf=dd at hs;have hdk:Deaf t (1+m+i)=dd:=by rw[h.crew.deafW i hi,hde]
  have nr:s≠1->tag≠ .ret:=λh=>QO.not_ret hi o_;have Xu:∀{g':Goroutine} {w':World} {es:Array Event} {s' m' TI:Nat} {st' SU:Int},stepG X.P false g w=.go g' w' es->Aside X.Wg w w'->WgAt X.ty X.Wg w' st' SU->(∀e∈es,Bk X.Wg e)->
   (∀jx e,es[jx]?=some e->(MemAct.ofEvent e).touch?=none\/0<deafBehind dd (es.extract 0 jx))->wZ X s' m' TI g' w'->s'<=6->deafBehind dd es=TI->
   (∀tag',(tag'=tag\/(tag=.blk/\tag'= .w3))->(mayWake X.P g=true->g'.status=.running->tag'≠ .blk)->Go.ConcN.Mode j (upd D i ⟨s',m',TI⟩) tag' st' SU)->(tag=.ret->uQ X m j (t++MemOp.ofEvents (1+m+i) g.frame.fn g.frame.place es))->
   ((s'<s/\cnt ⟨s',m',TI⟩<=cnt (D i))\/(s'=s/\m'+1=fu))->∃m₁ ops,runT X.P (crowd gs w sl) (1+m+i)=(.next m₁,ops)/\dB X.P QS m₁ (t++ops):=by
   intro g' w' es s' m' TI st' SU hgo Yk TX Vd hd SI Ws hdd Uo W1 QK;have e1:=sumTo_upd D (⟨s',m',TI⟩:WD) cnt hi;have e2:=sumTo_upd D (⟨s',m',TI⟩:WD) WD.stage hi;have e3:=sumTo_upd D (⟨s',m',TI⟩:WD) WD.fuel hi;obtain⟨r,hr⟩:=h.crew.rel i hi o_;refine fin (D':=upd D i ⟨s',m',TI⟩) (Nd':=Nd) hgo (h.crew.stepW hi (kO Yk) ⟨_,_,TX⟩ Ws SI (λe he=>⟨λfn pos=>Nw (Vd e he) fn pos,FH h.crew.lies.wgl.1 (Vd e he),wO (Vd e he) _⟩) (λe he x hx=>Pe (Vd e he) hx) (by rw[hde];exact hdd) ⟨r,hr.book hdk _ _ Vd hd⟩ (h.crew.has i hi o_))
    (qg h.crew.lies h.crew.list (kO Yk) ⟨_,_,TX⟩).1 TX Uo W1 h.acc λf' hf=>?_
   rcases QK with⟨h1,h2⟩|⟨h1,h2⟩
   .refine .inl ?_;have:=Go.ConcN.phi_mono N (v':=Vc j (upd D i ⟨s',m',TI⟩)) (v:=Vc j D) (by simp only[Vc]at*;omega) tag;simp only[gm,Vc,Ssum]at*;omega
   .have ec:cnt (⟨s',m',TI⟩:WD)=cnt (D i):=(by simp only[cnt,h1,QZ]);have ev:Vc j (upd D i ⟨s',m',TI⟩)=Vc j D:=(by simp only[Vc]at*;omega);refine .inr ⟨?_,rfl,.inr ⟨rfl,?_⟩⟩
    .simp only[gm,ev,Ssum]at*;omega
    .simp only[kx,Fsum]at*;omega
  have book:∀{g':Goroutine} {w':World} {es:Array Event} {s' m' TI:Nat} {st' SU:Int},stepG X.P false g w=.go g' w' es->Aside X.Wg w w'->WgAt X.ty X.Wg w' st' SU->(∀e∈es,Bk X.Wg e)->
   (∀jx e,es[jx]?=some e->(MemAct.ofEvent e).touch?=none\/0<deafBehind dd (es.extract 0 jx))->wZ X s' m' TI g' w'->s'<=6->deafBehind dd es=TI->
   Go.ConcN.Mode j (upd D i ⟨s',m',TI⟩) tag st' SU->(tag=.ret->uQ X m j (t++MemOp.ofEvents (1+m+i) g.frame.fn g.frame.place es))->
   ((s'<s/\cnt ⟨s',m',TI⟩<=cnt (D i))\/(s'=s/\m'+1=fu))->∃m₁ ops,runT X.P (crowd gs w sl) (1+m+i)=(.next m₁,ops)/\dB X.P QS m₁ (t++ops):=
   λhgo Yk TX Vd hd SI Ws hdd Uo W1 QK=>Xu hgo Yk TX Vd hd SI Ws hdd (λ_ ht _=>Uo.retag ht) W1 QK
  have idle:∀{g':Goroutine} {m':Nat},stepG X.P false g w=.go g' w #[]->wZ X s m' dd g' w->m'+1=fu->s≠1->∃m₁ ops,runT X.P (crowd gs w sl) (1+m+i)=(.next m₁,ops)/\dB X.P QS m₁ (t++ops):=by
   intro g' m' hgo SI hm h1;exact book hgo (.refl X.Wg w) Rm s_ s_ SI h6 rfl (by have:=QO.same (i:=i) m' dd;rwa [QZ]at this) (λe=>absurd e (nr h1)) (.inr ⟨rfl,hm⟩)
  cases hs with
  |r0 _=>exact absurd h6 d_
  |k1 h=>
   rcases Goes.cases h with QP|⟨m',rfl,Rj⟩
   .obtain⟨_,g',hgo,m₂,hk⟩:=QP w (@Go.ConcN.RW.refl dh _ _ _ _ _ _ w);exact book hgo (.refl X.Wg w) Rm (by intro e he;simp at he;subst he;exact .inl rfl) (by intro jx e he;exact .inl (by have:=Array.mem_of_getElem? he;simp at this;subst this;rfl)) (.d1 hk) o_ rfl
     (QO.counted hi o_ (.inr rfl) _ _) (λe=>absurd e (nr o_)) (.inl ⟨by omega,by simp[cnt,QZ]⟩)
   .obtain⟨g',w',es,hgo,⟨rfl,rfl⟩,UP⟩:=Rj w (@Go.ConcN.RW.refl dh _ _ _ _ _ _ w);exact idle hgo (.k1 UP) rfl o_
  |d1 h=>
   rcases Goes.cases h with QP|⟨m',rfl,Rj⟩
   .obtain⟨_,Rv⟩:=QP w (@Go.ConcN.RW.refl dh _ _ _ _ _ _ w);have R9:cnt (D i)=1:=(by simp[cnt,QZ]);have hV1:1<=Vc j D:=(by have:=le_sumTo (f:=λx=>cnt (D x)) hi;simp only[Vc];omega);have bk2:∀e∈#[rd (stA X.Wg),wr (stA X.Wg)],Bk X.Wg e:=(by intro e he;simp at he;rcases he with rfl|rfl<;>exact bk_cell _ _ rfl);have df2:∀jx e,(#[rd (stA X.Wg),wr (stA X.Wg)]:Array Event)[jx]?=some e->(MemAct.ofEvent e).touch?=none\/0<deafBehind 1 ((#[rd (stA X.Wg),wr (stA X.Wg)]:Array Event).extract 0 jx):=by
     intro jx e he
     match jx,he with
     |0,_=>exact .inr (by simp[deafBehind])
     |1,_=>exact .inr (by simp[deafBehind,rd])
     |jx+2,he=>simp at he
    have VK:∀q,cnt (⟨1,q,1⟩:WD)=0:=λ_=>rfl;have opq:∀q,OpenSt j D->OpenSt j (upd D i ⟨1,q,1⟩):=λq h a ha=>by
     by_cases e:a=i
     .subst e;rw[upd_same];simp
     .rw[upd_ne D _ e];exact h a ha
    cases QO with
    |opn h1 h2 h3=>
     obtain⟨v,hv⟩:∃v,Vc j D+pend tag=v+1:=⟨Vc j D+pend tag- 1,by omega⟩;rw[hv]at Rm;have WC:WgAt X.ty X.Wg w (((v:Nat)+1)*KK+((0:Nat):Int)) 0:=(by simpa using Rm);obtain⟨g',hgo,_,hq⟩:=Rv v 0 o_ o_ WC;obtain⟨q,hq⟩:=hq o_;have S9:Vc j (upd D i ⟨1,q,1⟩)+pend tag=v:=(by have:=Vc_upd D (⟨1,q,1⟩:WD) hi;have:=VK q;omega);refine book hgo (aside_setCell w (stA X.Wg) _) (Rm.setSt _) bk2 df2 (.quit hq) o_ rfl ?_ (λe=>absurd e (nr o_)) (.inl ⟨by omega,by simp[cnt]⟩);have e:((v:Nat):Int)*KK+((0:Nat):Int)=((Vc j (upd D i ⟨1,q,1⟩)+pend tag:Nat):Int)*KK:=(by rw[S9];simp);rw[e];exact .opn h1 (opq q h2) (λvs ev=>by have:=h3 vs ev;omega)
    |reg h1 h2 h3=>
     obtain⟨v,hv⟩:∃v,Vc j D=v+1:=⟨Vc j D- 1,by omega⟩;rw[hv]at Rm;have hp:pend tag=0:=by cases tag<;>first|rfl|exact h1.elim
     have WC:WgAt X.ty X.Wg w (((v:Nat)+1)*KK+((1:Nat):Int)) 0:=(by simpa using Rm);obtain⟨g',hgo,hl,hq⟩:=Rv v 1 o_ o_ WC;by_cases hv0:v=0
     .subst hv0;obtain⟨m₂,hk⟩:=hl ⟨rfl,rfl⟩;refine book hgo (aside_setCell w (stA X.Wg) _) (Rm.setSt _) bk2 df2 (.d2 hk) o_ rfl ?_ (λe=>absurd e (nr o_)) (.inl ⟨by omega,by simp[cnt]⟩);have Ul:∀a,a<j->a≠i->(D a).stage=1:=λa ha e=>by
         have c0:=others_uncounted hi hv R9 a ha e;have:=h2 a ha;simp only[cnt]at c0;split at c0<;>omega
      have:=Go.ConcN.Mode.last (j:=j) (D:=upd D i ⟨4,m₂,1⟩) (tag:=tag) i h1 hi (by rw[upd_same];simp) (λa ha e=>by rw[upd_ne D _ e];exact Ul a ha e);rw[upd_same]at this;simpa using this
     .obtain⟨q,hq⟩:=hq o_;have S9:Vc j (upd D i ⟨1,q,1⟩)=v:=(by have:=Vc_upd D (⟨1,q,1⟩:WD) hi;have:=VK q;omega);refine book hgo (aside_setCell w (stA X.Wg) _) (Rm.setSt _) bk2 df2 (.quit hq) o_ rfl ?_ (λe=>absurd e (nr o_)) (.inl ⟨by omega,by simp[cnt]⟩);have e:((v:Nat):Int)*KK+((1:Nat):Int)=((Vc j (upd D i ⟨1,q,1⟩):Nat):Int)*KK+1:=(by rw[S9];simp);rw[e];exact .reg h1 (opq q h2) o_
    |last L _ h2 h3 h4=>
     by_cases e:i=L
     .subst e;omega
     .have:=h4 i hi e;omega
    |sema h2=>have:=h2 i hi;omega
    |fin _ h2=>have:=h2 i hi;omega
   .obtain⟨g',w',es,hgo,⟨rfl,rfl⟩,UP⟩:=Rj w (@Go.ConcN.RW.refl dh _ _ _ _ _ _ w);exact idle hgo (.d1 UP) rfl o_
  |d2 h=>
   rcases Goes.cases h with QP|⟨m',rfl,Rj⟩
   .obtain⟨_,hx⟩:=QP w (@Go.ConcN.RW.refl dh _ _ _ _ _ _ w);obtain⟨hW3,Ul,rfl,rfl⟩:=QO.isLast hi o_;simp only[QZ]at Rm;obtain⟨g',hgo,m₂,hk⟩:=hx (by simpa using Rm);refine book hgo (.refl X.Wg w) Rm (by intro e he;simp at he;subst he;exact bk_cell _ _ rfl) (by intro jx e he;match jx,he with|0,_=>exact .inr (by simp[deafBehind])|jx+1,he=>simp at he) (.d3 hk) o_ rfl ?_ (λe=>absurd e (nr o_)) (.inl ⟨by omega,by simp[cnt]⟩);have:=Go.ConcN.Mode.last (j:=j) (D:=upd D i ⟨3,m₂,1⟩) (tag:=tag) i hW3 hi (by rw[upd_same];simp) (λa ha e=>by rw[upd_ne D _ e];exact Ul a ha e);rw[upd_same]at this;simpa using this
   .obtain⟨g',w',es,hgo,⟨rfl,rfl⟩,UP⟩:=Rj w (@Go.ConcN.RW.refl dh _ _ _ _ _ _ w);exact idle hgo (.d2 UP) rfl o_
  |d3 h=>
   rcases Goes.cases h with QP|⟨m',rfl,Rj⟩
   .obtain⟨_,hx⟩:=QP w (@Go.ConcN.RW.refl dh _ _ _ _ _ _ w);obtain⟨hW3,Ul,rfl,rfl⟩:=QO.isLast hi o_;simp only[QZ]at Rm;obtain⟨g',hgo,m₂,hk⟩:=hx (by simpa using Rm);refine book hgo (aside_setCell w (stA X.Wg) _) (Rm.setSt 0) (by intro e he;simp at he;subst he;exact bk_cell _ _ rfl) (by intro jx e he;match jx,he with|0,_=>exact .inr (by simp[deafBehind])|jx+1,he=>simp at he) (.d4 hk) o_ rfl ?_ (λe=>absurd e (nr o_)) (.inl ⟨by omega,by simp[cnt]⟩);have:=Go.ConcN.Mode.last (j:=j) (D:=upd D i ⟨2,m₂,1⟩) (tag:=tag) i hW3 hi (by rw[upd_same];simp) (λa ha e=>by rw[upd_ne D _ e];exact Ul a ha e);rw[upd_same]at this;simpa using this
   .obtain⟨g',w',es,hgo,⟨rfl,rfl⟩,UP⟩:=Rj w (@Go.ConcN.RW.refl dh _ _ _ _ _ _ w);exact idle hgo (.d3 UP) rfl o_
  |d4 h=>
   rcases Goes.cases h with QP|⟨m',rfl,Rj⟩
   .obtain⟨_,XW,hx⟩:=QP w (@Go.ConcN.RW.refl dh _ _ _ _ _ _ w);obtain⟨hW3,Ul,rfl,rfl⟩:=QO.isLast hi o_;simp only[QZ]at Rm;obtain⟨g',hgo,q,hq⟩:=hx (by simpa using Rm);have U0:g'.status=.running:=by
     cases q with
     |zero=>exact absurd hq.2 d_
     |succ q=>exact hq.elim (λx=>absurd x.2 d_) (λx=>x.1)
    refine Xu hgo (aside_setCell w (smA X.Wg) _) (Rm.setSm 1) (es:=semEvents (smA X.Wg)) ?_ ?_ (.quit hq) o_ (by simp[deafBehind,semEvents]) ?_ (λe=>absurd e (nr o_)) (.inl ⟨by omega,by simp[cnt]⟩)
    .exact Go.ConcN.bk_sem
    .intro jx e he
     match jx,he with
     |0,he=>simp[semEvents]at he;subst he;exact .inl rfl
     |1,_=>exact .inr (by simp[deafBehind,semEvents])
     |2,_=>exact .inr (by simp[deafBehind,semEvents])
     |3,he=>simp[semEvents]at he;subst he;exact .inl rfl
     |jx+4,he=>simp[semEvents]at he
    .intro tag' ht hw;have hnb:=hw XW U0;have e3:tag'= .w3:=by
      rcases ht with rfl|⟨_,rfl⟩
      .cases tag'<;>first|rfl|exact hW3.elim|exact absurd rfl hnb
      .rfl
     subst e3;simp only[if_true];exact .sema λa ha=>by
      by_cases e:a=i
      .subst e;rw[upd_same]
      .rw[upd_ne D _ e];exact Ul a ha e
   .obtain⟨g',w',es,hgo,⟨rfl,rfl⟩,UP⟩:=Rj w (@Go.ConcN.RW.refl dh _ _ _ _ _ _ w);exact idle hgo (.d4 UP) rfl o_
  |quit hqq=>
   cases fu with
   |zero=>rw[hqq.1]at Q_;cases Q_
   |succ k=>
    rcases hqq with⟨hf,_⟩|⟨_,g',es,Xc,Rj,hq⟩
    .rw[hf]at Q_;cases Q_
    .have Vd:∀e∈es,Bk X.Wg e:=λe he=>bk_of_mute (Xc e he);have hno:∀jx e,es[jx]?=some e->(MemAct.ofEvent e).touch?=none\/0<deafBehind dd (es.extract 0 jx):=λjx e he=>.inl (touch_mute (Xc e (Array.mem_of_getElem? he)));refine book (Rj w) (.refl X.Wg w) Rm Vd hno (.quit hq) o_ rfl (by have:=QO.same (i:=i) k (deafBehind dd es);rwa [QZ]at this) (λe=>(h.acq e).app λi' r R5 hr=>?_) (.inr ⟨rfl,rfl⟩);by_cases e':i'=i
     .subst e';exact hr.book hdk _ _ Vd hno
     .exact hr.appOther bA o_
end

end Go.Proofs.YtkmoglhgkcnalaaGreatDoor
namespace Go.Proofs.YtkmoglhgkcnalaaGreatDoor
open Go Go.Conc
open Go.ConcN (sumTo upd sumTo_upd upd_ne upd_same sumTo_upd_out CT Apart PermW WgLive RelBy WD ShN OkW Ok0 norel_of CTag phi Vc Ssum Fsum cnt pend isOpen isW3 OpenSt AllQuit Vc_upd Vc_le bk_cell bk_dis bk_en bk_rd bk_rw bk_sem allQuit_of)
open Go.ConcR (KK WgAt stA smA rd wr DC0 Bk bk_of_mute ofEvent_loc_mark)
section
variable{X:aA}{Fin Anch:(Nat->Prop)->Goroutine->World->Prop}{S:Nat->Prop}{gs:Array Goroutine}{t:Trace}{D D':Nat->WD}{Nd Nd':Nat->ep}{d0:Nat}{q q':Nat->Nat}{tag:CTag}{u f0:Nat}{a:Goroutine}{st sm SU:Int}{sl:Option (Nat×Nat)}
theorem bq.cases{Next:(Nat->Prop)->Goroutine->World->Prop}{f:Nat}{g:Goroutine}(h:bq X Next f V g w):
 (∀QI,aY X V w QI->Next V g QI)\/∃f',f=f'+1/\∃g' w' es,stepG X.P true g w=.go g' w' es/\bo V X.RO w w' es/\bq X Next f' (grown V w w') g' w':=by
 cases f with
 |zero=>exact .inl h
 |succ f=>exact h.imp id λ⟨_,h⟩=>⟨f,rfl,h w (aY.refl X V w)⟩
def Ny(X:aA)(e:Event):Prop:=Bk X.Wg e\/e=Go.ConcR.mk (.acquire (stA X.Wg))\/e=Go.ConcR.mk (.read (smA X.Wg))\/e=Go.ConcR.mk (.write (smA X.Wg))
theorem Gl{Own Rd:Nat->Loc->Prop}{k:Nat}{e:Event}(h:Ny X e)(fn:FuncId)(pos:String):Ok0 (gF S X.Wg) Own Rd k {g:=0,fn,pos,act:=.ofEvent e}:=by
 rcases h with h|rfl|rfl|rfl
 .exact Nx h fn pos
 .exact⟨rfl,λx hx=>by cases hx⟩
 .refine⟨rfl,λx hx=>?_⟩;have RE:(MemAct.mark (.read (smA X.Wg))).touch?=some x:=hx;simp only[MemAct.touch?,Option.some.injEq]at RE;subst RE;exact .inl ⟨.inl (.inr rfl),by simp⟩
 .refine⟨rfl,λx hx=>?_⟩;have RE:(MemAct.mark (.write (smA X.Wg))).touch?=some x:=hx;simp only[MemAct.touch?,Option.some.injEq]at RE;subst RE;exact .inl ⟨.inl (.inr rfl),by simp⟩
theorem Kn(hB:X.Wg<B){e:Event}(h:Ny X e):(MemAct.ofEvent e).low B:=by
 rcases h with h|rfl|rfl|rfl
 .exact FH hB h
 .exact hB
 .exact hB
 .exact hB
theorem D6{e:Event}(h:Ny X e)(b:Addr):e.loc≠ .mark (.release b):=by
 rcases h with h|rfl|rfl|rfl
 .exact wO h b
 .simp[Go.ConcR.mk]
 .simp[Go.ConcR.mk]
 .simp[Go.ConcR.mk]
theorem xp{e:Event}(h:Ny X e):∀x∈#[e],Ny X x:=λx hx=>by
 simp only[List.mem_toArray,List.mem_singleton]at hx;subst hx;exact h
theorem dz.starter(Ym:∀V g w,Anch V g w->∃k,bq X (pE X Fin Anch) k V g w)(hN:N<2147483648)(h:dz X Fin Anch N S m j gs w t D Nd V0 d0 q tag u f0 a st sm)
 (TH:NJ X Fin Anch N S m QS j Nd (gm N j D tag u) (kx m j D f0 q)) (Q_:a.status=.running):
 (∃m₁ ops,runT X.P (crowd gs w sl) 0=(.next m₁,ops)/\dB X.P QS m₁ (t++ops))\/(tag=.ret/\∀QI,aY X V0 w QI->Fin V0 a QI):=by
 have hb:=h.sit.bound;have hVj:=Vc_le j D;have QO:=h.mode;have Rm:=h.wg;have Tw:=h.sit;have XZ:0<gs.size:=by rw[h.crew.size];omega
 have own:∀{a':Goroutine} {w':World} {es:Array Event} {tag':CTag} {u' f':Nat},stepG X.P true a w=.go a' w' es->bo V0 X.RO w w' es->CP X Fin Anch N tag' u' j f' d0 (grown V0 w w') a' w'->Go.ConcN.Mode j D tag' st sm->(tag'= .ret->tag=.ret)->
  (2*phi N (Vc j D) tag'+u'<2*phi N (Vc j D) tag+u\/(2*phi N (Vc j D) tag'+u'=2*phi N (Vc j D) tag+u/\f'<f0))->∃m₁ ops,runT X.P (crowd gs w sl) 0=(.next m₁,ops)/\dB X.P QS m₁ (t++ops):=by
  intro a' w' es tag' u' f' hgo RI SI hm' hret QK;obtain⟨hsees,SB,US⟩:=Ee h.crew.lies h.crew.list RI;have Y9:deafBehind d0 es=d0:=deafBehind_still (λe he=>⟨(iG (RI.ev e he)).1,(iG (RI.ev e he)).2.1⟩) d0;have hc:=h.crew.step0 (a:=a) (a':=a') (es:=es) hsees SB λe he=>⟨λfn pos=>I9 SB (RI.ev e he) fn pos,t_ (λb hb=>(SB.v0 b hb).1) (λb hb=>(SB.ro b hb).1) (RI.ev e he),(iG (RI.ev e he)).2.2 _⟩;rw[Y9]at hc;refine⟨_,_,runT_crowd_go (P:=X.P) (sl:=sl) (i:=0) h.at0 (show stepG X.P (0==0) a w=_ from hgo),TH _ _ _ _ _ _ _ _ _ _ _ _ _ _ _ _ ⟨mY _ _ XZ,SI,hc,Rm.of_block US,hm',λe=>(h.acq (hret e)).app λi r _ hr=>hr.appOther bA o_,h.acc⟩ ?_⟩;rcases QK with QK|⟨h1,h2⟩
  .exact .inl (by simp only[gm];omega)
  .exact .inr ⟨by simp only[gm];omega,rfl,.inr ⟨rfl,by simp only[kx];omega⟩⟩
 have book:∀{a':Goroutine} {w':World} {es:Array Event} {tag':CTag} {u' f':Nat} {st' SU:Int},stepG X.P true a w=.go a' w' es->Aside X.Wg w w'->WgAt X.ty X.Wg w' st' SU->(∀e∈es,Ny X e)->CP X Fin Anch N tag' u' j f' (deafBehind d0 es) V0 a' w'->Go.ConcN.Mode j D tag' st' SU->
  (tag'= .ret->uQ X m j (t++MemOp.ofEvents 0 a.frame.fn a.frame.place es))->
  (2*phi N (Vc j D) tag'+u'<2*phi N (Vc j D) tag+u\/(2*phi N (Vc j D) tag'+u'=2*phi N (Vc j D) tag+u/\f'<f0))->∃m₁ ops,runT X.P (crowd gs w sl) 0=(.next m₁,ops)/\dB X.P QS m₁ (t++ops):=by
  intro a' w' es tag' u' f' st' SU hgo Yk TX Sv SI hm' Yh QK;obtain⟨_,h1,h2,h3,h4⟩:=qg h.crew.lies h.crew.list (kO Yk) ⟨_,_,TX⟩;have QY:w.heap.size<=w'.heap.size:=by rw[Yk.size];exact Nat.le_refl _
  have SB:=h.crew.lies.grow QY;have hc:=h.crew.step0 (a:=a) (a':=a') (es:=es) ⟨h1,h2,h3,h4,QY⟩ SB λe he=>⟨λfn pos=>Gl (Sv e he) fn pos,Kn SB.wgl.1 (Sv e he),D6 (Sv e he) _⟩;refine⟨_,_,runT_crowd_go (P:=X.P) (sl:=sl) (i:=0) h.at0 (show stepG X.P (0==0) a w=_ from hgo),TH _ _ _ _ _ _ _ _ _ _ _ _ _ _ _ _ ⟨mY _ _ XZ,SI,hc,TX,hm',Yh,h.acc⟩ ?_⟩;rcases QK with QK|⟨h1,h2⟩
  .exact .inl (by simp only[gm];omega)
  .exact .inr ⟨by simp only[gm];omega,rfl,.inr ⟨rfl,by simp only[kx];omega⟩⟩
 have U_:∀{es:Array Event},(∀e∈es,Bk X.Wg e)->∀e∈es,Ny X e:=λh e he=>.inl (h e he);have load:∀f1,bq X (pE X Fin Anch) f1 V0 a w->j=N->d0=1->u=0->Go.ConcN.Mode j D .w1 st sm->(tag=.anch\/(tag=.w1/\f1=f0))->∃m₁ ops,runT X.P (crowd gs w sl) 0=(.next m₁,ops)/\dB X.P QS m₁ (t++ops):=by
  intro f1 hi hj hd hu hm hle;subst hd hu;have U3:2*phi N (Vc j D) .w1+0<2*phi N (Vc j D) tag+0\/(2*phi N (Vc j D) .w1+0=2*phi N (Vc j D) tag+0/\f1=f0):=by
   rcases hle with rfl|⟨rfl,rfl⟩
   .exact .inl (by simp only[phi];omega)
   .exact .inr ⟨rfl,rfl⟩
  rcases hi.cases with QP|⟨f',rfl,a',w',es,hgo,RI,R5⟩
  .obtain⟨_,Rv⟩:=QP w (aY.refl X V0 w);obtain⟨ho,rfl,rfl,_⟩:=hm.open_inv trivial;obtain⟨a',hgo,h0,QQ⟩:=Rv (Vc j D) o_ (by simpa[pend]using Rm);by_cases hv:Vc j D=0
   .obtain⟨k,hk⟩:=h0 hv;refine book hgo (.refl X.Wg w) Rm (U_ bk_rd) (tag':=.ke) (u':=0) (f':=k) ⟨rfl,hj,rfl,hk⟩ ?_ s_ (.inl (by simp only[phi]at U3⊢;omega));have e:((Vc j D+pend .w1:Nat):Int)*KK=0:=(by rw[hv];simp[pend]);rw[e];exact .fin trivial (allQuit_of ho hv)
   .obtain⟨k,hk⟩:=QQ hv;exact book hgo (.refl X.Wg w) Rm (U_ bk_rd) (tag':=.w2 (Vc j D)) (u':=0) (f':=k) ⟨rfl,hj,rfl,hk⟩ (hm.reopen trivial trivial rfl (λvs e=>by cases e;omega)) s_ (.inl (by simp only[phi]at U3⊢;omega))
  .exact own hgo RI (tag':=.w1) (u':=0) (f':=f') ⟨rfl,hj,rfl,R5⟩ hm s_ (by rcases U3 with U3|⟨h1,h2⟩<;>omega)
 cases tag with
 |sp r s=>
  obtain⟨rfl,hr,hj,hs⟩:=Tw;rcases hs with⟨rfl,rfl,hi⟩|⟨rfl,rfl,hi⟩|⟨rfl,rfl,hi⟩|⟨rfl,rfl,hi⟩|⟨rfl,rfl,hi⟩
  .rcases hi.cases with QP|⟨f',rfl,a',w',es,hgo,RI,R5⟩
   .obtain⟨_,a',hgo,k,hk⟩:=QP w (aY.refl X V0 w);exact .inl (book hgo (.refl X.Wg w) Rm (U_ bk_dis) (tag':=.sp r 4) (u':=0) (f':=k) ⟨rfl,hr,hj,.inr (.inl ⟨rfl,rfl,hk⟩)⟩ (QO.reopen trivial trivial rfl s_) s_ (.inl (by simp only[phi];omega)))
   .exact .inl (own hgo RI (tag':=.sp r 5) (u':=0) (f':=f') ⟨rfl,hr,hj,.inl ⟨rfl,rfl,R5⟩⟩ QO s_ (.inr ⟨rfl,by omega⟩))
  .rcases hi.cases with QP|⟨f',rfl,a',w',es,hgo,RI,R5⟩
   .obtain⟨_,Rv⟩:=QP w (aY.refl X V0 w);obtain⟨ho,rfl,rfl,_⟩:=QO.open_inv trivial;obtain⟨a',hgo,h0,QQ⟩:=Rv (Vc j D) o_ (by simpa[pend]using Rm);have e3:(((Vc j D:Nat):Int)+1)*KK=((Vc j D+pend (.sp r 3):Nat):Int)*KK:=(by simp[pend]);have e2:(((Vc j D:Nat):Int)+1)*KK=((Vc j D+pend (.sp r 2):Nat):Int)*KK:=(by simp[pend]);by_cases hv:Vc j D=0
    .obtain⟨k,hk⟩:=h0 hv;refine .inl (book hgo (aside_setCell w (stA X.Wg) _) (Rm.setSt _) (U_ bk_rw) (tag':=.sp r 3) (u':=0) (f':=k) ⟨rfl,hr,hj,.inr (.inr (.inl ⟨rfl,rfl,hk⟩))⟩ ?_ s_ (.inl (by simp only[phi];omega)));rw[e3];exact .opn trivial ho s_
    .obtain⟨k,hk⟩:=QQ hv;refine .inl (book hgo (aside_setCell w (stA X.Wg) _) (Rm.setSt _) (U_ bk_rw) (tag':=.sp r 2) (u':=0) (f':=k) ⟨rfl,hr,hj,.inr (.inr (.inr (.inl ⟨rfl,rfl,hk⟩)))⟩ ?_ s_ (.inl (by simp only[phi];omega)));rw[e2];exact .opn trivial ho s_
   .exact .inl (own hgo RI (tag':=.sp r 4) (u':=0) (f':=f') ⟨rfl,hr,hj,.inr (.inl ⟨rfl,rfl,R5⟩)⟩ QO s_ (.inr ⟨rfl,by omega⟩))
  .rcases hi.cases with QP|⟨f',rfl,a',w',es,hgo,RI,R5⟩
   .obtain⟨_,a',hgo,k,hk⟩:=QP w (aY.refl X V0 w);exact .inl (book hgo (.refl X.Wg w) Rm (xp (.inr (.inr (.inl rfl)))) (tag':=.sp r 2) (u':=0) (f':=k) ⟨rfl,hr,hj,.inr (.inr (.inr (.inl ⟨rfl,rfl,hk⟩)))⟩ (QO.reopen trivial trivial rfl s_) s_ (.inl (by simp only[phi];omega)))
   .exact .inl (own hgo RI (tag':=.sp r 3) (u':=0) (f':=f') ⟨rfl,hr,hj,.inr (.inr (.inl ⟨rfl,rfl,R5⟩))⟩ QO s_ (.inr ⟨rfl,by omega⟩))
  .rcases hi.cases with QP|⟨f',rfl,a',w',es,hgo,RI,R5⟩
   .obtain⟨_,a',hgo,k,hk⟩:=QP w (aY.refl X V0 w);exact .inl (book hgo (.refl X.Wg w) Rm (U_ bk_en) (tag':=.sp r 1) (u':=0) (f':=k) ⟨rfl,hr,hj,.inr (.inr (.inr (.inr ⟨rfl,rfl,hk⟩)))⟩ (QO.reopen trivial trivial rfl s_) s_ (.inl (by simp only[phi];omega)))
   .exact .inl (own hgo RI (tag':=.sp r 2) (u':=0) (f':=f') ⟨rfl,hr,hj,.inr (.inr (.inr (.inl ⟨rfl,rfl,R5⟩)))⟩ QO s_ (.inr ⟨rfl,by omega⟩))
  .rcases hi.cases with QP|⟨f',rfl,a',w',es,hgo,RI,R5⟩
   .obtain⟨_,a',child,Vch,WG,Sd,hwk,Rl⟩:=QP w (aY.refl X V0 w);obtain⟨ho,rfl,rfl,_⟩:=QO.open_inv trivial;have X1:=hwk h.crew.list λb hb=>(h.crew.lies.v0 b (Sd b hb)).1;have U0:=runT_crowd_spawn (P:=X.P) (sl:=sl) (i:=0) h.at0 (show stepG X.P (0==0) a w=_ from WG);rw[h.crew.size]at U0;have hc:=h.crew.spawn (a':=a') (x:={g:=0,fn:=a.frame.fn,pos:=a.frame.place,act:=.go (1+m+j)}) (y:={g:=1+m+j,fn:=child.frame.fn,pos:=a.frame.place,act:=.start}) ⟨rfl,rfl⟩ ⟨rfl,rfl⟩ Sd X1;have eV:Vc (j+1) (upd D j ⟨7,0,0⟩)=Vc j D+1:=by
     simp only[Vc,sumTo,upd_same];rw[sumTo_upd_out D _ cnt (Nat.le_refl _)];rfl
    have eS:Ssum (j+1) (upd D j ⟨7,0,0⟩)=Ssum j D+7:=by
     simp only[Ssum,sumTo,upd_same];rw[sumTo_upd_out D _ WD.stage (Nat.le_refl _)]
    have WJ:OpenSt (j+1) (upd D j ⟨7,0,0⟩):=λi hi=>by
     by_cases e:i=j
     .subst e;rw[upd_same];simp
     .rw[upd_ne D _ e];exact ho i o_
    have Xq:∀i,i<j+1->Acc (jj X i) (upd Nd j ⟨Vch,child,w⟩ i):=λi hi=>by
     by_cases e:i=j
     .subst e;rw[upd_same];exact X1.acc
     .rw[upd_ne Nd _ e];exact h.acc i o_
    have ha':((gs.setIfInBounds 0 a').push child)[0]?=some a':=by
     rw[Array.getElem?_push,if_neg (by simp only[Array.size_setIfInBounds];omega)];simp[XZ]
    have est:∀tag',pend tag'=0->((Vc j D+pend (.sp r 1):Nat):Int)*KK=((Vc (j+1) (upd D j ⟨7,0,0⟩)+pend tag':Nat):Int)*KK:=λtag' hp=>by rw[eV,hp];simp[pend]
    cases r with
    |zero=>
     obtain⟨k,hk⟩:=Rl;refine .inl ⟨_,_,U0,TH (j+1) _ _ _ _ _ _ _ _ _ .kd 0 k a' _ _ ⟨ha',⟨rfl,by omega,rfl,hk⟩,hc,Rm,?_,by simp,Xq⟩ (.inl ?_)⟩
     .rw[est .kd rfl];exact .opn trivial WJ s_
     .simp only[gm,phi,eS];omega
    |succ r'=>
     obtain⟨k,hk⟩:=Rl;have ej:N-(r'+1)=j+1:=(by omega);rw[ej]at hk;refine .inl ⟨_,_,U0,TH (j+1) _ _ _ _ _ _ _ _ _ (.sp r' 5) 0 k a' _ _ ⟨ha',⟨rfl,by omega,by omega,.inl ⟨rfl,rfl,hk⟩⟩,hc,Rm,?_,by simp,Xq⟩ (.inl ?_)⟩
     .rw[est (.sp r' 5) rfl];exact .opn trivial WJ s_
     .simp only[gm,phi,eS];omega
   .exact .inl (own hgo RI (tag':=.sp r 1) (u':=0) (f':=f') ⟨rfl,hr,hj,.inr (.inr (.inr (.inr ⟨rfl,rfl,R5⟩)))⟩ QO s_ (.inr ⟨rfl,by omega⟩))
 |kd=>
  obtain⟨rfl,hj,rfl,hi⟩:=Tw;rcases hi.cases with QP|⟨f',rfl,a',w',es,hgo,RI,R5⟩
  .obtain⟨_,a',hgo,k,hk⟩:=QP w (aY.refl X V0 w);exact .inl (book hgo (.refl X.Wg w) Rm (U_ bk_dis) (tag':=.anch) (u':=0) (f':=k) ⟨rfl,hj,rfl,hk⟩ (QO.reopen trivial trivial rfl s_) s_ (.inl (by simp only[phi];omega)))
  .exact .inl (own hgo RI (tag':=.kd) (u':=0) (f':=f') ⟨rfl,hj,rfl,R5⟩ QO s_ (.inr ⟨rfl,by omega⟩))
 |anch=>
  obtain⟨rfl,hj,rfl,hi⟩:=Tw;rcases hi.cases with QP|⟨f',rfl,a',w',es,hgo,RI,R5⟩
  .obtain⟨k,hk⟩:=Ym _ _ _ (QP w (aY.refl X V0 w));exact .inl (load k hk hj rfl rfl (QO.reopen trivial trivial rfl s_) (.inl rfl))
  .exact .inl (own hgo RI (tag':=.anch) (u':=0) (f':=f') ⟨rfl,hj,rfl,R5⟩ QO s_ (.inr ⟨rfl,by omega⟩))
 |w1=>
  obtain⟨rfl,hj,rfl,hi⟩:=Tw;exact .inl (load f0 hi hj rfl rfl QO (.inr ⟨rfl,rfl⟩))
 |w2 vs=>
  obtain⟨rfl,hj,rfl,hi⟩:=Tw;rcases hi.cases with QP|⟨f',rfl,a',w',es,hgo,RI,R5⟩
  .obtain⟨_,Rv⟩:=QP w (aY.refl X V0 w);obtain⟨ho,rfl,rfl,hw2⟩:=QO.open_inv trivial;obtain⟨hle,h1⟩:=hw2 vs rfl;obtain⟨hhit,hmiss⟩:=Rv (Vc j D) o_ (by simpa[pend]using Rm);by_cases e:Vc j D=vs
   .obtain⟨a',hgo,k,hk⟩:=hhit e;exact .inl (book hgo (aside_setCell w (stA X.Wg) _) (Rm.setSt _) (U_ bk_rw) (tag':=.w3) (u':=1) (f':=k) ⟨hj,rfl,.inr ⟨rfl,hk⟩⟩ (.reg trivial ho o_) s_ (.inl (by simp only[phi];omega)))
   .obtain⟨a',hgo,k,hk⟩:=hmiss e;exact .inl (book hgo (.refl X.Wg w) Rm (U_ bk_rd) (tag':=.anch) (u':=0) (f':=k) ⟨rfl,hj,rfl,hk⟩ (QO.reopen trivial trivial rfl s_) s_ (.inl (by simp only[phi];omega)))
  .exact .inl (own hgo RI (tag':=.w2 vs) (u':=0) (f':=f') ⟨rfl,hj,rfl,R5⟩ QO s_ (.inr ⟨rfl,by omega⟩))
 |w3=>
  obtain⟨hj,rfl,hs⟩:=Tw;rcases hs with⟨rfl,k0,rfl,hi⟩|⟨rfl,hi⟩
  .rcases hi.cases with QP|⟨f',rfl,a',w',es,hgo,RI,R5⟩
   .obtain⟨_,hoff,US,TY⟩:=QP w (aY.refl X V0 w);cases QO with
    |opn h1 _ _=>exact h1.elim
    |reg h1 h2 h3=>exact .inl (book (US ⟨_,Rm⟩) (.refl X.Wg w) Rm s_ (tag':=.blk) (u':=0) (f':=0) ⟨rfl,hj,rfl,rfl,a,rfl,QP⟩ (.reg trivial h2 h3) s_ (.inr ⟨rfl,by omega⟩))
    |last L h1 h2 h3 h4=>exact .inl (book (US ⟨_,Rm⟩) (.refl X.Wg w) Rm s_ (tag':=.blk) (u':=0) (f':=0) ⟨rfl,hj,rfl,rfl,a,rfl,QP⟩ (.last L trivial h2 h3 h4) s_ (.inr ⟨rfl,by omega⟩))
    |sema h2=>
     obtain⟨a',hgo,k,hk⟩:=TY Rm;exact .inl (book hgo (aside_setCell w (smA X.Wg) _) (Rm.setSm 0) (U_ bk_sem) (tag':=.w4) (u':=0) (f':=k) ⟨rfl,hj,by simp[deafBehind,semEvents],hk⟩ (.fin trivial h2) s_ (.inl (by simp only[phi];omega)))
    |fin h1 _=>exact h1.elim
   .exact .inl (own hgo RI (tag':=.w3) (u':=0) (f':=f'+1) ⟨hj,rfl,.inl ⟨rfl,f',rfl,R5⟩⟩ QO s_ (.inr ⟨rfl,by omega⟩))
  .rcases hi.cases with QP|⟨f',rfl,a',w',es,hgo,RI,R5⟩
   .obtain⟨_,a',hgo,k,hk⟩:=QP w (aY.refl X V0 w);exact .inl (book hgo (.refl X.Wg w) Rm (xp (.inr (.inr (.inr rfl)))) (tag':=.w3) (u':=0) (f':=k+1) ⟨hj,rfl,.inl ⟨rfl,k,rfl,hk⟩⟩ QO s_ (.inl o_))
   .exact .inl (own hgo RI (tag':=.w3) (u':=1) (f':=f') ⟨hj,rfl,.inr ⟨rfl,R5⟩⟩ QO s_ (.inr ⟨rfl,by omega⟩))
 |blk=>
  obtain⟨_,_,_,_,g0,rfl,_⟩:=Tw;cases Q_
 |w4=>
  obtain⟨rfl,hj,rfl,hi⟩:=Tw;rcases hi.cases with QP|⟨f',rfl,a',w',es,hgo,RI,R5⟩
  .obtain⟨_,hx⟩:=QP w (aY.refl X V0 w);obtain⟨hq,rfl,rfl⟩:=QO.fin_inv trivial;obtain⟨a',hgo,k,hk⟩:=hx Rm;exact .inl (book hgo (.refl X.Wg w) Rm (U_ bk_rd) (tag':=.ke) (u':=0) (f':=k) ⟨rfl,hj,rfl,hk⟩ (.fin trivial hq) s_ (.inl (by simp only[phi];omega)))
  .exact .inl (own hgo RI (tag':=.w4) (u':=0) (f':=f') ⟨rfl,hj,rfl,R5⟩ QO s_ (.inr ⟨rfl,by omega⟩))
 |ke=>
  obtain⟨rfl,hj,rfl,hi⟩:=Tw;rcases hi.cases with QP|⟨f',rfl,a',w',es,hgo,RI,R5⟩
  .obtain⟨_,a',hgo,k,hk⟩:=QP w (aY.refl X V0 w);obtain⟨hq,rfl,rfl⟩:=QO.fin_inv trivial;exact .inl (book hgo (.refl X.Wg w) Rm (U_ bk_en) (tag':=.acq) (u':=0) (f':=k) ⟨rfl,hj,rfl,hk⟩ (.fin trivial hq) s_ (.inl (by simp only[phi];omega)))
  .exact .inl (own hgo RI (tag':=.ke) (u':=0) (f':=f') ⟨rfl,hj,rfl,R5⟩ QO s_ (.inr ⟨rfl,by omega⟩))
 |acq=>
  obtain⟨rfl,hj,rfl,hi⟩:=Tw;rcases hi.cases with QP|⟨f',rfl,a',w',es,hgo,RI,R5⟩
  .obtain⟨_,a',hgo,k,hk⟩:=QP w (aY.refl X V0 w);obtain⟨hq,rfl,rfl⟩:=QO.fin_inv trivial;refine .inl (book hgo (.refl X.Wg w) Rm (xp (.inr (.inl rfl))) (tag':=.ret) (u':=0) (f':=k) ⟨rfl,hj,rfl,hk⟩ (.fin trivial hq) (λ_=>?_) (.inl (by simp only[phi];omega)));have e1:MemOp.ofEvents 0 a.frame.fn a.frame.place #[Go.ConcR.mk (.acquire (stA X.Wg))]=#[{g:=0,fn:=a.frame.fn,pos:=a.frame.place,act:=.mark (.acquire (stA X.Wg))}]:=(by rw[ofEvents_eq];simp[Go.ConcR.ofEvent_mk]);have hy:(t++#[({g:=0,fn:=a.frame.fn,pos:=a.frame.place,act:=.mark (.acquire (stA X.Wg))}:MemOp)])[t.size]?=some {g:=0,fn:=a.frame.fn,pos:=a.frame.place,act:=.mark (.acquire (stA X.Wg))}:=(by simp);refine⟨t.size,by rw[e1,act?_of hy],by rw[e1];simp[Trace.g?],by rw[e1];exact⟨0,by simp[Trace.g?],by rw[deaf_old (Nat.le_refl _)];exact h.crew.deaf0⟩,λi hi=>?_⟩;obtain⟨r,hr⟩:=h.crew.rel i hi (by rw[hq i hi];omega);exact⟨r,hr.appOther bA o_,lt_of_act? hr.act⟩
  .exact .inl (own hgo RI (tag':=.acq) (u':=0) (f':=f') ⟨rfl,hj,rfl,R5⟩ QO s_ (.inr ⟨rfl,by omega⟩))
 |ret=>
  obtain⟨rfl,hj,rfl,hi⟩:=Tw;rcases hi.cases with QP|⟨f',rfl,a',w',es,hgo,RI,R5⟩
  .exact .inr ⟨rfl,QP⟩
  .exact .inl (own hgo RI (tag':=.ret) (u':=0) (f':=f') ⟨rfl,hj,rfl,R5⟩ QO s_ (.inr ⟨rfl,by omega⟩))
end

end Go.Proofs.YtkmoglhgkcnalaaGreatDoor
namespace Go.Proofs.YtkmoglhgkcnalaaGreatDoor
open Go Go.Conc
open Go.ConcN (sumTo upd sumTo_upd upd_ne upd_same sumTo_upd_out CT Apart PermW WgLive RelBy WD ShN OkW Ok0 norel_of CTag phi Vc Ssum Fsum cnt pend isOpen isW3 OpenSt AllQuit Vc_upd Vc_le)
open Go.ConcR (KK WgAt stA smA rd wr DC0 Bk)
section
variable{X:aA}{Fin Anch:(Nat->Prop)->Goroutine->World->Prop}{S:Nat->Prop}{gs:Array Goroutine}{t:Trace}{D D':Nat->WD}{Nd Nd':Nat->ep}{d0:Nat}{q q':Nat->Nat}{tag:CTag}{u f0:Nat}{a:Goroutine}{st sm SU:Int}{sl:Option (Nat×Nat)}
theorem iC.status(h:iC X S m j gs w t D Nd V0 d0 q)(hi:i<j):∃g,gs[1+m+i]?=some g/\(g.status=.running\/(g.status=.finished/\(D i).stage=1)):=by
 letI:Go.ConcR.Payload:=dh
 obtain⟨g,hg,hs⟩:=h.wk i hi;refine⟨g,hg,?_⟩;rcases hs with⟨_,_,_,rfl,hW,_⟩|⟨_,hs⟩
 .exact .inl hW.running
 .by_cases h1:(D i).stage=1
  .exact(Go.ConcN.WSit.status hs).imp id λx=>⟨x,h1⟩
  .exact .inl (Go.ConcN.WSit.running_of hs h1)
theorem dz.someone(hF:∀V g w,Fin V g w->g.status=.running)(hA:∀V g w,Anch V g w->g.status=.running)(h:dz X Fin Anch N S m j gs w t D Nd V0 d0 q tag u f0 a st sm):∃(i:Nat) (g:Goroutine),gs[i]?=some g/\g.status=.running:=by
 letI:Go.ConcR.Payload:=dh
 rcases h.sit.status hF hA with⟨hs,_⟩|⟨_,rfl⟩
 .exact⟨0,a,h.at0,hs⟩
 .cases h.mode with
  |opn h1 _ _=>exact h1.elim
  |reg _ _ h3=>
   obtain⟨i,hi,h5⟩:=Go.ConcN.exists_counted h3;obtain⟨g,hg,hs⟩:=h.crew.status hi;exact⟨_,g,hg,hs.resolve_right λx=>by omega⟩
  |last L _ h2 h3 _=>
   obtain⟨g,hg,hs⟩:=h.crew.status h2;exact⟨_,g,hg,hs.resolve_right λx=>by omega⟩
  |fin h1 _=>exact h1.elim
theorem dz.awake(hF:∀V g w,Fin V g w->g.status=.running)(hA:∀V g w,Anch V g w->g.status=.running)(h:dz X Fin Anch N S m j gs w t D Nd V0 d0 q tag u f0 a st sm):∀g∈gs,Conc.awake g:=by
 intro g hg;obtain⟨i,hi⟩:=Array.mem_iff_getElem?.1 hg;have QK:i<1+m+j:=by have:=(Array.getElem?_eq_some_iff.1 hi).1;rw[h.crew.size]at this;exact this
 by_cases h0:i=0
 .subst h0;rw[h.at0]at hi;cases hi;rcases h.sit.status hF hA with⟨hs,_⟩|⟨hs,_⟩
  .exact awake_of (.inl hs)
  .exact awake_of (.inr (.inl hs))
 .by_cases hm:i<=m
  .obtain⟨x,hx,hq⟩:=h.crew.old i o_ hm;rw[hi]at hx;cases hx;exact awake_of (hq.status.elim .inl λx=>.inr (.inr x))
  .obtain⟨k,rfl⟩:∃k,i=1+m+k:=⟨i-(1+m),by omega⟩;obtain⟨x,hx,hs⟩:=h.crew.status (i:=k) o_;rw[hi]at hx;cases hx;exact awake_of (hs.elim .inl λx=>.inr (.inr x.1))
theorem dz.step(hF:∀V g w,Fin V g w->g.status=.running)(hA:∀V g w,Anch V g w->g.status=.running)(Ym:∀V g w,Anch V g w->∃k,bq X (pE X Fin Anch) k V g w)(hN:N<2147483648)
 (Ty:∀gs w sl t D Nd V0 q f0 a,dz X Fin Anch N S m N gs w t D Nd V0 0 q .ret 0 f0 a 0 0->(∀QI,aY X V0 w QI->Fin V0 a QI)->dB X.P QS (crowd gs w sl) t)
 (h:dz X Fin Anch N S m j gs w t D Nd V0 d0 q tag u f0 a st sm) (TH:NJ X Fin Anch N S m QS j Nd (gm N j D tag u) (kx m j D f0 q)):dB X.P QS (crowd gs w sl) t:=by
 obtain⟨i,g,d,S8,hi,Q_,QZ⟩:=crowd_pick (P:=X.P) (w:=w) (sl:=sl) (h.awake hF hA) (h.someone hF hA);have QK:i<1+m+j:=by have:=(Array.getElem?_eq_some_iff.1 hi).1;rw[h.crew.size]at this;exact this
 have hd:=h.at d;by_cases h0:i=0
 .subst h0;rw[h.at0]at hi;cases hi;rcases hd.starter (sl:=S8) Ym hN TH Q_ with⟨m₁,ops,h1,h2⟩|⟨rfl,QP⟩
  .exact dB.next (QZ.trans h1) h2
  .obtain⟨rfl,hj,rfl,_⟩:=h.sit;obtain⟨_,rfl,rfl⟩:=h.mode.fin_inv trivial;subst hj;exact Ty _ _ _ _ _ _ _ _ _ _ h λQI QJ=>QP QI ⟨⟨QJ.own.keep,QJ.own.size,QJ.own.os,QJ.own.output,QJ.own.tape⟩,QJ.live⟩
 .by_cases hm:i<=m
  .obtain⟨x,hx,hq⟩:=hd.crew.old i o_ hm;rw[hi]at hx;cases hx;have hib:(i==0)=false:=(by simpa using h0);cases U2:q i with
   |zero=>rw[U2]at hq;rw[hq.1]at Q_;cases Q_
   |succ k=>
    rw[U2]at hq;rcases hq with⟨hf,_⟩|⟨_,g',es,hmu,XM,V5⟩
    .rw[hf]at Q_;cases Q_
    .have Sy:=runT_crowd_go (P:=X.P) (sl:=S8) (i:=i) hi (by rw[hib];exact XM (w.at d));have hc:=hd.crew.oldStep (i:=i) (k:=k) o_ hm (g:=g) hmu V5;obtain⟨tag',f',a',hS,hf',U3⟩:=hd.other hF hA (k:=i) o_ hc (aY.refl X V0 _) hd.wg (λ_ ht _=>hd.mode.retag ht) (λe=>(hd.acq e).app λi' r _ hr=>hr.appOther bA o_) hd.acc;refine dB.next (QZ.trans Sy) (TH _ _ _ _ _ _ _ _ _ _ _ _ _ _ _ _ hS (.inr ⟨by simp only[gm,U3],rfl,.inr ⟨rfl,?_⟩⟩));have hs:sumTo (m+1) (upd q i k)+q i=sumTo (m+1) q+k:=sumTo_upd q k id o_;simp only[kx];omega
  .obtain⟨k,rfl⟩:∃k,i=1+m+k:=⟨i-(1+m),by omega⟩;obtain⟨m₁,ops,h1,h2⟩:=hd.worker (sl:=S8) hF hA hN TH (i:=k) o_ hi Q_;exact dB.next (QZ.trans h1) h2
def Ge(X:aA)(y x:Nat×ep):Prop:=y.1=x.1/\jj X x.1 y.2 x.2
theorem zp{x:ep}(h:Acc (jj X i) x):Acc (Ge X) (i,x):=by
 induction h with
 |intro x _ ih=>
  refine⟨_,λy hy=>?_⟩;obtain⟨k,y⟩:=y;obtain⟨h1,h2⟩:=hy;have h1':k=i:=h1;subst h1';exact ih y h2
theorem Cs(hF:∀V g w,Fin V g w->g.status=.running)(hA:∀V g w,Anch V g w->g.status=.running)(Ym:∀V g w,Anch V g w->∃k,bq X (pE X Fin Anch) k V g w)(hN:N<2147483648)
 (Ty:∀gs w sl t D Nd V0 q f0 a,dz X Fin Anch N S m N gs w t D Nd V0 0 q .ret 0 f0 a 0 0->(∀QI,aY X V0 w QI->Fin V0 a QI)->dB X.P QS (crowd gs w sl) t):
 ∀(r1 j:Nat) (gs:Array Goroutine) (w:World) (sl:Option (Nat×Nat)) (t:Trace) (D:Nat->WD) (Nd:Nat->ep) (V0:Nat->Prop) (d0:Nat) (q:Nat->Nat) (tag:CTag) (u f0:Nat) (a:Goroutine) (st sm:Int),
  gm N j D tag u=r1->dz X Fin Anch N S m j gs w t D Nd V0 d0 q tag u f0 a st sm->dB X.P QS (crowd gs w sl) t:=by
 intro r1;induction r1 using Nat.strongRecOn with
 |ind r1 ih1=>
  have key:∀(j:Nat) (F:Nat->Nat×ep),Acc (Ac (Ge X) j) F->∀(r3:Nat) (gs:Array Goroutine) (w:World) (sl:Option (Nat×Nat)) (t:Trace) (D:Nat->WD) (Nd:Nat->ep) (V0:Nat->Prop) (d0:Nat) (q:Nat->Nat) (tag:CTag) (u f0:Nat) (a:Goroutine) (st sm:Int),
   F=(λi=>(i,Nd i))->gm N j D tag u=r1->kx m j D f0 q=r3->dz X Fin Anch N S m j gs w t D Nd V0 d0 q tag u f0 a st sm->dB X.P QS (crowd gs w sl) t:=by
   intro j F W2;induction W2 with
   |intro F _ ih2=>
    intro r3;induction r3 using Nat.strongRecOn with
    |ind r3 ih3=>
     intro gs w sl t D Nd V0 d0 q tag u f0 a st sm hF' e1 e3 h;refine h.step hF hA Ym hN Ty λj' TD w' S8 t' D' Nd' V0' d0' q' tag' u' f' a' st' SU h' Ri=>?_;rcases Ri with Ri|⟨h1,rfl,Ri⟩
     .exact ih1 _ o_ _ _ _ _ _ _ _ _ _ _ _ _ _ _ _ _ rfl h'
     .rcases Ri with⟨i,x,hi,hx,rfl⟩|⟨rfl,Ri⟩
      .refine ih2 (λk=>(k,upd Nd i x k)) ⟨i,(i,x),hi,?_,?_⟩ _ _ _ _ _ _ _ _ _ _ _ _ _ _ _ _ rfl (h1.trans e1) rfl h'
       .rw[hF'];exact⟨rfl,hx⟩
       .rw[hF']
        funext k
        by_cases e:k=i
        .subst e;rw[upd_same,upd_same]
        .rw[upd_ne _ _ e,upd_ne _ _ e]
      .exact ih3 _ o_ _ _ _ _ _ _ _ _ _ _ _ _ _ _ _ hF' (h1.trans e1) rfl h'
  intro j gs w sl t D Nd V0 d0 q tag u f0 a st sm e1 h;exact key j (λi=>(i,Nd i)) (oe j _ λi hi=>zp (h.acc i hi)) _ _ _ _ _ _ _ _ _ _ _ _ _ _ _ _ rfl e1 rfl h
end

end Go.Proofs.YtkmoglhgkcnalaaGreatDoor
namespace Go.Proofs.YtkmoglhgkcnalaaGreatDoor
open Go Go.Conc
open Go.ConcN (sumTo upd sumTo_upd upd_ne upd_same CT Apart PermW WgLive RelBy WD CTag AllQuit)
open Go.ConcR (KK WgAt stA smA rd wr DC0 Bk)
section
variable{X:aA}{Fin Anch:(Nat->Prop)->Goroutine->World->Prop}{S:Nat->Prop}{gs:Array Goroutine}{t:Trace}{D:Nat->WD}{Nd:Nat->ep}{q:Nat->Nat}{f0:Nat}{a:Goroutine}
def GF(S:Nat->Prop)(Wg b:Nat):Prop:=S b\/b=Wg
def uk(m:Nat)(D:Nat->WD)(q:Nat->Nat)(i:Nat):Nat:=if i<=m then q i else(D (i-(1+m))).fuel
theorem dz.over(h:dz X Fin Anch N S m N gs w t D Nd V0 0 q .ret 0 f0 a 0 0):t.HandedOver:=by
 obtain⟨k,h1,h2,h3,h4⟩:=h.acq rfl;intro i g hg QQ hc;by_cases hm:g<=m
 .exact h.crew.over i g hg QQ hm hc
 .have hle:g<=m+N:=by
   unfold Trace.g? at hg;obtain⟨op,ho,rfl⟩:=Option.map_eq_some_iff.1 hg;exact h.crew.ct.gs i op ho
  obtain⟨r,hr,hrk⟩:=h4 (g-(1+m)) o_;rw[show 1+m+(g-(1+m))=g from by omega]at hr;have edge:HappensBefore t r k:=.single (.inr ⟨.marked hrk (.inr hr.act) h1 (λk _ _=>h.crew.norel k),hr.heard,h3⟩);have hle:i<=r:=Nat.le_of_not_lt λQK=>hr.after i QK hg hc;rcases Nat.lt_or_ge i r with QK|hge
  .exact⟨k,h2,.trans (.single (.inl ⟨QK,g,hg,hr.g⟩)) edge⟩
  .obtain rfl:i=r:=by omega
   exact⟨k,h2,edge⟩
theorem dz.past(h:dz X Fin Anch N S m N gs w t D Nd V0 0 q .ret 0 f0 a 0 0):Past (fA (GF S X.Wg)) w.heap.size t:=by
 refine⟨h.crew.ct.nr,λi x hx RY=>?_,h.over,h.crew.deaf0,h.crew.seen⟩;obtain⟨op,ho,hox⟩:=touch_of hx;have hg:t.g? i=some op.g:=by unfold Trace.g?;rw[ho];rfl
 by_cases hm:op.g<=m
 .exact h.crew.known i x op.g hx hg hm RY
 .by_cases hc:t.counts i
  .obtain⟨k,h1,h2⟩:=h.over i op.g hg o_ hc;unfold Trace.g? at h1;obtain⟨y,hy,hy0⟩:=Option.map_eq_some_iff.1 h1;exact .inl ⟨k,y,hy,hy0,.inr h2⟩
  .have Ur:x.kind=.atomic:=by
    cases hk:x.kind with
    |atomic=>rfl
    |plain=>exact absurd ⟨x,hx,RY,.inl (by rw[hk];simp)⟩ hc
    |said=>exact absurd ⟨x,hx,RY,.inl (by rw[hk];simp)⟩ hc
   exact .inr ⟨h.crew.atom i x op.g hx hg o_ Ur,Ur⟩
theorem dz.leavers(h:dz X Fin Anch N S m N gs w t D Nd V0 0 q .ret 0 f0 a 0 0):Leavers X.P t gs (uk m D q):=by
 letI:Go.ConcR.Payload:=dh
 obtain⟨hq,_,_⟩:=h.mode.fin_inv trivial;refine⟨λi g hi hg=>?_,λj hj=>?_⟩
 .have QK:i<1+m+N:=by have:=(Array.getElem?_eq_some_iff.1 hg).1;rw[h.crew.size]at this;exact this
  unfold uk;by_cases hm:i<=m
  .rw[if_pos hm];obtain⟨x,hx,hqx⟩:=h.crew.old i hi hm;rw[hg]at hx;cases hx;exact hqx
  .rw[if_neg hm];obtain⟨k,rfl⟩:∃k,i=1+m+k:=⟨i-(1+m),by omega⟩;have hk:k<N:=(by omega);rw[show 1+m+k-(1+m)=k from by omega,h.crew.deafW k hk];obtain⟨x,hx,hs⟩:=h.crew.wk k hk;rw[hg]at hx;cases hx;have h1:=hq k hk;rcases hs with⟨h7,_⟩|⟨_,hs⟩
   .omega
   .exact Go.ConcN.WSit.quits hs h1
 .rw[h.crew.size]at hj;exact Go.ConcN.Deaf_absent λi op hi e=>by have:=h.crew.ct.gs i op hi;omega
end

section
variable{X:aA}{S:Nat->Prop}{Next:(Nat->Prop)->Goroutine->World->Prop}
theorem A6(hv:∀b,V b->b<B/\¬S b)(hr:∀b,RO b->b<B/\¬S b){e:Event}(he:eC V RO e):EvL (fA S) B e:=by
 refine⟨λx hx hs=>?_,(iG he).1,(iG he).2.1,t_ (λb hb=>(hv b hb).1) (λb hb=>(hr b hb).1) he⟩;exfalso;obtain⟨loc,wr,sy⟩:=e;cases loc with
 |cell a=>
  obtain⟨rfl,h⟩:=he;have RE:(MemAct.access ⟨.cell a,wr,false⟩).touch?=some x:=hx;simp only[MemAct.touch?,Option.some.injEq]at RE;subst RE;have SI:S a.block:=hs.elim id λh=>by cases h
  rcases h with h|⟨h,_⟩
  .exact(hv _ h).2 SI
  .exact(hr _ h).2 SI
 |obj r=>
  obtain⟨rfl,h⟩:=he;simp only[MemAct.ofEvent,MemAct.touch?,Option.some.injEq]at hx;subst hx;have SI:S r:=hs.elim id λh=>by cases h
  exact(hv _ h).2 SI
 |mark mm=>
  have hm:gw mm=true:=he;cases mm with
  |extern f=>cases hx
  |noRoom=>cases hx
  |_=>simp[gw]at hm
 |output=>exact he.elim
 |goroutines=>exact he.elim
structure kU (P:Program) (S V RO:Nat->Prop) (gs:Array Goroutine) (w:World) (t:Trace) (q:Nat->Nat) (a:Goroutine):Prop where
 at0:gs[0]?=some a
 leave:Leavers P t gs q
 past:Past (fA S) w.heap.size t
 quiet:Quiet (fA S) t
 who:∀op∈t,op.g<gs.size
 low:∀b,S b->b<w.heap.size
 own:∀b,V b->b<w.heap.size/\¬S b
 ro:∀b,RO b->b<w.heap.size/\¬S b
theorem C3(hN:∀V g w,Next V g w->g.status=.running)
 (Rl:∀V gs w sl t q a,kU X.P S V X.RO gs w t q a->(∀QI,aY X V w QI->Next V a QI)->dB X.P QS (crowd gs w sl) t):
 ∀(k:Nat) (V:Nat->Prop) (gs:Array Goroutine) (w:World) (sl:Option (Nat×Nat)) (t:Trace) (q:Nat->Nat) (a:Goroutine),kU X.P S V X.RO gs w t q a->bq X Next k V a w->dB X.P QS (crowd gs w sl) t:=by
 intro k;induction k with
 |zero=>exact λV gs w sl t q a hB hI=>Rl V gs w sl t q a hB hI
 |succ k ih=>
  intro V gs w sl t q a hB hI;have Q_:=hI.running hN;rcases hI with hI|⟨_,hI⟩
  .exact Rl V gs w sl t q a hB hI
  .refine GC Q_ w _ gs w.drawn sl t q (Nat.le_refl _) hB.at0 hB.leave hB.past hB.quiet hB.who ?_;intro TD d0 sl0 d S8 t' q' h0 hL hP hQ hW QZ;have QK:0<TD.size:=(Array.getElem?_eq_some_iff.1 h0).1;obtain⟨g',w',es,hgo,RI,hI'⟩:=hI (w.at d) (aY.at X V w d);have QY:w.heap.size<=w'.heap.size:=RI.size;have Ra:∀b,grown V (w.at d) w' b->b<w'.heap.size/\¬S b:=λb hb=>by
    rcases hb with hb|hb
    .exact⟨Nat.lt_of_lt_of_le (hB.own b hb).1 QY,(hB.own b hb).2⟩
    .refine⟨hb.2,λhs=>?_⟩;have h1:=hB.low b hs;have h2:w.heap.size<=b:=hb.1;omega
   have RA:∀b,X.RO b->b<w'.heap.size/\¬S b:=λb hb=>⟨Nat.lt_of_lt_of_le (hB.ro b hb).1 QY,(hB.ro b hb).2⟩;have hevs:∀e∈es,EvL (fA S) w'.heap.size e:=λe he=>A6 Ra RA (RI.ev e he);have Sy:=runT_crowd_go (P:=X.P) (sl:=S8) (i:=0) h0 (show stepG X.P (0==0) a (w.at d)=_ from hgo);refine dB.next (QZ.trans Sy) (ih (grown V (w.at d) w') _ w' S8 _ q' g' ?_ hI');exact
    {at0:=by simp[QK]
     leave:=rh hL a g' w' _ _ es QK
     past:=(hP.mono QY).own hevs
     quiet:=hQ.app λop QH x hx hs=>by
        obtain⟨e,he,rfl⟩:=Go.Conc.mem_ofEvents QH;exact⟨(hevs e he).1 x hx hs,λ_=>rfl⟩
     who:=λop QH=>by
        rw[Array.size_setIfInBounds,Array.size_map];rcases Array.mem_append.1 QH with QH|QH
        .exact hW op QH
        .rw[bA op QH];exact QK
     low:=λb hb=>Nat.lt_of_lt_of_le (hB.low b hb) QY
     own:=Ra
     ro:=RA}
theorem kU.crew{gs:Array Goroutine}{t:Trace}{q:Nat->Nat}{a:Goroutine}{Nd:Nat->ep}{D:Nat->WD}(hB:kU X.P S V (λ_=>False) gs w t q a)(hm:gs.size=1+m)(hL:iB X S 0 Nd V0 w)
 (SC:∀op∈t,op.act.low X.Wg) (VE:X.RO 0) (RP:X.list w):iC X S m 0 gs w t D Nd V0 0 q:=by
 have VT:∀i x,touchAt t i=some x->¬gF S X.Wg x.loc->Knows t 0 i:=λi x hx hs=>by
  have RY:x.loc.isMemory=true:=by
   cases h:x.loc.isMemory with
   |true=>rfl
   |false=>exact absurd (.inr h) hs
  rcases hB.past.known i x hx RY with h|⟨h,_⟩
  .exact h
  .refine absurd ?_ hs;rcases h with h|h
   .left;cases hl:x.loc with
    |cell a=>rw[hl]at h;exact Or.inl h
    |obj r=>rw[hl]at h;exact Or.inl h
    |_=>rw[hl]at h;exact h.elim
   .exact .inr h
 have Sd:∀l,fA S l->gF S X.Wg l:=λl h=>by
  rcases h with h|h
  .left;cases l with
   |cell a=>exact Or.inl h
   |obj r=>exact Or.inl h
   |_=>exact h.elim
  .exact .inr h
 exact
  {size:=by rw[hm];omega
   old:=λi h0 hi=>by
    have QK:i<gs.size:=(by omega);exact⟨gs[i],Array.getElem?_eq_getElem QK,hB.leave.old i _ h0 (Array.getElem?_eq_getElem QK)⟩
   wk:=λi hi=>absurd hi (Nat.not_lt_zero i)
   lies:=hL
   tabRO:=VE
   ct:=
    {quiet:=λi op x hi hx hs=>by
       have Ri:=oy SC (i:=i) (a:=x) (by rw[touchAt_of hi];exact hx);rcases hs with hs|hs
       .have:di S x.loc:=by
         cases hl:x.loc with
         |cell a=>
          rw[hl]at hs Ri;rcases hs with hs|hs
          .exact hs
          .have:a.block<X.Wg:=Ri;omega
         |obj r=>
          rw[hl]at hs Ri;rcases hs with hs|hs
          .exact hs
          .have:r<X.Wg:=Ri;omega
         |_=>rw[hl]at hs;exact hs.elim
        exact hB.quiet i op x hi hx (.inl this)
       .exact hB.quiet i op x hi hx (.inr hs)
     own:=λk _ _ l ⟨i,hi,_⟩=>absurd hi (Nat.not_lt_zero i)
     rd:=λk _ hk l ⟨h1,_⟩=>absurd h1 o_
     free:=λl hs _ i x hx e=>VT i x hx (by rw[e];exact hs)
     mine:=λl hs _ i x hx e _=>VT i x hx (by rw[e];exact hs)
     nr:=hB.past.clean
     gs:=λi op hi=>by
       have:=hB.who op (Array.mem_of_getElem? hi);omega}
   norel:=λi hi=>by
    unfold Trace.act? at hi;obtain⟨op,ho,hoa⟩:=Option.map_eq_some_iff.1 hi;have:=SC op (Array.mem_of_getElem? ho);rw[hoa]at this;exact absurd this (Nat.lt_irrefl _)
   deaf0:=hB.past.hears
   deafW:=λi hi=>absurd hi (Nat.not_lt_zero i)
   rel:=λi hi=>absurd hi (Nat.not_lt_zero i)
   has:=λi hi=>absurd hi (Nat.not_lt_zero i)
   list:=RP
   seen:=hB.past.seen
   over:=λi g hg h0 _ hc=>hB.past.over i g hg h0 hc
   known:=λi x g hx _ _ RY=>(hB.past.known i x hx RY).imp id λh=>⟨Sd _ h.1,h.2⟩
   atom:=λi x g hx hg hm'=>by
    unfold Trace.g? at hg;obtain⟨op,ho,rfl⟩:=Option.map_eq_some_iff.1 hg;have:=hB.who op (Array.mem_of_getElem? ho);omega}
end

section
variable{X:aA}{S:Nat->Prop}{Fin Anch:(Nat->Prop)->Goroutine->World->Prop}
theorem xR(hF:∀V g w,Fin V g w->g.status=.running)(hA:∀V g w,Anch V g w->g.status=.running)(Ym:∀V g w,Anch V g w->∃k,bq X (pE X Fin Anch) k V g w)(hN:N<2147483648)(hN0:0<N)
 (Ty:∀m gs w sl t D Nd V0 q f0 a,dz X Fin Anch N S m N gs w t D Nd V0 0 q .ret 0 f0 a 0 0->(∀QI,aY X V0 w QI->Fin V0 a QI)->dB X.P QS (crowd gs w sl) t)
 {V V0:Nat->Prop} {gs:Array Goroutine} {w w':World} {sl:Option (Nat×Nat)} {t:Trace} {q:Nat->Nat} {a a':Goroutine} (hB:kU X.P S V (λ_=>False) gs w t q a) (Q_:a.status=.running) (hWg:X.Wg=w.heap.size)
 (hgo:∀d,stepG X.P true a (w.at d)=.go a' (w'.at d) #[]) (QY:w.heap.size<=w'.heap.size) (hL:iB X S 0 (λ_=>⟨λ_=>False,a,w⟩) V0 w') (Rm:WgAt X.ty X.Wg w' 0 0) (VE:X.RO 0) (RP:X.list w') (WG:ji X Anch N N V0 a' w'):
 dB X.P QS (crowd gs w sl) t:=by
 refine GC Q_ w _ gs w.drawn sl t q (Nat.le_refl _) hB.at0 hB.leave hB.past hB.quiet hB.who ?_;intro TD d0 sl0 d S8 t' q' h0 hLv hP hQ hW QZ;have QK:0<TD.size:=(Array.getElem?_eq_some_iff.1 h0).1;have Sy:=runT_crowd_go (P:=X.P) (sl:=S8) (i:=0) h0 (show stepG X.P (0==0) a (w.at d)=_ from hgo d);have e0:MemOp.ofEvents 0 a.frame.fn a.frame.place #[]=#[]:=by rw[ofEvents_eq];simp
 rw[e0]at Sy;have Xd:=rh hLv a a' (w'.at d) a.frame.fn a.frame.place #[] QK;rw[e0]at Xd;refine dB.next (QZ.trans Sy) ?_;have et:t'++(#[]:Trace)=t':=Array.append_empty;rw[et];rw[et]at Xd;have WZ:kU X.P S (λ_=>False) (λ_=>False) ((TD.map (woken X.P a a' (w'.at d))).setIfInBounds 0 a') (w'.at d) t' q' a':=
  {at0:=by simp[QK]
   leave:=Xd
   past:=hP.mono QY
   quiet:=hQ
   who:=λop QH=>by
    rw[Array.size_setIfInBounds,Array.size_map];exact hW op QH
   low:=λb hb=>Nat.lt_of_lt_of_le (hB.low b hb) QY
   own:=λb hb=>hb.elim
   ro:=λb hb=>hb.elim}
 obtain⟨m,hm⟩:∃m,((TD.map (woken X.P a a' (w'.at d))).setIfInBounds 0 a').size=1+m:=⟨TD.size- 1,by simp;omega⟩;have hc:=WZ.crew (D:=λ_=>⟨7,0,0⟩) hm (hL.grow (w':=w'.at d) (Nat.le_refl _)) (by rw[hWg];exact hP.seen) VE RP;obtain⟨r,rfl⟩:∃r,N=r+1:=⟨N- 1,by omega⟩;obtain⟨k,hk⟩:=WG;refine Cs (Fin:=Fin) (Anch:=Anch) (N:=r+1) (S:=S) (m:=m) hF hA Ym hN (Ty m) _ 0 _ _ _ _ (λ_=>⟨7,0,0⟩) _ _ 0 _ (.sp r 5) 0 k a' 0 0 rfl ⟨WZ.at0,⟨rfl,by omega,by omega,.inl ⟨rfl,rfl,?_⟩⟩,hc,Rm,?_,by simp,λi hi=>absurd hi (Nat.not_lt_zero i)⟩
 .have:=hk.rely (aY.at X V0 w' d);rw[show r+1-(r+1)=0 from by omega]at this;exact this
 .have:=Go.ConcN.Mode.opn (j:=0) (D:=λ_=>(⟨7,0,0⟩:WD)) (tag:=.sp r 5) trivial (λi hi=>absurd hi (Nat.not_lt_zero i)) s_;simpa[Go.ConcN.Vc,sumTo,Go.ConcN.pend]using this
end

end Go.Proofs.YtkmoglhgkcnalaaGreatDoor
namespace Go.Proofs.YtkmoglhgkcnalaaGreatDoor
open Go Go.Conc Go.RowKit
open Go.ConcN (WgLive sumTo upd CT WD CTag AllQuit)
open Go.ConcR (DC0 WgAt)
theorem ov.re{N:eT}{val:Nat->Value}(D:ov N n val)(bs bg be:Nat):ov {N with bs:=bs,bg:=bg,be:=be} n val:=
 ⟨D.call,D.plain,D.glen,D.count,D.small,D.links⟩
section
variable{N:eT}{val:Nat->Value}{wK:World}{c:Frame}{S:Nat->Prop}
def Qi(n:Nat)(val:Nat->Value)(S:Nat->Prop)(wK:World)(P:Program)(c:Frame)(cs:List Frame)(gs:Array Goroutine)(w:World)(t:Trace)(q:Nat->Nat)(Wg C:Nat):Prop:=
 gs[0]?=some (cQ (c.finish (.sk C n n)) cs)/\dw (λb=>b<wK.heap.size/\¬S b) wK w/\w.heap[C]?=some (.cells (Array.ofFn λi:Fin n=>val i) 9)/\wK.heap.size<=C/\wK.heap.size<=Wg/\Wg<w.heap.size/\Wg≠C/\
  Past (fA λb=>S b\/b=Wg) w.heap.size t/\Quiet (fA λb=>S b\/b=Wg) t/\(∀op∈t,op.g<gs.size)/\Leavers P t gs q
theorem Hb(D:ov N n val)(Un:0<n)(hga:∀b,N.gr b->b<wK.heap.size/\¬S b)(hz:0<wK.heap.size/\¬S 0)(TR:NK N n wK)(VE:wK.rangeAt 0 0 (aC N.KS))(hzero:∃v0,wK.cell? ⟨0,0,none⟩=some v0)
 {a:Act} (hF:ay [(0,.agg (N.s.cells++N.ex)),(1,.slice (some N.ga) N.glen N.gcap)] 20 [] a) {gs:Array Goroutine} {sl:Option (Nat×Nat)} {t:Trace} {q:Nat->Nat} {code:Code} (Xk:f94.body=some code)
 (hB:kU prog S Vn (λb=>b<wK.heap.size/\¬S b) gs wK t q (cQ ((base 94).atR a [.code code]) (c::cs)))
 (Ty:∀gs w sl t q Wg C,Qi n val S wK prog c cs gs w t q Wg C->dB prog QS (crowd gs w sl) t):dB prog QS (crowd gs wK sl) t:=by
 rw[zi]at Xk;cases Xk;have XQ:=Oq (ty:=184) (val:=val) (c:=c) (cs:=cs) (RO:=λb=>b<wK.heap.size/\¬S b) Un D.small D.count (λb hb=>hb.1) hF;refine C3 (X:=eX prog 184 0 0 n val λb=>b<wK.heap.size/\¬S b) (λV g w ⟨a,bs,bg,C,be,h⟩=>by rw[h.here]) ?_ 30 Vn gs wK sl t q _ hB XQ.now;intro V gs w sl t q a hB hA;obtain⟨act,bs,bg,C,be,h2⟩:=hA w (aY.refl _ _ _);have hae:=h2.here;subst hae;obtain⟨o1,o2,o3,o4,o5⟩:=h2.order;have Uv:=ao w (.cells #[.int .u64 0,.int .u32 0] 184);have hwat:=aK w (.cells #[.int .u64 0,.int .u32 0] 184);have SK:=h2.kept.alloc (λb hb=>hb.1) (.cells #[.int .u64 0,.int .u32 0] 184);have hszK:=h2.kept.size;have Ut:∀b,b<w.heap.size->(w.alloc (.cells #[.int .u64 0,.int .u32 0] 184)).heap[b]?=w.heap[b]?:=λb hb=>bp _ _ hb;have h0:wT {N with bs:=bs,bg:=bg,be:=be} w.heap.size C n (λb=>(b<wK.heap.size/\¬S b)\/b=bs\/b=bg\/b=be) (w.alloc (.cells #[.int .u64 0,.int .u32 0] 184)):=
  {pap:=
    {sig:=(Ut bs o_).trans h2.sig
     gone:=(Ut bg o_).trans h2.gone
     ends:=(Ut be o_).trans h2.ends
     digs:=λw2 h2=>TR w2 λb hb=>(h2 b hb).trans (SK.keep b (hga b hb))
     tab:=λj v hv=>by
      have:=VE j v hv;unfold World.cell? at this⊢;rw[SK.keep 0 hz];exact this
     zero:=by
      obtain⟨v0,h0⟩:=hzero;refine⟨v0,?_⟩;rw[←h0];unfold World.cell?;rw[SK.keep 0 hz]}
   ro:=⟨.inr (.inl rfl),.inr (.inr (.inl rfl)),.inr (.inr (.inr rfl)),λb hb=>.inl (hga b hb),.inl hz⟩
   low:=⟨λb hb=>by rw[Uv];rcases hb with hb|hb|hb|hb<;>omega,by rw[Uv];omega,by rw[Uv];omega⟩
   sep:=⟨λhb=>by rcases hb with hb|hb|hb|hb<;>omega,by omega,λhb=>by rcases hb with hb|hb|hb|hb<;>omega⟩}
 have Rm:WgAt 184 w.heap.size (w.alloc (.cells #[.int .u64 0,.int .u32 0] 184)) 0 0:=hwat;cases ho:(bC f94 2)[0]? with
 |none=>exact absurd ho (by simp;decide)
 |some o=>
 obtain⟨e1,e2,e3⟩:=dS (d:=some 6) (p:=.alloc 184) ho k_;have WG:=GB (val:=val) (c:=c) (cs:=cs) (D.re bs bg be) h0 (a:=act.put (some 6) (.pk w.heap.size 0)) ((h2.has.put (d:=6) d_ _)) ⟨0,0,Rm⟩;refine xR (X:=eX prog 184 w.heap.size C n val λb=>(b<wK.heap.size/\¬S b)\/b=bs\/b=bg\/b=be) (S:=S) (N:=8)
  (Fin:=AR (eX prog 184 w.heap.size C n val λb=>(b<wK.heap.size/\¬S b)\/b=bs\/b=bg\/b=be) (w.alloc (.cells #[.int .u64 0,.int .u32 0] 184)) c cs)
  (Anch:=An (eX prog 184 w.heap.size C n val λb=>(b<wK.heap.size/\¬S b)\/b=bs\/b=bg\/b=be) f94 94 {N with bs:=bs,bg:=bg,be:=be} (w.alloc (.cells #[.int .u64 0,.int .u32 0] 184)) (c::cs))
  (V:=V) (V0:=Vn) (w':=w.alloc (.cells #[.int .u64 0,.int .u32 0] 184)) (λV g w h=>by rw[h.1]) (λV g w h=>Jy _ _ _ _ _ _ _ h) (λV g w h=>CL h0 V g w h) d_ d_ ?_ ⟨hB.at0,hB.leave,hB.past,hB.quiet,hB.who,hB.low,hB.own,λb hb=>hb.elim⟩ rfl rfl ?_ (by rw[Uv];omega) ?_ Rm (.inl hz) ?_ WG
 .intro m gs w2 sl t D2 Nd V0 q f0 a UU hFin;obtain⟨hq,_,_⟩:=UU.mode.fin_inv trivial;obtain⟨he,hk⟩:=hFin w2 (aY.refl _ _ _);subst he;have QR:∀k,k<n->w2.cell? ⟨C,k,none⟩=some (val k):=λk hk=>UU.crew.has (k%8) o_ (by have:=hq (k%8) o_;omega) k ⟨rfl,hk⟩;obtain⟨cells,WR,Up⟩:=UU.crew.list;have QU:cells=Array.ofFn λi:Fin n=>val i:=by
   apply Array.ext
   .rw[Array.size_ofFn];exact Up
   .intro k h1 h3;have hk:k<n:=(by rw[Array.size_ofFn]at h3;exact h3);have:=QR k hk;rw[ak WR,Array.getElem?_eq_getElem h1]at this;rw[Option.some.inj this];simp
  refine Ty gs w2 sl t (uk m D2 q) w.heap.size C ⟨UU.at0,?_,?_,by omega,hszK,?_,by omega,UU.past,UU.crew.ct.quiet,λop QH=>?_,UU.leavers⟩
  .exact SK.trans (hk.mono λb hb=>.inl hb)
  .rw[←QU];exact WR
  .exact UU.crew.lies.wgl.1
  .obtain⟨k,WS,UN⟩:=Array.getElem_of_mem QH;have:=UU.crew.ct.gs k op (by rw[Array.getElem?_eq_getElem WS,UN]);rw[UU.crew.size];omega
 .intro d;have hr:=Es (w:=w.at d) (ev:=act.eval) e2;have QZ:=stepG_value (P:=prog) (main:=true) (b:=base 94) (a:=act) (k:=[.code (.seq (.seq (rG f94 3) (.block 0 (.loop (gP f94)))) (j9 f94))]) (cs:=c::cs) (rest:=[]) ho (e3 _) (by simp[base]) hr.1;unfold listed at QZ;rw[hr.2,seen_none,e1]at QZ;exact QZ
 .refine⟨λi i' k h1 h3=>h1.1.symm.trans h3.1,by show w.heap.size≠C;omega,⟨by rw[Uv];show w.heap.size<_;omega,by rw[Uv];show C<_;omega⟩,λb hb=>⟨h0.low.1 b hb,λe=>h0.sep.2.2 (by have e:b=w.heap.size:=e;rw[←e];exact hb),λe=>h0.sep.1 (by have e:b=C:=e;rw[←e];exact hb)⟩,λb hb=>?_,λb hb=>hb.elim,λi hi=>absurd hi (Nat.not_lt_zero i),λi i' hi=>absurd hi (Nat.not_lt_zero i)⟩;have Ri:=hB.low b hb;have SC:∀x,x=bs\/x=bg\/x=C\/x=be->¬S x:=λx hx=>(hB.own x ((h2.own x).2 hx)).2;refine⟨by rw[Uv];omega,λhr=>?_,λe=>?_⟩
  .rcases hr with hr|hr|hr|hr
   .exact hr.2 hb
   .exact SC b (.inl hr) hb
   .exact SC b (.inr (.inl hr)) hb
   .exact SC b (.inr (.inr (.inr hr))) hb
  .exact SC b (.inr (.inr (.inl e))) hb
 .exact⟨_,(Ut C o_).trans h2.list,by simp⟩
end

end Go.Proofs.YtkmoglhgkcnalaaGreatDoor
namespace Go.Proofs.YtkmoglhgkcnalaaGreatDoor
open Go Go.Conc
open Go.ConcN (sumTo upd sumTo_upd upd_ne upd_same)
def xk(P:Program)(QS:Value->World->Prop)(S:Nat->Prop)(g:Goroutine)(w:World):Prop:=
 ∀gs d sl t q,kU P S (λ_=>False) (λ_=>False) gs (w.at d) t q g->dB P QS (crowd gs (w.at d) sl) t
def Qu(W:World)(b:Nat):Prop:=∃o,W.heap[b]?=some o/\gO o=true
structure Vz (W0:World) (S V:Nat->Prop) (wv w:World):Prop where
 vw:Vw V (λ_=>False) wv w
 sub:∀b,V b->b<w.heap.size/\¬S b
 size:wv.heap.size=w.heap.size
 low:∀b,S b->b<w.heap.size
 far:∀b,S b->W0.heap.size<=b
 more:W0.heap.size<=w.heap.size
 keep:∀b,b<W0.heap.size->¬V b->w.heap[b]?=W0.heap[b]?
 old:∀b,b<W0.heap.size->V b->Qu W0 b
 os:w.os=W0.os
 output:w.output=W0.output
 tape:w.tape=W0.tape
section
variable{S:Nat->Prop}{g:Goroutine}
theorem xk.step(Q_:g.status=.running)(h:∀d,∃g' w' es,stepG P true g (w.at d)=.go g' w' es/\w.heap.size<=w'.heap.size/\(∀e∈es,EvL (fA S) w'.heap.size e)/\xk P QS S g' w'):xk P QS S g w:=by
 intro gs d0 sl t q hB;refine GC Q_ (w.at d0) _ gs d0 sl t q (Nat.le_refl _) hB.at0 hB.leave hB.past hB.quiet hB.who ?_;intro TD d1 sl0 d S8 t' q' h0 hL hP hQ hWho QZ;obtain⟨g',w',es,q1,QY,Va,Rl⟩:=h d;have QK:0<TD.size:=(Array.getElem?_eq_some_iff.1 h0).1;have Sy:=runT_crowd_go (P:=P) (sl:=S8) (i:=0) h0 (show stepG P (0==0) g ((w.at d0).at d)=_ from q1);refine dB.next (QZ.trans Sy) (Rl _ w'.drawn S8 _ q' ?_);have Xs:Past (fA S) w'.heap.size t':=hP.mono QY;exact
  {at0:=by simp[QK]
   leave:=rh hL g g' w' _ _ es QK
   past:=Xs.own Va
   quiet:=hQ.app λop QH x hx hs=>by
    obtain⟨e,he,rfl⟩:=Go.Conc.mem_ofEvents QH;exact⟨(Va e he).1 x hx hs,λ_=>rfl⟩
   who:=λop QH=>by
    rw[Array.size_setIfInBounds,Array.size_map];rcases Array.mem_append.1 QH with QH|QH
    .exact hWho op QH
    .rw[bA op QH];exact QK
   low:=λb hb=>Nat.lt_of_lt_of_le (hB.low b hb) QY
   own:=λb hb=>hb.elim
   ro:=λb hb=>hb.elim}
theorem xk.fin(Q_:g.status=.running)(h:∀d,∃v es,stepG P true g (w.at d)=.ended (.done v) (w.at d) es/\(∀e∈es,EvL (fA S) w.heap.size e)/\QS v (w.at d)):xk P QS S g w:=by
 intro gs d0 sl t q hB;exact F9 Q_ hB.at0 hB.leave hB.past hB.quiet hB.who (λd=>h d) sl
theorem Vw.at(h:Vw V RO wL wR)(d e:Nat):Vw V RO (wL.at d) (wR.at e):=⟨h.size,h.low,h.mine,h.calm,h.ro,h.dead,h.tape⟩
theorem Vz.at{wv:World}(h:Vz W0 S V wv w)(d e:Nat):Vz W0 S V (wv.at d) (w.at e):=⟨h.vw.at d e,h.sub,h.size,h.low,h.far,h.more,h.keep,h.old,h.os,h.output,h.tape⟩
theorem FQ{wv SH:World}(h:Vz W0 S V wv w)(hd:pe V (λ_=>False) wv SH w w' #[] es):Vz W0 S (grown V wv SH) SH w'/\w.heap.size<=w'.heap.size/\∀e∈es,EvL (fA S) w'.heap.size e:=by
 have hm:=hd.more;have hz:=h.size;have Sf:=hd.mono.1;have h0:=h.more;have hg:∀b,grown V wv SH b->b<w'.heap.size/\¬S b:=λb hb=>by
  rcases hb with hb|hb
  .exact⟨by have:=(h.sub b hb).1;omega,(h.sub b hb).2⟩
  .exact⟨by omega,λhs=>by have:=h.low b hs;omega⟩
 refine⟨⟨hd.vw,hg,by omega,λb hb=>by have:=h.low b hb;omega,h.far,by omega,λb hb hn=>?_,λb hb hv=>?_,hd.os.trans h.os,hd.output.trans h.output,hd.tape.trans h.tape⟩,by omega,λe he=>?_⟩
 .have hnv:¬V b:=λhv=>hn (.inl hv);exact(hd.keep b o_ hnv).trans (h.keep b hb hnv)
 .exact h.old b hb (hv.elim id λq=>by omega)
 rcases hd.ev e he with x|x
 .simp at x
 .exact A6 hg (λb hb=>hb.elim) x
def OE(P:Program)(W0:World)(QS:Value->World->Prop)(ax:FuncId->Array Value->World->(Value->World->Prop)->Prop)
 (hax:∀{f args wv Q c cs},ax f args wv Q->∀S V w,Vz W0 S V wv w->(∀v SH S' V' w',Q v SH->Vz W0 S' V' SH w'->xk P QS S' (cQ (c.finish v) cs) w')->xk P QS S (cQ (Frame.enter P f args .normal) (c::cs)) w):Lg ⟨P,false,ax⟩ where
 main:=true
 ok fr cs wv:=∀S V w,Vz W0 S V wv w->xk P QS S (cQ fr cs) w
 step {fr cs wv fr' cs' SH} hs _ hd h:=λS V w hv=>by
  refine xk.step rfl λd=>?_;obtain⟨w',es,q1,q2⟩:=hs _ _ (w.at d) (hv.vw.at wv.drawn d) (.inl hv.size) (.inr hd);obtain⟨p1,p2,p3⟩:=FQ (w:=w.at d) (hv.at wv.drawn d) q2;exact⟨_,w',es,q1,p2,p3,h S _ w' p1⟩
 any {fr cs wv} h:=λS V w hv=>by
  refine xk.step rfl λd=>?_;obtain⟨fr',cs',SH,hs,hn⟩:=h (wv.at d) ⟨⟨0,λ_=>rfl,by simp;rfl⟩,rfl,rfl,rfl⟩;obtain⟨w',es,q1,q2⟩:=hs _ _ (w.at d) (hv.vw.at d d) (.inl hv.size) (.inl rfl);obtain⟨p1,p2,p3⟩:=FQ (w:=w.at d) (hv.at d d) q2;exact⟨_,w',es,q1,p2,p3,hn S _ w' p1⟩
 call h hn:=λS V w hv=>hax h S V w hv λv SH S' V' w' hQ S9=>hn v SH hQ S' V' w' S9
end

end Go.Proofs.YtkmoglhgkcnalaaGreatDoor
